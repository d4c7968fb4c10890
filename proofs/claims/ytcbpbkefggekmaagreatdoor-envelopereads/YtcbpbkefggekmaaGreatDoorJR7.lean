/- fieldsMay; Good; Encode, the program's and the document's; batches that are not too much; the reader's tags and digests; The document's reader: Read.; A region  -/
import Derived.Test.YtcbpbkefggekmaaGreatDoorJR0
import Derived.Test.YtcbpbkefggekmaaGreatDoorJR6
import Derived.Test.YtcbpbkefggekmaaGreatDoorJR5
import Derived.Test.YtcbpbkefggekmaaGreatDoorJR3
import Derived.Deep.Cut
import Derived.Deep.DeepCutAuto
import Derived.WalkKit
import Derived.Deep.RegionHeld3
namespace Go.Proofs.YtcbpbkefggekmaaGreatDoor
open Go.RowKit
open Sha Tal
def Mg.mayL (m : Mg) : Bool := batMay m.q m.rs && (chgMay m.ce m.cl m.cv m.he && (Go.Proofs.YtcbpbkefggekmaaGreatDoor.mayL 64 Ev.may m.ne.xs && (decide ((m.st.size : Int) ≤ 4194304) && sgsMay m.sg)))
def Mg.may (m : Mg) : Bool := (inB m.e 1048576 && inB m.l 64) && ((inB m.v 1099511627776 && inB m.s 1099511627776) && ((if m.k = 2 then m.vt.may else true) && ((if m.k = 7 then certMay m.ct m.cs else true) && m.mayL)))
set_option maxRecDepth 100000 in
set_option maxHeartbeats 8000000 in
theorem fieldsMay_any (m : Mg) (w : World) (om : m.ok) (am : m.At w) : Calls Tryz.prog 86 #[.agg m.ms.cells.toArray] w fun er w' => er = .returned (.bool m.may) ∧ Below w.heap.size w w' := by
 have hA : (w.alloc (.cells m.ms.cells.toArray 52)).rangeAt w.heap.size 0 m.ms.cells := by simpa using range_new w m.ms.cells.toArray 52
 have hB : Below w.heap.size w (w.alloc (.cells m.ms.cells.toArray 52)) := (Below.refl _ _).alloc (Nat.le_refl _) _
 have hs : w.heap.size < (w.alloc (.cells m.ms.cells.toArray 52)).heap.size := by simp
 have a1 := am.below hB
 obtain ⟨W, hW⟩ : ∃ W, Hid (w.alloc (.cells m.ms.cells.toArray 52) = W) := ⟨_, hide rfl⟩
 rw [hW.out] at hA hB hs a1
 have M := om.ms.at hA
 have ix : (Tryz.prog.info? 43).map (·.size) = some m.vt.cells.length := by rw [om.vt.len]; exact iszV
 have ic : (Tryz.prog.info? 50).map (·.size) = some (certL m.ct m.cs).length := by rw [show (certL m.ct m.cs).length = 37 by simp [certL, om.ct.len]]; exact iszC
 have cK : W.cell? ⟨w.heap.size, 0, none⟩ = some (.int .i64 m.k) := M.k
 have cE : W.cell? ⟨w.heap.size, 1, none⟩ = some (.int .i64 m.e) := M.e
 have cL : W.cell? ⟨w.heap.size, 2, none⟩ = some (.int .i64 m.l) := M.l
 have cV : W.cell? ⟨w.heap.size, 3, none⟩ = some (.int .i64 m.v) := M.v
 have cS : W.cell? ⟨w.heap.size, 4, none⟩ = some (.int .i64 m.s) := M.s
 have cQ : W.cell? ⟨w.heap.size, 5, none⟩ = some (.bool m.q) := M.q
 have cR : W.cell? ⟨w.heap.size, 6, none⟩ = some (.slice m.rs.a m.rs.xs.length m.rs.cap) := M.rs
 have c1 : W.cell? ⟨w.heap.size, 43, none⟩ = some (.int .i64 m.ce) := M.ce
 have c2 : W.cell? ⟨w.heap.size, 44, none⟩ = some (.int .i64 m.cl) := M.cl
 have c3 : W.cell? ⟨w.heap.size, 45, none⟩ = some (.int .i64 m.cv) := M.cv
 have cH : W.cell? ⟨w.heap.size, 46, none⟩ = some (.slice m.he.a m.he.xs.length m.he.cap) := M.he
 have cN : W.cell? ⟨w.heap.size, 47, none⟩ = some (.slice m.ne.a m.ne.xs.length m.ne.cap) := M.ne
 have cT : W.cell? ⟨w.heap.size, 117, none⟩ = some (.string m.st) := M.st
 have cG : W.cell? ⟨w.heap.size, 118, none⟩ = some (.slice m.sg.a m.sg.xs.length m.sg.cap) := M.sg
 have rV : W.rangeAt (w.heap.size) 7 m.vt.cells := M.vt
 have rC : W.rangeAt (w.heap.size) 80 (certL m.ct m.cs) := M.ct
 have gE := fun w0 => within_any m.e 1048576 w0
 have gL := fun w0 => within_any m.l 64 w0
 have gV := fun w0 => within_any m.v 1099511627776 w0
 have gS := fun w0 => within_any m.s 1099511627776 w0
 have gX := fun w0 => voteMay_any m.vt w0
 have gT := fun (w0 : World) (h0 : Below W.heap.size W w0) => certMay_any m.ct m.cs w0 om.ct (a1.cs.below h0)
 have gB := fun (w0 : World) (h0 : Below W.heap.size W w0) => batMay_any m.q m.rs w0 (a1.rs.below h0)
 have gC := fun (w0 : World) (h0 : Below W.heap.size W w0) => chgMay_any m.ce m.cl m.cv m.he w0 (a1.he.below h0)
 have gN := fun (w0 : World) (h0 : Below W.heap.size W w0) => allE_any m.ne 64 Ev.may w0 (a1.ne.below h0) (fun y _ w1 _ => evMay_any y w1)
 have gG := fun (w0 : World) (h0 : Below W.heap.size W w0) => sgsMay_any m.sg w0 (a1.sg.below h0)
 unfold chgL at gC
 simp only [Sl.val] at gB gC gN gG
 unfold Mg.may Mg.mayL
 clear hA M om am a1
 generalize inB m.e 1048576 = be at *
 generalize inB m.l 64 = bl at *
 generalize inB m.v 1099511627776 = bv at *
 generalize inB m.s 1099511627776 = bs at *
 generalize m.vt.may = bx at *
 generalize certMay m.ct m.cs = bt at *
 generalize batMay m.q m.rs = b1 at *
 generalize chgMay m.ce m.cl m.cv m.he = b2 at *
 generalize Go.Proofs.YtcbpbkefggekmaaGreatDoor.mayL 64 Ev.may m.ne.xs = b3 at *
 generalize sgsMay m.sg = b5 at *
 generalize m.ms.cells = q at *
 generalize m.vt.cells = u at *
 generalize certL m.ct m.cs = uc at *
 obtain ⟨k, e, l, v, s, qq, ⟨ra, rc, rx⟩, vt, ce, cl, cv, ⟨ha, hc, hx⟩, ⟨na, nc, nx⟩, d, ct, cs, st, ⟨ga, gc, gx⟩⟩ := m
 simp only at *
 by_cases hst : (st.size : Int) ≤ 4194304
 rotate_left
 ·rw [decide_eq_false hst]
  have hst' : (4194304 : Int) < st.size := by omega
  have hst2 : decide ((st.size : Int) ≤ 4194304) = false := decide_eq_false hst
  by_cases h2 : k = 2
  ·rw [if_pos h2, if_neg (by omega)]
   subst h2
   go_enter Tryz.func86, Tryz.ntmps86
   go_upto_region 1 with fail
   go_name_world w1 hw1
   obtain rfl : W = w1 := hW.out.symm.trans hw1
   clear hw1 hW
   have HB := hB
   have HW : Below W.heap.size W W := Below.refl _ _
   go_wp2_with fail
   refine (gE _).mono ?_
   rintro e1 w1 ⟨rfl, hx0⟩
   obtain rfl := hx0.symm
   clear hx0
   clear gE
   cases be
   ·go_wp2
    go_ret
    exact ⟨by simp, HB⟩
   ·go_wp2_with fail
    refine (gL _).mono ?_
    rintro e1 w1 ⟨rfl, hx0⟩
    obtain rfl := hx0.symm
    clear hx0
    clear gL
    cases bl
    ·go_wp2
     go_ret
     exact ⟨by simp, HB⟩
    ·go_wp2_with fail
     refine (gV _).mono ?_
     rintro e1 w1 ⟨rfl, hx0⟩
     obtain rfl := hx0.symm
     clear hx0
     clear gV
     cases bv
     ·go_wp2
      go_ret
      exact ⟨by simp, HB⟩
     ·go_wp2_with fail
      refine (gS _).mono ?_
      rintro e1 w1 ⟨rfl, hx0⟩
      obtain rfl := hx0.symm
      clear hx0
      clear gS
      cases bs
      ·go_wp2
       go_ret
       exact ⟨by simp, HB⟩
      ·go_wp2_with (refine wpList_load_g (by rfl) 43 _ rfl _ _ rfl u _ rV Tryz.underlying43 rfl ix ?_)
       refine (gX _).mono ?_
       rintro e5 w5 ⟨rfl, hb5⟩
       have up := fun i v (h : W.cell? ⟨w.heap.size, i, none⟩ = some v) => (hb5.cell (p := ⟨w.heap.size, i, none⟩) hs).trans h
       replace cK := up _ _ cK
       replace cQ := up _ _ cQ
       replace cR := up _ _ cR
       replace c1 := up _ _ c1
       replace c2 := up _ _ c2
       replace c3 := up _ _ c3
       replace cH := up _ _ cH
       replace cN := up _ _ cN
       replace cT := up _ _ cT
       replace cG := up _ _ cG
       clear up
       replace HB := HB.trans (hb5.mono (by omega))
       replace HW := HW.trans (hb5.mono HW.size)
       replace hs := Nat.lt_of_lt_of_le hs hb5.size
       clear hb5 gX
       cases bx
       ·go_wp2
        go_ret
        exact ⟨by simp, HB⟩
       ·go_wp2_with fail
        refine (gB _ HW).mono ?_
        rintro e6 w6 ⟨rfl, hb6⟩
        have up := fun i v (h : w5.cell? ⟨w.heap.size, i, none⟩ = some v) => (hb6.cell (p := ⟨w.heap.size, i, none⟩) hs).trans h
        replace c1 := up _ _ c1
        replace c2 := up _ _ c2
        replace c3 := up _ _ c3
        replace cH := up _ _ cH
        replace cN := up _ _ cN
        replace cT := up _ _ cT
        replace cG := up _ _ cG
        clear up
        replace HB := HB.trans (hb6.mono (by omega))
        replace HW := HW.trans (hb6.mono HW.size)
        replace hs := Nat.lt_of_lt_of_le hs hb6.size
        clear hb6 gB
        cases b1
        ·go_wp2
         go_ret
         exact ⟨by simp, HB⟩
        ·go_wp2_with fail
         refine (gC _ HW).mono ?_
         rintro e7 w7 ⟨rfl, hb7⟩
         have up := fun i v (h : w6.cell? ⟨w.heap.size, i, none⟩ = some v) => (hb7.cell (p := ⟨w.heap.size, i, none⟩) hs).trans h
         replace cN := up _ _ cN
         replace cT := up _ _ cT
         replace cG := up _ _ cG
         clear up
         replace HB := HB.trans (hb7.mono (by omega))
         replace HW := HW.trans (hb7.mono HW.size)
         replace hs := Nat.lt_of_lt_of_le hs hb7.size
         clear hb7 gC
         cases b2
         ·go_wp2
          go_ret
          exact ⟨by simp, HB⟩
         ·go_wp2_with fail
          refine (gN _ HW).mono ?_
          rintro e8 w8 ⟨rfl, hb8⟩
          have up := fun i v (h : w7.cell? ⟨w.heap.size, i, none⟩ = some v) => (hb8.cell (p := ⟨w.heap.size, i, none⟩) hs).trans h
          replace cT := up _ _ cT
          replace cG := up _ _ cG
          clear up
          replace HB := HB.trans (hb8.mono (by omega))
          replace HW := HW.trans (hb8.mono HW.size)
          replace hs := Nat.lt_of_lt_of_le hs hb8.size
          clear hb8 gN
          cases b3
          ·go_wp2
           go_ret
           exact ⟨by simp, HB⟩
          ·clear gG
           go_wp2
           go_ret
           exact ⟨by simp, HB⟩
  ·by_cases h7 : k = 7
   ·rw [if_neg h2, if_pos h7]
    subst h7
    clear h2
    go_enter Tryz.func86, Tryz.ntmps86
    go_upto_region 1 with fail
    go_name_world w1 hw1
    obtain rfl : W = w1 := hW.out.symm.trans hw1
    clear hw1 hW
    have HB := hB
    have HW : Below W.heap.size W W := Below.refl _ _
    go_wp2_with fail
    refine (gE _).mono ?_
    rintro e1 w1 ⟨rfl, hx0⟩
    obtain rfl := hx0.symm
    clear hx0
    clear gE
    cases be
    ·go_wp2
     go_ret
     exact ⟨by simp, HB⟩
    ·go_wp2_with fail
     refine (gL _).mono ?_
     rintro e1 w1 ⟨rfl, hx0⟩
     obtain rfl := hx0.symm
     clear hx0
     clear gL
     cases bl
     ·go_wp2
      go_ret
      exact ⟨by simp, HB⟩
     ·go_wp2_with fail
      refine (gV _).mono ?_
      rintro e1 w1 ⟨rfl, hx0⟩
      obtain rfl := hx0.symm
      clear hx0
      clear gV
      cases bv
      ·go_wp2
       go_ret
       exact ⟨by simp, HB⟩
      ·go_wp2_with fail
       refine (gS _).mono ?_
       rintro e1 w1 ⟨rfl, hx0⟩
       obtain rfl := hx0.symm
       clear hx0
       clear gS
       cases bs
       ·go_wp2
        go_ret
        exact ⟨by simp, HB⟩
       ·go_wp2_with (refine wpList_load_g (by rfl) 50 _ rfl _ _ rfl uc _ rC Tryz.underlying50 rfl ic ?_)
        refine (gT _ HW).mono ?_
        rintro e5 w5 ⟨rfl, hb5⟩
        have up := fun i v (h : W.cell? ⟨w.heap.size, i, none⟩ = some v) => (hb5.cell (p := ⟨w.heap.size, i, none⟩) hs).trans h
        replace cQ := up _ _ cQ
        replace cR := up _ _ cR
        replace c1 := up _ _ c1
        replace c2 := up _ _ c2
        replace c3 := up _ _ c3
        replace cH := up _ _ cH
        replace cN := up _ _ cN
        replace cT := up _ _ cT
        replace cG := up _ _ cG
        clear up
        replace HB := HB.trans (hb5.mono (by omega))
        replace HW := HW.trans (hb5.mono HW.size)
        replace hs := Nat.lt_of_lt_of_le hs hb5.size
        clear hb5 gT
        cases bt
        ·go_wp2
         go_ret
         exact ⟨by simp, HB⟩
        ·go_wp2_with fail
         refine (gB _ HW).mono ?_
         rintro e6 w6 ⟨rfl, hb6⟩
         have up := fun i v (h : w5.cell? ⟨w.heap.size, i, none⟩ = some v) => (hb6.cell (p := ⟨w.heap.size, i, none⟩) hs).trans h
         replace c1 := up _ _ c1
         replace c2 := up _ _ c2
         replace c3 := up _ _ c3
         replace cH := up _ _ cH
         replace cN := up _ _ cN
         replace cT := up _ _ cT
         replace cG := up _ _ cG
         clear up
         replace HB := HB.trans (hb6.mono (by omega))
         replace HW := HW.trans (hb6.mono HW.size)
         replace hs := Nat.lt_of_lt_of_le hs hb6.size
         clear hb6 gB
         cases b1
         ·go_wp2
          go_ret
          exact ⟨by simp, HB⟩
         ·go_wp2_with fail
          refine (gC _ HW).mono ?_
          rintro e7 w7 ⟨rfl, hb7⟩
          have up := fun i v (h : w6.cell? ⟨w.heap.size, i, none⟩ = some v) => (hb7.cell (p := ⟨w.heap.size, i, none⟩) hs).trans h
          replace cN := up _ _ cN
          replace cT := up _ _ cT
          replace cG := up _ _ cG
          clear up
          replace HB := HB.trans (hb7.mono (by omega))
          replace HW := HW.trans (hb7.mono HW.size)
          replace hs := Nat.lt_of_lt_of_le hs hb7.size
          clear hb7 gC
          cases b2
          ·go_wp2
           go_ret
           exact ⟨by simp, HB⟩
          ·go_wp2_with fail
           refine (gN _ HW).mono ?_
           rintro e8 w8 ⟨rfl, hb8⟩
           have up := fun i v (h : w7.cell? ⟨w.heap.size, i, none⟩ = some v) => (hb8.cell (p := ⟨w.heap.size, i, none⟩) hs).trans h
           replace cT := up _ _ cT
           replace cG := up _ _ cG
           clear up
           replace HB := HB.trans (hb8.mono (by omega))
           replace HW := HW.trans (hb8.mono HW.size)
           replace hs := Nat.lt_of_lt_of_le hs hb8.size
           clear hb8 gN
           cases b3
           ·go_wp2
            go_ret
            exact ⟨by simp, HB⟩
           ·clear gG
            go_wp2
            go_ret
            exact ⟨by simp, HB⟩
   ·rw [if_neg h2, if_neg h7]
    have n2 : (k == 2) = false := beq_eq_false_iff_ne.2 h2
    have n7 : (k == 7) = false := beq_eq_false_iff_ne.2 h7
    clear h2 h7
    go_enter Tryz.func86, Tryz.ntmps86
    go_upto_region 1 with fail
    go_name_world w1 hw1
    obtain rfl : W = w1 := hW.out.symm.trans hw1
    clear hw1 hW
    have HB := hB
    have HW : Below W.heap.size W W := Below.refl _ _
    go_wp2_with fail
    refine (gE _).mono ?_
    rintro e1 w1 ⟨rfl, hx0⟩
    obtain rfl := hx0.symm
    clear hx0
    clear gE
    cases be
    ·go_wp2
     go_ret
     exact ⟨by simp, HB⟩
    ·go_wp2_with fail
     refine (gL _).mono ?_
     rintro e1 w1 ⟨rfl, hx0⟩
     obtain rfl := hx0.symm
     clear hx0
     clear gL
     cases bl
     ·go_wp2
      go_ret
      exact ⟨by simp, HB⟩
     ·go_wp2_with fail
      refine (gV _).mono ?_
      rintro e1 w1 ⟨rfl, hx0⟩
      obtain rfl := hx0.symm
      clear hx0
      clear gV
      cases bv
      ·go_wp2
       go_ret
       exact ⟨by simp, HB⟩
      ·go_wp2_with fail
       refine (gS _).mono ?_
       rintro e1 w1 ⟨rfl, hx0⟩
       obtain rfl := hx0.symm
       clear hx0
       clear gS
       cases bs
       ·go_wp2
        go_ret
        exact ⟨by simp, HB⟩
       ·go_wp2_with fail
        refine (gB _ HW).mono ?_
        rintro e6 w6 ⟨rfl, hb6⟩
        have up := fun i v (h : W.cell? ⟨w.heap.size, i, none⟩ = some v) => (hb6.cell (p := ⟨w.heap.size, i, none⟩) hs).trans h
        replace c1 := up _ _ c1
        replace c2 := up _ _ c2
        replace c3 := up _ _ c3
        replace cH := up _ _ cH
        replace cN := up _ _ cN
        replace cT := up _ _ cT
        replace cG := up _ _ cG
        clear up
        replace HB := HB.trans (hb6.mono (by omega))
        replace HW := HW.trans (hb6.mono HW.size)
        replace hs := Nat.lt_of_lt_of_le hs hb6.size
        clear hb6 gB
        cases b1
        ·go_wp2
         go_ret
         exact ⟨by simp, HB⟩
        ·go_wp2_with fail
         refine (gC _ HW).mono ?_
         rintro e7 w7 ⟨rfl, hb7⟩
         have up := fun i v (h : w6.cell? ⟨w.heap.size, i, none⟩ = some v) => (hb7.cell (p := ⟨w.heap.size, i, none⟩) hs).trans h
         replace cN := up _ _ cN
         replace cT := up _ _ cT
         replace cG := up _ _ cG
         clear up
         replace HB := HB.trans (hb7.mono (by omega))
         replace HW := HW.trans (hb7.mono HW.size)
         replace hs := Nat.lt_of_lt_of_le hs hb7.size
         clear hb7 gC
         cases b2
         ·go_wp2
          go_ret
          exact ⟨by simp, HB⟩
         ·go_wp2_with fail
          refine (gN _ HW).mono ?_
          rintro e8 w8 ⟨rfl, hb8⟩
          have up := fun i v (h : w7.cell? ⟨w.heap.size, i, none⟩ = some v) => (hb8.cell (p := ⟨w.heap.size, i, none⟩) hs).trans h
          replace cT := up _ _ cT
          replace cG := up _ _ cG
          clear up
          replace HB := HB.trans (hb8.mono (by omega))
          replace HW := HW.trans (hb8.mono HW.size)
          replace hs := Nat.lt_of_lt_of_le hs hb8.size
          clear hb8 gN
          cases b3
          ·go_wp2
           go_ret
           exact ⟨by simp, HB⟩
          ·clear gG
           go_wp2
           go_ret
           exact ⟨by simp, HB⟩
 ·rw [decide_eq_true hst]
  by_cases h2 : k = 2
  ·rw [if_pos h2, if_neg (by omega)]
   subst h2
   go_enter Tryz.func86, Tryz.ntmps86
   go_upto_region 1 with fail
   go_name_world w1 hw1
   obtain rfl : W = w1 := hW.out.symm.trans hw1
   clear hw1 hW
   have HB := hB
   have HW : Below W.heap.size W W := Below.refl _ _
   go_wp2_with fail
   refine (gE _).mono ?_
   rintro e1 w1 ⟨rfl, hx0⟩
   obtain rfl := hx0.symm
   clear hx0
   clear gE
   cases be
   ·go_wp2
    go_ret
    exact ⟨by simp, HB⟩
   ·go_wp2_with fail
    refine (gL _).mono ?_
    rintro e1 w1 ⟨rfl, hx0⟩
    obtain rfl := hx0.symm
    clear hx0
    clear gL
    cases bl
    ·go_wp2
     go_ret
     exact ⟨by simp, HB⟩
    ·go_wp2_with fail
     refine (gV _).mono ?_
     rintro e1 w1 ⟨rfl, hx0⟩
     obtain rfl := hx0.symm
     clear hx0
     clear gV
     cases bv
     ·go_wp2
      go_ret
      exact ⟨by simp, HB⟩
     ·go_wp2_with fail
      refine (gS _).mono ?_
      rintro e1 w1 ⟨rfl, hx0⟩
      obtain rfl := hx0.symm
      clear hx0
      clear gS
      cases bs
      ·go_wp2
       go_ret
       exact ⟨by simp, HB⟩
      ·go_wp2_with (refine wpList_load_g (by rfl) 43 _ rfl _ _ rfl u _ rV Tryz.underlying43 rfl ix ?_)
       refine (gX _).mono ?_
       rintro e5 w5 ⟨rfl, hb5⟩
       have up := fun i v (h : W.cell? ⟨w.heap.size, i, none⟩ = some v) => (hb5.cell (p := ⟨w.heap.size, i, none⟩) hs).trans h
       replace cK := up _ _ cK
       replace cQ := up _ _ cQ
       replace cR := up _ _ cR
       replace c1 := up _ _ c1
       replace c2 := up _ _ c2
       replace c3 := up _ _ c3
       replace cH := up _ _ cH
       replace cN := up _ _ cN
       replace cT := up _ _ cT
       replace cG := up _ _ cG
       clear up
       replace HB := HB.trans (hb5.mono (by omega))
       replace HW := HW.trans (hb5.mono HW.size)
       replace hs := Nat.lt_of_lt_of_le hs hb5.size
       clear hb5 gX
       cases bx
       ·go_wp2
        go_ret
        exact ⟨by simp, HB⟩
       ·go_wp2_with fail
        refine (gB _ HW).mono ?_
        rintro e6 w6 ⟨rfl, hb6⟩
        have up := fun i v (h : w5.cell? ⟨w.heap.size, i, none⟩ = some v) => (hb6.cell (p := ⟨w.heap.size, i, none⟩) hs).trans h
        replace c1 := up _ _ c1
        replace c2 := up _ _ c2
        replace c3 := up _ _ c3
        replace cH := up _ _ cH
        replace cN := up _ _ cN
        replace cT := up _ _ cT
        replace cG := up _ _ cG
        clear up
        replace HB := HB.trans (hb6.mono (by omega))
        replace HW := HW.trans (hb6.mono HW.size)
        replace hs := Nat.lt_of_lt_of_le hs hb6.size
        clear hb6 gB
        cases b1
        ·go_wp2
         go_ret
         exact ⟨by simp, HB⟩
        ·go_wp2_with fail
         refine (gC _ HW).mono ?_
         rintro e7 w7 ⟨rfl, hb7⟩
         have up := fun i v (h : w6.cell? ⟨w.heap.size, i, none⟩ = some v) => (hb7.cell (p := ⟨w.heap.size, i, none⟩) hs).trans h
         replace cN := up _ _ cN
         replace cT := up _ _ cT
         replace cG := up _ _ cG
         clear up
         replace HB := HB.trans (hb7.mono (by omega))
         replace HW := HW.trans (hb7.mono HW.size)
         replace hs := Nat.lt_of_lt_of_le hs hb7.size
         clear hb7 gC
         cases b2
         ·go_wp2
          go_ret
          exact ⟨by simp, HB⟩
         ·go_wp2_with fail
          refine (gN _ HW).mono ?_
          rintro e8 w8 ⟨rfl, hb8⟩
          have up := fun i v (h : w7.cell? ⟨w.heap.size, i, none⟩ = some v) => (hb8.cell (p := ⟨w.heap.size, i, none⟩) hs).trans h
          replace cT := up _ _ cT
          replace cG := up _ _ cG
          clear up
          replace HB := HB.trans (hb8.mono (by omega))
          replace HW := HW.trans (hb8.mono HW.size)
          replace hs := Nat.lt_of_lt_of_le hs hb8.size
          clear hb8 gN
          cases b3
          ·go_wp2
           go_ret
           exact ⟨by simp, HB⟩
          ·go_wp2_with fail
           refine (gG _ HW).mono ?_
           rintro e9 w9 ⟨rfl, hb9⟩
           replace HB := HB.trans (hb9.mono (by omega))
           clear hb9 gG
           cases b5
           all_goals
            go_wp2
            go_ret
            exact ⟨by first | rfl | simp, HB⟩
  ·by_cases h7 : k = 7
   ·rw [if_neg h2, if_pos h7]
    subst h7
    clear h2
    go_enter Tryz.func86, Tryz.ntmps86
    go_upto_region 1 with fail
    go_name_world w1 hw1
    obtain rfl : W = w1 := hW.out.symm.trans hw1
    clear hw1 hW
    have HB := hB
    have HW : Below W.heap.size W W := Below.refl _ _
    go_wp2_with fail
    refine (gE _).mono ?_
    rintro e1 w1 ⟨rfl, hx0⟩
    obtain rfl := hx0.symm
    clear hx0
    clear gE
    cases be
    ·go_wp2
     go_ret
     exact ⟨by simp, HB⟩
    ·go_wp2_with fail
     refine (gL _).mono ?_
     rintro e1 w1 ⟨rfl, hx0⟩
     obtain rfl := hx0.symm
     clear hx0
     clear gL
     cases bl
     ·go_wp2
      go_ret
      exact ⟨by simp, HB⟩
     ·go_wp2_with fail
      refine (gV _).mono ?_
      rintro e1 w1 ⟨rfl, hx0⟩
      obtain rfl := hx0.symm
      clear hx0
      clear gV
      cases bv
      ·go_wp2
       go_ret
       exact ⟨by simp, HB⟩
      ·go_wp2_with fail
       refine (gS _).mono ?_
       rintro e1 w1 ⟨rfl, hx0⟩
       obtain rfl := hx0.symm
       clear hx0
       clear gS
       cases bs
       ·go_wp2
        go_ret
        exact ⟨by simp, HB⟩
       ·go_wp2_with (refine wpList_load_g (by rfl) 50 _ rfl _ _ rfl uc _ rC Tryz.underlying50 rfl ic ?_)
        refine (gT _ HW).mono ?_
        rintro e5 w5 ⟨rfl, hb5⟩
        have up := fun i v (h : W.cell? ⟨w.heap.size, i, none⟩ = some v) => (hb5.cell (p := ⟨w.heap.size, i, none⟩) hs).trans h
        replace cQ := up _ _ cQ
        replace cR := up _ _ cR
        replace c1 := up _ _ c1
        replace c2 := up _ _ c2
        replace c3 := up _ _ c3
        replace cH := up _ _ cH
        replace cN := up _ _ cN
        replace cT := up _ _ cT
        replace cG := up _ _ cG
        clear up
        replace HB := HB.trans (hb5.mono (by omega))
        replace HW := HW.trans (hb5.mono HW.size)
        replace hs := Nat.lt_of_lt_of_le hs hb5.size
        clear hb5 gT
        cases bt
        ·go_wp2
         go_ret
         exact ⟨by simp, HB⟩
        ·go_wp2_with fail
         refine (gB _ HW).mono ?_
         rintro e6 w6 ⟨rfl, hb6⟩
         have up := fun i v (h : w5.cell? ⟨w.heap.size, i, none⟩ = some v) => (hb6.cell (p := ⟨w.heap.size, i, none⟩) hs).trans h
         replace c1 := up _ _ c1
         replace c2 := up _ _ c2
         replace c3 := up _ _ c3
         replace cH := up _ _ cH
         replace cN := up _ _ cN
         replace cT := up _ _ cT
         replace cG := up _ _ cG
         clear up
         replace HB := HB.trans (hb6.mono (by omega))
         replace HW := HW.trans (hb6.mono HW.size)
         replace hs := Nat.lt_of_lt_of_le hs hb6.size
         clear hb6 gB
         cases b1
         ·go_wp2
          go_ret
          exact ⟨by simp, HB⟩
         ·go_wp2_with fail
          refine (gC _ HW).mono ?_
          rintro e7 w7 ⟨rfl, hb7⟩
          have up := fun i v (h : w6.cell? ⟨w.heap.size, i, none⟩ = some v) => (hb7.cell (p := ⟨w.heap.size, i, none⟩) hs).trans h
          replace cN := up _ _ cN
          replace cT := up _ _ cT
          replace cG := up _ _ cG
          clear up
          replace HB := HB.trans (hb7.mono (by omega))
          replace HW := HW.trans (hb7.mono HW.size)
          replace hs := Nat.lt_of_lt_of_le hs hb7.size
          clear hb7 gC
          cases b2
          ·go_wp2
           go_ret
           exact ⟨by simp, HB⟩
          ·go_wp2_with fail
           refine (gN _ HW).mono ?_
           rintro e8 w8 ⟨rfl, hb8⟩
           have up := fun i v (h : w7.cell? ⟨w.heap.size, i, none⟩ = some v) => (hb8.cell (p := ⟨w.heap.size, i, none⟩) hs).trans h
           replace cT := up _ _ cT
           replace cG := up _ _ cG
           clear up
           replace HB := HB.trans (hb8.mono (by omega))
           replace HW := HW.trans (hb8.mono HW.size)
           replace hs := Nat.lt_of_lt_of_le hs hb8.size
           clear hb8 gN
           cases b3
           ·go_wp2
            go_ret
            exact ⟨by simp, HB⟩
           ·go_wp2_with fail
            refine (gG _ HW).mono ?_
            rintro e9 w9 ⟨rfl, hb9⟩
            replace HB := HB.trans (hb9.mono (by omega))
            clear hb9 gG
            cases b5
            all_goals
             go_wp2
             go_ret
             exact ⟨by first | rfl | simp, HB⟩
   ·rw [if_neg h2, if_neg h7]
    have n2 : (k == 2) = false := beq_eq_false_iff_ne.2 h2
    have n7 : (k == 7) = false := beq_eq_false_iff_ne.2 h7
    clear h2 h7
    go_enter Tryz.func86, Tryz.ntmps86
    go_upto_region 1 with fail
    go_name_world w1 hw1
    obtain rfl : W = w1 := hW.out.symm.trans hw1
    clear hw1 hW
    have HB := hB
    have HW : Below W.heap.size W W := Below.refl _ _
    go_wp2_with fail
    refine (gE _).mono ?_
    rintro e1 w1 ⟨rfl, hx0⟩
    obtain rfl := hx0.symm
    clear hx0
    clear gE
    cases be
    ·go_wp2
     go_ret
     exact ⟨by simp, HB⟩
    ·go_wp2_with fail
     refine (gL _).mono ?_
     rintro e1 w1 ⟨rfl, hx0⟩
     obtain rfl := hx0.symm
     clear hx0
     clear gL
     cases bl
     ·go_wp2
      go_ret
      exact ⟨by simp, HB⟩
     ·go_wp2_with fail
      refine (gV _).mono ?_
      rintro e1 w1 ⟨rfl, hx0⟩
      obtain rfl := hx0.symm
      clear hx0
      clear gV
      cases bv
      ·go_wp2
       go_ret
       exact ⟨by simp, HB⟩
      ·go_wp2_with fail
       refine (gS _).mono ?_
       rintro e1 w1 ⟨rfl, hx0⟩
       obtain rfl := hx0.symm
       clear hx0
       clear gS
       cases bs
       ·go_wp2
        go_ret
        exact ⟨by simp, HB⟩
       ·go_wp2_with fail
        refine (gB _ HW).mono ?_
        rintro e6 w6 ⟨rfl, hb6⟩
        have up := fun i v (h : W.cell? ⟨w.heap.size, i, none⟩ = some v) => (hb6.cell (p := ⟨w.heap.size, i, none⟩) hs).trans h
        replace c1 := up _ _ c1
        replace c2 := up _ _ c2
        replace c3 := up _ _ c3
        replace cH := up _ _ cH
        replace cN := up _ _ cN
        replace cT := up _ _ cT
        replace cG := up _ _ cG
        clear up
        replace HB := HB.trans (hb6.mono (by omega))
        replace HW := HW.trans (hb6.mono HW.size)
        replace hs := Nat.lt_of_lt_of_le hs hb6.size
        clear hb6 gB
        cases b1
        ·go_wp2
         go_ret
         exact ⟨by simp, HB⟩
        ·go_wp2_with fail
         refine (gC _ HW).mono ?_
         rintro e7 w7 ⟨rfl, hb7⟩
         have up := fun i v (h : w6.cell? ⟨w.heap.size, i, none⟩ = some v) => (hb7.cell (p := ⟨w.heap.size, i, none⟩) hs).trans h
         replace cN := up _ _ cN
         replace cT := up _ _ cT
         replace cG := up _ _ cG
         clear up
         replace HB := HB.trans (hb7.mono (by omega))
         replace HW := HW.trans (hb7.mono HW.size)
         replace hs := Nat.lt_of_lt_of_le hs hb7.size
         clear hb7 gC
         cases b2
         ·go_wp2
          go_ret
          exact ⟨by simp, HB⟩
         ·go_wp2_with fail
          refine (gN _ HW).mono ?_
          rintro e8 w8 ⟨rfl, hb8⟩
          have up := fun i v (h : w7.cell? ⟨w.heap.size, i, none⟩ = some v) => (hb8.cell (p := ⟨w.heap.size, i, none⟩) hs).trans h
          replace cT := up _ _ cT
          replace cG := up _ _ cG
          clear up
          replace HB := HB.trans (hb8.mono (by omega))
          replace HW := HW.trans (hb8.mono HW.size)
          replace hs := Nat.lt_of_lt_of_le hs hb8.size
          clear hb8 gN
          cases b3
          ·go_wp2
           go_ret
           exact ⟨by simp, HB⟩
          ·go_wp2_with fail
           refine (gG _ HW).mono ?_
           rintro e9 w9 ⟨rfl, hb9⟩
           replace HB := HB.trans (hb9.mono (by omega))
           clear hb9 gG
           cases b5
           all_goals
            go_wp2
            go_ret
            exact ⟨by first | rfl | simp, HB⟩
def Mg.plain (k : Int) : Mg := ⟨k, 0, 0, 0, 0, false, ⟨none, 0, []⟩, Vt.zero, 0, 0, 0, ⟨none, 0, []⟩, ⟨none, 0, []⟩, zeros32, Vt.zero, ⟨none, 0, []⟩, ⟨#[]⟩, ⟨none, 0, []⟩⟩
theorem Mg.plain_ok (k : Int) : (Mg.plain k).ok := ⟨Vt.zero_ok, Vt.zero_ok, zeros32_len, zeros32_byte⟩
theorem hds_none {w : World} : HdsAt w ⟨none, 0, []⟩ := ⟨RowsAt.none, fun _ h => by cases h⟩
def Mg.bare (m : Mg) : Mg :=
 if m.k = 1 then { Mg.plain 1 with q := m.q, rs := m.rs, e := m.e, s := m.s }
 else if m.k = 2 then { Mg.plain 2 with vt := m.vt }
 else if m.k = 3 then { Mg.plain 3 with ce := m.ce, cl := m.cl, cv := m.cv, he := m.he }
 else if m.k = 4 then { Mg.plain 4 with e := m.e, l := m.l, v := m.v, ne := m.ne }
 else if m.k = 5 then { Mg.plain 5 with e := m.e, d := m.d }
 else if m.k = 6 then { Mg.plain 6 with e := m.e, s := m.s }
 else if m.k = 7 then { Mg.plain 7 with q := m.q, rs := m.rs, ct := m.ct, cs := m.cs }
 else if m.k = 8 then { Mg.plain 8 with st := m.st, sg := m.sg }
 else Mg.plain m.k
theorem Mg.bare_1 {m : Mg} (h : m.k = 1) : m.bare = { Mg.plain 1 with q := m.q, rs := m.rs, e := m.e, s := m.s } := by unfold Mg.bare; rw [h]; rfl
theorem Mg.bare_2 {m : Mg} (h : m.k = 2) : m.bare = { Mg.plain 2 with vt := m.vt } := by unfold Mg.bare; rw [h]; rfl
theorem Mg.bare_3 {m : Mg} (h : m.k = 3) : m.bare = { Mg.plain 3 with ce := m.ce, cl := m.cl, cv := m.cv, he := m.he } := by unfold Mg.bare; rw [h]; rfl
theorem Mg.bare_4 {m : Mg} (h : m.k = 4) : m.bare = { Mg.plain 4 with e := m.e, l := m.l, v := m.v, ne := m.ne } := by unfold Mg.bare; rw [h]; rfl
theorem Mg.bare_5 {m : Mg} (h : m.k = 5) : m.bare = { Mg.plain 5 with e := m.e, d := m.d } := by unfold Mg.bare; rw [h]; rfl
theorem Mg.bare_6 {m : Mg} (h : m.k = 6) : m.bare = { Mg.plain 6 with e := m.e, s := m.s } := by unfold Mg.bare; rw [h]; rfl
theorem Mg.bare_7 {m : Mg} (h : m.k = 7) : m.bare = { Mg.plain 7 with q := m.q, rs := m.rs, ct := m.ct, cs := m.cs } := by unfold Mg.bare; rw [h]; rfl
theorem Mg.bare_8 {m : Mg} (h : m.k = 8) : m.bare = { Mg.plain 8 with st := m.st, sg := m.sg } := by unfold Mg.bare; rw [h]; rfl
theorem Mg.bare_ok {m : Mg} (h : m.ok) (h1 : 1 ≤ m.k) (h8 : m.k ≤ 8) : m.bare.ok := by
 have hk : m.k = 1 ∨ m.k = 2 ∨ m.k = 3 ∨ m.k = 4 ∨ m.k = 5 ∨ m.k = 6 ∨ m.k = 7 ∨ m.k = 8 := by omega
 have p := fun k => Mg.plain_ok k
 rcases hk with hk | hk | hk | hk | hk | hk | hk | hk
 ·rw [Mg.bare_1 hk]; exact ⟨by first | exact h.vt | exact (p 0).vt, by first | exact h.ct | exact (p 0).ct, by first | exact h.dl | exact (p 0).dl, by first | exact h.db | exact (p 0).db⟩
 ·rw [Mg.bare_2 hk]; exact ⟨by first | exact h.vt | exact (p 0).vt, by first | exact h.ct | exact (p 0).ct, by first | exact h.dl | exact (p 0).dl, by first | exact h.db | exact (p 0).db⟩
 ·rw [Mg.bare_3 hk]; exact ⟨by first | exact h.vt | exact (p 0).vt, by first | exact h.ct | exact (p 0).ct, by first | exact h.dl | exact (p 0).dl, by first | exact h.db | exact (p 0).db⟩
 ·rw [Mg.bare_4 hk]; exact ⟨by first | exact h.vt | exact (p 0).vt, by first | exact h.ct | exact (p 0).ct, by first | exact h.dl | exact (p 0).dl, by first | exact h.db | exact (p 0).db⟩
 ·rw [Mg.bare_5 hk]; exact ⟨by first | exact h.vt | exact (p 0).vt, by first | exact h.ct | exact (p 0).ct, by first | exact h.dl | exact (p 0).dl, by first | exact h.db | exact (p 0).db⟩
 ·rw [Mg.bare_6 hk]; exact ⟨by first | exact h.vt | exact (p 0).vt, by first | exact h.ct | exact (p 0).ct, by first | exact h.dl | exact (p 0).dl, by first | exact h.db | exact (p 0).db⟩
 ·rw [Mg.bare_7 hk]; exact ⟨by first | exact h.vt | exact (p 0).vt, by first | exact h.ct | exact (p 0).ct, by first | exact h.dl | exact (p 0).dl, by first | exact h.db | exact (p 0).db⟩
 ·rw [Mg.bare_8 hk]; exact ⟨by first | exact h.vt | exact (p 0).vt, by first | exact h.ct | exact (p 0).ct, by first | exact h.dl | exact (p 0).dl, by first | exact h.db | exact (p 0).db⟩
theorem Mg.bare_at {m : Mg} {w : World} (h : m.At w) (h1 : 1 ≤ m.k) (h8 : m.k ≤ 8) : m.bare.At w := by
 have hk : m.k = 1 ∨ m.k = 2 ∨ m.k = 3 ∨ m.k = 4 ∨ m.k = 5 ∨ m.k = 6 ∨ m.k = 7 ∨ m.k = 8 := by omega
 rcases hk with hk | hk | hk | hk | hk | hk | hk | hk
 ·rw [Mg.bare_1 hk]; exact ⟨by first | exact h.rs | exact RowsAt.none, by first | exact h.he | exact hds_none, by first | exact h.ne | exact RowsAt.none, by first | exact h.cs | exact RowsAt.none, by first | exact h.sg | exact RowsAt.none⟩
 ·rw [Mg.bare_2 hk]; exact ⟨by first | exact h.rs | exact RowsAt.none, by first | exact h.he | exact hds_none, by first | exact h.ne | exact RowsAt.none, by first | exact h.cs | exact RowsAt.none, by first | exact h.sg | exact RowsAt.none⟩
 ·rw [Mg.bare_3 hk]; exact ⟨by first | exact h.rs | exact RowsAt.none, by first | exact h.he | exact hds_none, by first | exact h.ne | exact RowsAt.none, by first | exact h.cs | exact RowsAt.none, by first | exact h.sg | exact RowsAt.none⟩
 ·rw [Mg.bare_4 hk]; exact ⟨by first | exact h.rs | exact RowsAt.none, by first | exact h.he | exact hds_none, by first | exact h.ne | exact RowsAt.none, by first | exact h.cs | exact RowsAt.none, by first | exact h.sg | exact RowsAt.none⟩
 ·rw [Mg.bare_5 hk]; exact ⟨by first | exact h.rs | exact RowsAt.none, by first | exact h.he | exact hds_none, by first | exact h.ne | exact RowsAt.none, by first | exact h.cs | exact RowsAt.none, by first | exact h.sg | exact RowsAt.none⟩
 ·rw [Mg.bare_6 hk]; exact ⟨by first | exact h.rs | exact RowsAt.none, by first | exact h.he | exact hds_none, by first | exact h.ne | exact RowsAt.none, by first | exact h.cs | exact RowsAt.none, by first | exact h.sg | exact RowsAt.none⟩
 ·rw [Mg.bare_7 hk]; exact ⟨by first | exact h.rs | exact RowsAt.none, by first | exact h.he | exact hds_none, by first | exact h.ne | exact RowsAt.none, by first | exact h.cs | exact RowsAt.none, by first | exact h.sg | exact RowsAt.none⟩
 ·rw [Mg.bare_8 hk]; exact ⟨by first | exact h.rs | exact RowsAt.none, by first | exact h.he | exact hds_none, by first | exact h.ne | exact RowsAt.none, by first | exact h.cs | exact RowsAt.none, by first | exact h.sg | exact RowsAt.none⟩
theorem bare_any (m : Mg) (om : m.ok) (h1 : 1 ≤ m.k) (h8 : m.k ≤ 8) (w : World) : Calls Tryz.prog 85 #[.agg m.ms.cells.toArray] w (BareOk w m.bare.ms.cells) := by
 have hk : m.k = 1 ∨ m.k = 2 ∨ m.k = 3 ∨ m.k = 4 ∨ m.k = 5 ∨ m.k = 6 ∨ m.k = 7 ∨ m.k = 8 := by omega
 rcases hk with hk | hk | hk | hk | hk | hk | hk | hk
 ·rw [Mg.bare_1 hk]; exact bareG1 m.ms om.ms hk w
 ·rw [Mg.bare_2 hk]; exact bareG2 m.ms om.ms hk w
 ·rw [Mg.bare_3 hk]; exact bareG3 m.ms om.ms hk w
 ·rw [Mg.bare_4 hk]; exact bareG4 m.ms om.ms hk w
 ·rw [Mg.bare_5 hk]; exact bareG5 m.ms om.ms hk w
 ·rw [Mg.bare_6 hk]; exact bareG6 m.ms om.ms hk w
 ·rw [Mg.bare_7 hk]; exact bareG7 m.ms om.ms hk w
 ·rw [Mg.bare_8 hk]; exact bareG8 m.ms om.ms hk w
def Mg.good (m : Mg) : Bool := decide (1 ≤ m.k ∧ m.k ≤ 8) && (Mg.B m m.bare && m.may)
set_option maxRecDepth 100000 in
set_option maxHeartbeats 4000000 in
theorem goodW (q q' : List Value) (k : Int) (b1 b2 : Bool) (w : World) (hq : q.length = 119) (h0 : q[0]? = some (.int .i64 k))
  (kb : 1 ≤ k → k ≤ 8 → ∀ w0, Below w.heap.size w w0 → Calls Tryz.prog 85 #[.agg q.toArray] w0 (BareOk w0 q'))
  (ks : 1 ≤ k → k ≤ 8 → ∀ w0, Below w.heap.size w w0 → Calls Tryz.prog 84 #[.agg q.toArray, .agg q'.toArray] w0 fun e w' => e = .returned (.bool b1) ∧ Below w0.heap.size w0 w')
  (kf : ∀ w0, Below w.heap.size w w0 → Calls Tryz.prog 86 #[.agg q.toArray] w0 fun e w' => e = .returned (.bool b2) ∧ Below w0.heap.size w0 w') :
  Calls Tryz.prog 57 #[.agg q.toArray] w fun e w' => e = .returned (.bool (decide (1 ≤ k ∧ k ≤ 8) && (b1 && b2))) ∧ Below w.heap.size w w' := by
 have hB : Below w.heap.size w (w.alloc (.cells q.toArray 52)) := (Below.refl _ _).alloc (Nat.le_refl _) _
 have hs : w.heap.size < (w.alloc (.cells q.toArray 52)).heap.size := by simp
 have hA : (w.alloc (.cells q.toArray 52)).rangeAt w.heap.size 0 q := by simpa using range_new w q.toArray 52
 have c0 := hA 0 _ h0
 simp only [Nat.add_zero] at c0
 have iq : (Tryz.prog.info? 52).map (·.size) = some q.length := by rw [hq]; exact iszM
 clear hq h0
 by_cases hk : 1 ≤ k ∧ k ≤ 8
 ·rw [decide_eq_true hk, Bool.true_and]
  replace kb := kb hk.1 hk.2
  replace ks := ks hk.1 hk.2
  obtain ⟨h1, h8⟩ := hk
  cases b1
  ·rw [Bool.false_and]
   go_enter Tryz.func57, Tryz.ntmps57
   go_upto_region 2 with fail
   obtain ⟨w8, hw8⟩ : ∃ w8, (w.alloc (.cells q.toArray 52)).drew = w8 := ⟨_, rfl⟩
   have hB8 : Below w.heap.size w w8 := by rw [← hw8]; exact hB.drew
   have hA8 : w8.rangeAt w.heap.size 0 q := by rw [← hw8]; exact (World.rangeAt_drew _ _ _ _).2 hA
   have hs8 : w.heap.size < w8.heap.size := by rw [← hw8]; exact hs
   have gb := fun w0 (h0 : Below w8.heap.size w8 w0) => kb w0 (hB8.trans (h0.mono hB8.size))
   have gs := fun w0 (h0 : Below w8.heap.size w8 w0) => ks w0 (hB8.trans (h0.mono hB8.size))
   have gf := fun w0 (h0 : Below w8.heap.size w8 w0) => kf w0 (hB8.trans (h0.mono hB8.size))
   refine hs_begin (S := (Below w8.heap.size w8)) 12 rfl (by kernel_rfl) ?_
   rw [hw8]
   clear hw8 hA hB hs c0 kb ks kf
   have hS : (Below w8.heap.size w8) w8 := Below.refl _ _
   refine hs_t 0 12 (?_) rfl (by kernel_rfl) (by kernel_rfl) (by kernel_rfl) (by rfl) ?_ hS rfl ?_
   rotate_left
   ·intro w' hw
    go_simp
    try with_reducible rfl
   simp only [nz]
   refine hs_t 1 13 (?_) rfl (by kernel_rfl) (by kernel_rfl) (by kernel_rfl) (by rfl) ?_ hS rfl ?_
   rotate_left
   ·intro w' hw
    go_simp
    try with_reducible rfl
   simp only [nz]
   refine hs_t 2 14 (.agg q.toArray) rfl (by kernel_rfl) (by kernel_rfl) (by kernel_rfl) (by rfl) (fun w' hw => exec_loadC rfl rfl (run_loadVar_mid (P := Tryz.prog) w' w.heap.size 0 52 q _ (range_below hA8 hw hs8) Tryz.underlying52 rfl iq)) hS rfl ?_
   simp only [nz]
   refine hs_t 3 15 (.agg q.toArray) rfl (by kernel_rfl) (by kernel_rfl) (by kernel_rfl) (by rfl) (fun w' hw => exec_loadC rfl rfl (run_loadVar_mid (P := Tryz.prog) w' w.heap.size 0 52 q _ (range_below hA8 hw hs8) Tryz.underlying52 rfl iq)) hS rfl ?_
   simp only [nz]
   refine hs_call (i := 4) (d := some 16) rfl (by kernel_rfl) (by rfl) (by go_simp; first | done | exact ⟨rfl, rfl⟩ | with_reducible rfl) rfl ?_
   refine (gb _ hS).mono ?_
   rintro e' wn1 ⟨rfl, hb1⟩
   have hS : (Below w8.heap.size w8) wn1 := hS.trans (hb1.mono hS.size)
   refine ⟨_, rfl, hS, ?_⟩
   simp only [nz]
   refine hs_call (i := 5) (d := some 17) rfl (by kernel_rfl) (by rfl) (by go_simp; first | done | exact ⟨rfl, rfl⟩ | with_reducible rfl) rfl ?_
   refine (gs _ hS).mono ?_
   rintro e' wn2 ⟨rfl, hb2⟩
   have hS : (Below w8.heap.size w8) wn2 := hS.trans (hb2.mono hS.size)
   refine ⟨_, rfl, hS, ?_⟩
   simp only [nz]
   refine hs_t 6 18 (?_) rfl (by kernel_rfl) (by kernel_rfl) (by kernel_rfl) (by rfl) ?_ hS rfl ?_
   rotate_left
   ·intro w' hw
    go_simp
    try with_reducible rfl
   simp only [nz]
   refine hs_t 7 19 (?_) rfl (by kernel_rfl) (by kernel_rfl) (by kernel_rfl) (by rfl) ?_ hS rfl ?_
   rotate_left
   ·intro w' hw
    go_simp
    try with_reducible rfl
   simp only [nz]
   refine hs_skip (i := 8) (d := some 20) rfl (by kernel_rfl) (by kernel_rfl) (by kernel_rfl) (by rfl) hS rfl ?_
   simp only [nz]
   refine hs_skip (i := 9) (d := some 21) rfl (by kernel_rfl) (by kernel_rfl) (by kernel_rfl) (by rfl) hS rfl ?_
   simp only [nz]
   refine hs_t 10 22 (?_) rfl (by kernel_rfl) (by kernel_rfl) (by kernel_rfl) (by rfl) ?_ hS rfl ?_
   rotate_left
   ·intro w' hw
    go_simp
    try with_reducible rfl
   simp only [nz]
   refine hs_t 11 2 (?_) rfl (by kernel_rfl) (by kernel_rfl) (by kernel_rfl) (by rfl) ?_ hS rfl ?_
   rotate_left
   ·intro w' hw
    go_simp
    try with_reducible rfl
   simp only [nz]
   refine hs_done (by kernel_rfl) ?_
   go_wp2
   go_ret
   exact ⟨rfl, hB8.trans (hS.mono hB8.size)⟩
  ·rw [Bool.true_and]
   go_enter Tryz.func57, Tryz.ntmps57
   go_upto_region 2 with fail
   obtain ⟨w8, hw8⟩ : ∃ w8, (w.alloc (.cells q.toArray 52)).drew = w8 := ⟨_, rfl⟩
   have hB8 : Below w.heap.size w w8 := by rw [← hw8]; exact hB.drew
   have hA8 : w8.rangeAt w.heap.size 0 q := by rw [← hw8]; exact (World.rangeAt_drew _ _ _ _).2 hA
   have hs8 : w.heap.size < w8.heap.size := by rw [← hw8]; exact hs
   have gb := fun w0 (h0 : Below w8.heap.size w8 w0) => kb w0 (hB8.trans (h0.mono hB8.size))
   have gs := fun w0 (h0 : Below w8.heap.size w8 w0) => ks w0 (hB8.trans (h0.mono hB8.size))
   have gf := fun w0 (h0 : Below w8.heap.size w8 w0) => kf w0 (hB8.trans (h0.mono hB8.size))
   refine hs_begin (S := (Below w8.heap.size w8)) 12 rfl (by kernel_rfl) ?_
   rw [hw8]
   clear hw8 hA hB hs c0 kb ks kf
   have hS : (Below w8.heap.size w8) w8 := Below.refl _ _
   refine hs_t 0 12 (?_) rfl (by kernel_rfl) (by kernel_rfl) (by kernel_rfl) (by rfl) ?_ hS rfl ?_
   rotate_left
   ·intro w' hw
    go_simp
    try with_reducible rfl
   simp only [nz]
   refine hs_t 1 13 (?_) rfl (by kernel_rfl) (by kernel_rfl) (by kernel_rfl) (by rfl) ?_ hS rfl ?_
   rotate_left
   ·intro w' hw
    go_simp
    try with_reducible rfl
   simp only [nz]
   refine hs_t 2 14 (.agg q.toArray) rfl (by kernel_rfl) (by kernel_rfl) (by kernel_rfl) (by rfl) (fun w' hw => exec_loadC rfl rfl (run_loadVar_mid (P := Tryz.prog) w' w.heap.size 0 52 q _ (range_below hA8 hw hs8) Tryz.underlying52 rfl iq)) hS rfl ?_
   simp only [nz]
   refine hs_t 3 15 (.agg q.toArray) rfl (by kernel_rfl) (by kernel_rfl) (by kernel_rfl) (by rfl) (fun w' hw => exec_loadC rfl rfl (run_loadVar_mid (P := Tryz.prog) w' w.heap.size 0 52 q _ (range_below hA8 hw hs8) Tryz.underlying52 rfl iq)) hS rfl ?_
   simp only [nz]
   refine hs_call (i := 4) (d := some 16) rfl (by kernel_rfl) (by rfl) (by go_simp; first | done | exact ⟨rfl, rfl⟩ | with_reducible rfl) rfl ?_
   refine (gb _ hS).mono ?_
   rintro e' wn1 ⟨rfl, hb1⟩
   have hS : (Below w8.heap.size w8) wn1 := hS.trans (hb1.mono hS.size)
   refine ⟨_, rfl, hS, ?_⟩
   simp only [nz]
   refine hs_call (i := 5) (d := some 17) rfl (by kernel_rfl) (by rfl) (by go_simp; first | done | exact ⟨rfl, rfl⟩ | with_reducible rfl) rfl ?_
   refine (gs _ hS).mono ?_
   rintro e' wn2 ⟨rfl, hb2⟩
   have hS : (Below w8.heap.size w8) wn2 := hS.trans (hb2.mono hS.size)
   refine ⟨_, rfl, hS, ?_⟩
   simp only [nz]
   refine hs_t 6 18 (?_) rfl (by kernel_rfl) (by kernel_rfl) (by kernel_rfl) (by rfl) ?_ hS rfl ?_
   rotate_left
   ·intro w' hw
    go_simp
    try with_reducible rfl
   simp only [nz]
   refine hs_t 7 19 (?_) rfl (by kernel_rfl) (by kernel_rfl) (by kernel_rfl) (by rfl) ?_ hS rfl ?_
   rotate_left
   ·intro w' hw
    go_simp
    try with_reducible rfl
   simp only [nz]
   refine hs_t 8 20 (.agg q.toArray) rfl (by kernel_rfl) (by kernel_rfl) (by kernel_rfl) (by rfl) (fun w' hw => exec_loadC rfl rfl (run_loadVar_mid (P := Tryz.prog) w' w.heap.size 0 52 q _ (range_below hA8 hw hs8) Tryz.underlying52 rfl iq)) hS rfl ?_
   simp only [nz]
   refine hs_call (i := 9) (d := some 21) rfl (by kernel_rfl) (by rfl) (by go_simp; first | done | exact ⟨rfl, rfl⟩ | with_reducible rfl) rfl ?_
   refine (gf _ hS).mono ?_
   rintro e' wn3 ⟨rfl, hb3⟩
   have hS : (Below w8.heap.size w8) wn3 := hS.trans (hb3.mono hS.size)
   refine ⟨_, rfl, hS, ?_⟩
   simp only [nz]
   refine hs_t 10 22 (?_) rfl (by kernel_rfl) (by kernel_rfl) (by kernel_rfl) (by rfl) ?_ hS rfl ?_
   rotate_left
   ·intro w' hw
    go_simp
    try with_reducible rfl
   simp only [nz]
   refine hs_t 11 2 (?_) rfl (by kernel_rfl) (by kernel_rfl) (by kernel_rfl) (by rfl) ?_ hS rfl ?_
   rotate_left
   ·intro w' hw
    go_simp
    try with_reducible rfl
   simp only [nz]
   refine hs_done (by kernel_rfl) ?_
   go_wp2
   go_ret
   exact ⟨rfl, hB8.trans (hS.mono hB8.size)⟩
 ·rw [decide_eq_false hk, Bool.false_and]
  have hk' : k < 1 ∨ (1 ≤ k ∧ 8 < k) := by omega
  clear hk kb ks kf
  have kb : ∀ w0, Below w.heap.size w w0 → True := fun _ _ => trivial
  have ks := kb
  have kf := kb
  rcases hk' with hk | ⟨hk, hk2⟩
  ·have n1 : ¬ 1 ≤ k := by omega
   go_enter Tryz.func57, Tryz.ntmps57
   go_upto_region 2 with fail
   obtain ⟨w8, hw8⟩ : ∃ w8, (w.alloc (.cells q.toArray 52)).drew = w8 := ⟨_, rfl⟩
   have hB8 : Below w.heap.size w w8 := by rw [← hw8]; exact hB.drew
   have hA8 : w8.rangeAt w.heap.size 0 q := by rw [← hw8]; exact (World.rangeAt_drew _ _ _ _).2 hA
   have hs8 : w.heap.size < w8.heap.size := by rw [← hw8]; exact hs
   have gb := fun w0 (h0 : Below w8.heap.size w8 w0) => kb w0 (hB8.trans (h0.mono hB8.size))
   have gs := fun w0 (h0 : Below w8.heap.size w8 w0) => ks w0 (hB8.trans (h0.mono hB8.size))
   have gf := fun w0 (h0 : Below w8.heap.size w8 w0) => kf w0 (hB8.trans (h0.mono hB8.size))
   refine hs_begin (S := (Below w8.heap.size w8)) 12 rfl (by kernel_rfl) ?_
   rw [hw8]
   clear hw8 hA hB hs c0 kb ks kf
   have hS : (Below w8.heap.size w8) w8 := Below.refl _ _
   refine hs_t 0 12 (?_) rfl (by kernel_rfl) (by kernel_rfl) (by kernel_rfl) (by rfl) ?_ hS rfl ?_
   rotate_left
   ·intro w' hw
    go_simp
    try with_reducible rfl
   simp only [nz]
   refine hs_t 1 13 (?_) rfl (by kernel_rfl) (by kernel_rfl) (by kernel_rfl) (by rfl) ?_ hS rfl ?_
   rotate_left
   ·intro w' hw
    go_simp
    try with_reducible rfl
   simp only [nz]
   refine hs_skip (i := 2) (d := some 14) rfl (by kernel_rfl) (by kernel_rfl) (by kernel_rfl) (by rfl) hS rfl ?_
   simp only [nz]
   refine hs_skip (i := 3) (d := some 15) rfl (by kernel_rfl) (by kernel_rfl) (by kernel_rfl) (by rfl) hS rfl ?_
   simp only [nz]
   refine hs_skip (i := 4) (d := some 16) rfl (by kernel_rfl) (by kernel_rfl) (by kernel_rfl) (by rfl) hS rfl ?_
   simp only [nz]
   refine hs_skip (i := 5) (d := some 17) rfl (by kernel_rfl) (by kernel_rfl) (by kernel_rfl) (by rfl) hS rfl ?_
   simp only [nz]
   refine hs_t 6 18 (?_) rfl (by kernel_rfl) (by kernel_rfl) (by kernel_rfl) (by rfl) ?_ hS rfl ?_
   rotate_left
   ·intro w' hw
    go_simp
    try with_reducible rfl
   simp only [nz]
   refine hs_t 7 19 (?_) rfl (by kernel_rfl) (by kernel_rfl) (by kernel_rfl) (by rfl) ?_ hS rfl ?_
   rotate_left
   ·intro w' hw
    go_simp
    try with_reducible rfl
   simp only [nz]
   refine hs_skip (i := 8) (d := some 20) rfl (by kernel_rfl) (by kernel_rfl) (by kernel_rfl) (by rfl) hS rfl ?_
   simp only [nz]
   refine hs_skip (i := 9) (d := some 21) rfl (by kernel_rfl) (by kernel_rfl) (by kernel_rfl) (by rfl) hS rfl ?_
   simp only [nz]
   refine hs_t 10 22 (?_) rfl (by kernel_rfl) (by kernel_rfl) (by kernel_rfl) (by rfl) ?_ hS rfl ?_
   rotate_left
   ·intro w' hw
    go_simp
    try with_reducible rfl
   simp only [nz]
   refine hs_t 11 2 (?_) rfl (by kernel_rfl) (by kernel_rfl) (by kernel_rfl) (by rfl) ?_ hS rfl ?_
   rotate_left
   ·intro w' hw
    go_simp
    try with_reducible rfl
   simp only [nz]
   refine hs_done (by kernel_rfl) ?_
   go_wp2
   go_ret
   exact ⟨rfl, hB8.trans (hS.mono hB8.size)⟩
  ·have n1 : ¬ k ≤ 8 := by omega
   go_enter Tryz.func57, Tryz.ntmps57
   go_upto_region 2 with fail
   obtain ⟨w8, hw8⟩ : ∃ w8, (w.alloc (.cells q.toArray 52)).drew = w8 := ⟨_, rfl⟩
   have hB8 : Below w.heap.size w w8 := by rw [← hw8]; exact hB.drew
   have hA8 : w8.rangeAt w.heap.size 0 q := by rw [← hw8]; exact (World.rangeAt_drew _ _ _ _).2 hA
   have hs8 : w.heap.size < w8.heap.size := by rw [← hw8]; exact hs
   have gb := fun w0 (h0 : Below w8.heap.size w8 w0) => kb w0 (hB8.trans (h0.mono hB8.size))
   have gs := fun w0 (h0 : Below w8.heap.size w8 w0) => ks w0 (hB8.trans (h0.mono hB8.size))
   have gf := fun w0 (h0 : Below w8.heap.size w8 w0) => kf w0 (hB8.trans (h0.mono hB8.size))
   refine hs_begin (S := (Below w8.heap.size w8)) 12 rfl (by kernel_rfl) ?_
   rw [hw8]
   clear hw8 hA hB hs c0 kb ks kf
   have hS : (Below w8.heap.size w8) w8 := Below.refl _ _
   refine hs_t 0 12 (?_) rfl (by kernel_rfl) (by kernel_rfl) (by kernel_rfl) (by rfl) ?_ hS rfl ?_
   rotate_left
   ·intro w' hw
    go_simp
    try with_reducible rfl
   simp only [nz]
   refine hs_t 1 13 (?_) rfl (by kernel_rfl) (by kernel_rfl) (by kernel_rfl) (by rfl) ?_ hS rfl ?_
   rotate_left
   ·intro w' hw
    go_simp
    try with_reducible rfl
   simp only [nz]
   refine hs_skip (i := 2) (d := some 14) rfl (by kernel_rfl) (by kernel_rfl) (by kernel_rfl) (by rfl) hS rfl ?_
   simp only [nz]
   refine hs_skip (i := 3) (d := some 15) rfl (by kernel_rfl) (by kernel_rfl) (by kernel_rfl) (by rfl) hS rfl ?_
   simp only [nz]
   refine hs_skip (i := 4) (d := some 16) rfl (by kernel_rfl) (by kernel_rfl) (by kernel_rfl) (by rfl) hS rfl ?_
   simp only [nz]
   refine hs_skip (i := 5) (d := some 17) rfl (by kernel_rfl) (by kernel_rfl) (by kernel_rfl) (by rfl) hS rfl ?_
   simp only [nz]
   refine hs_t 6 18 (?_) rfl (by kernel_rfl) (by kernel_rfl) (by kernel_rfl) (by rfl) ?_ hS rfl ?_
   rotate_left
   ·intro w' hw
    go_simp
    try with_reducible rfl
   simp only [nz]
   refine hs_t 7 19 (?_) rfl (by kernel_rfl) (by kernel_rfl) (by kernel_rfl) (by rfl) ?_ hS rfl ?_
   rotate_left
   ·intro w' hw
    go_simp
    try with_reducible rfl
   simp only [nz]
   refine hs_skip (i := 8) (d := some 20) rfl (by kernel_rfl) (by kernel_rfl) (by kernel_rfl) (by rfl) hS rfl ?_
   simp only [nz]
   refine hs_skip (i := 9) (d := some 21) rfl (by kernel_rfl) (by kernel_rfl) (by kernel_rfl) (by rfl) hS rfl ?_
   simp only [nz]
   refine hs_t 10 22 (?_) rfl (by kernel_rfl) (by kernel_rfl) (by kernel_rfl) (by rfl) ?_ hS rfl ?_
   rotate_left
   ·intro w' hw
    go_simp
    try with_reducible rfl
   simp only [nz]
   refine hs_t 11 2 (?_) rfl (by kernel_rfl) (by kernel_rfl) (by kernel_rfl) (by rfl) ?_ hS rfl ?_
   rotate_left
   ·intro w' hw
    go_simp
    try with_reducible rfl
   simp only [nz]
   refine hs_done (by kernel_rfl) ?_
   go_wp2
   go_ret
   exact ⟨rfl, hB8.trans (hS.mono hB8.size)⟩
theorem good_any (m : Mg) (w : World) (om : m.ok) (am : m.At w) : Calls Tryz.prog 57 #[.agg m.ms.cells.toArray] w fun e w' => e = .returned (.bool m.good) ∧ Below w.heap.size w w' :=
 goodW m.ms.cells m.bare.ms.cells m.k (Mg.B m m.bare) m.may w om.ms.len rfl (fun h1 h8 w0 _ => bare_any m om h1 h8 w0) (fun h1 h8 w0 h0 => msame_any m m.bare w0 om (Mg.bare_ok om h1 h8) (am.below h0) ((Mg.bare_at am h1 h8).below h0)) (fun w0 h0 => fieldsMay_any m w0 om (am.below h0))
set_option linter.unusedVariables false
set_option linter.unusedSimpArgs false
set_option maxRecDepth 100000 in
set_option maxHeartbeats 4000000 in
theorem enc1 (q : List Value) (b : Bool) (zs : List Int) (w : World) (hq : q.length = 119)
  (hg : ∀ w0, Below w.heap.size w w0 → Calls Tryz.prog 57 #[.agg q.toArray] w0 fun e w' => e = .returned (.bool b) ∧ Below w0.heap.size w0 w') (hw : b = true → ∀ (X : Nat) (w0 : World), Below w.heap.size w w0 → w.heap.size ≤ X → WrAt w0 X (.slice none 0 0) [] false → Calls Tryz.prog 58 #[.pointer (some ⟨X, 0, none⟩), .agg q.toArray] w0 fun e w' => WrOn X (.slice none 0 0) [] zs w0 e w') :
  Calls Tryz.prog 22 #[.agg q.toArray] w fun e w' => e = .returned (encV b zs) ∧ Below w.heap.size w w' := by
 have hB : Below w.heap.size w (w.alloc (.cells q.toArray 52)) := (Below.refl _ _).alloc (Nat.le_refl _) _
 have hs : w.heap.size < (w.alloc (.cells q.toArray 52)).heap.size := by simp
 have hA : (w.alloc (.cells q.toArray 52)).rangeAt w.heap.size 0 q := by simpa using range_new w q.toArray 52
 have iq : (Tryz.prog.info? 52).map (·.size) = some q.length := by rw [hq]; exact iszM
 clear hq
 cases b
 ·show Calls Tryz.prog 22 #[.agg q.toArray] w fun e w' => e = .returned (.tuple #[.string ⟨#[]⟩, .int .i64 130]) ∧ Below w.heap.size w w'
  clear hw
  go_enter Tryz.func22, Tryz.ntmps22
  go_upto_region 1 with fail
  go_name_world w1 hw1
  rw [show w.alloc (.cells q.toArray 52) = w1 from hw1] at hB hs hA
  clear hw1
  go_wp2_with (refine wpList_load_mid rfl 52 _ rfl _ _ rfl q _ hA Tryz.underlying52 rfl iq ?_)
  refine (hg _ hB).mono ?_
  rintro e2 w2 ⟨rfl, hb2⟩
  have hB2 := hB.trans (hb2.mono (by omega))
  clear hA hg hB hb2
  go_wp2
  go_ret2
  exact ⟨rfl, hB2⟩
 ·show Calls Tryz.prog 22 #[.agg q.toArray] w fun e w' => e = .returned (.tuple #[.string (strOf zs), .int .i64 0]) ∧ Below w.heap.size w w'
  replace hw := hw rfl
  obtain ⟨sz, hsz⟩ : ∃ sz, Hid (strOf zs = sz) := ⟨_, hide rfl⟩
  rw [hsz.out]
  go_enter Tryz.func22, Tryz.ntmps22
  go_upto_region 1 with fail
  go_name_world w1 hw1
  rw [show w.alloc (.cells q.toArray 52) = w1 from hw1] at hB hs hA
  clear hw1
  go_wp2_with (refine wpList_load_mid rfl 52 _ rfl _ _ rfl q _ hA Tryz.underlying52 rfl iq ?_)
  refine (hg _ hB).mono ?_
  rintro e2 w2 ⟨rfl, hb2⟩
  have hB2 := hB.trans (hb2.mono (by omega))
  have hA2 := range_below hA hb2 hs
  have hs2 := Nat.lt_of_lt_of_le hs hb2.size
  clear hA hg hB hb2 hs
  go_upto_region 4 with fail
  have hN := wr_new w2
  have hB3 : Below w2.heap.size w2 (w2.alloc (.cells #[.slice none 0 0, .bool false] 116)) := (Below.refl _ _).alloc (Nat.le_refl _) _
  go_name_world w3 hw3
  rw [show w2.alloc (.cells #[.slice none 0 0, .bool false] 116) = w3 from hw3] at hN hB3
  clear hw3
  have hA3 := range_below hA2 hB3 hs2
  have hB4 := hB2.trans (hB3.mono (by omega))
  have cw := hw w2.heap.size w3 hB4 hB2.size hN
  have hs3 := hN.lt
  clear hA2 hB2 hB3 hw hN
  go_wp2_with (refine wpList_load_mid rfl 52 _ rfl _ _ rfl q _ hA3 Tryz.underlying52 rfl iq ?_)
  refine cw.mono ?_
  rintro e5 w5 ⟨v5, rfl, hW5, hO5, _⟩
  rw [List.nil_append] at hW5
  have c0 := hW5.c0
  have c1 := hW5.c1
  have hcs := mine_str hW5.me
  have hB5 := hB4.trans (hO5.below (n := w.heap.size) (by omega) (fun b hb hf => by
   rcases hf with hf | hf
   ·omega
   ·cases hf))
  obtain ⟨a5, cap5, rfl⟩ : ∃ a cap, v5 = .slice a zs.length cap := by
   rcases own_range hW5.me.1 with ⟨rfl, h0, _⟩ | ⟨g, cap, rfl, _⟩
   ·exact ⟨none, 0, by rw [h0]⟩
   ·exact ⟨_, cap, rfl⟩
  rw [hsz.out] at hcs
  clear hsz cw hW5 hO5 hA3 hB4
  go_wp2
  go_ret2
  exact ⟨rfl, hB5⟩
theorem Mg.good_k {m : Mg} (h : m.good = true) : 1 ≤ m.k ∧ m.k ≤ 8 := by
 unfold Mg.good at h
 rw [Bool.and_eq_true] at h
 exact of_decide_eq_true h.1
theorem enc_any (m : Mg) (w : World) (om : m.ok) (am : m.At w) (hf : m.good = true → m.Fine) : Calls Tryz.prog 22 #[.agg m.ms.cells.toArray] w fun e w' => e = .returned (encV m.good m.bytes) ∧ Below w.heap.size w w' :=
 enc1 m.ms.cells m.good m.bytes w om.ms.len (fun w0 h0 => good_any m w0 om (am.below h0)) (fun hg X w0 h0 hX hW => wmsg_on X _ [] m w w0 om am (hf hg) (Mg.good_k hg).1 (Mg.good_k hg).2 h0 hX hW (by simp))
structure Bat where
 q : Bool
 a : Option Addr
 cap : Nat
 rs : List BRq
def Bat.cells (x : Bat) : List Value := [.bool x.q, .slice x.a x.rs.length x.cap]
def Bat.at (x : Bat) (w : World) : Prop := ReqsAt w x.a x.rs ∧ True ∧ True
def BatsAt (w : World) (b : Nat) (xs : List Bat) : Prop := xs.length ≤ 2 ∧ (∀ x ∈ xs, x.at w) ∧ b < w.heap.size ∧ w.rangeAt b 0 (xs.flatMap Bat.cells)
def wtR (rs : List BRq) : Nat := (rs.map fun r => 20 + r.s.size).sum
def wt (xs : List Bat) : Nat := (xs.map fun x => 5 + wtR x.rs).sum
set_option maxHeartbeats 1600000 in
theorem raw_big (R : Nat) (rest : List Int) (e n : Int) (w : World) (h : St w R rest e) (hl : rest.length ≤ 40000) :
  Calls Tryz.prog 41 #[.pointer (some ⟨R, 0, none⟩), .int .i64 n] w fun en w' => ∃ v, en = .returned v ∧ Mine w' w.heap.size v (rawS rest e n).1 ∧ St w' R (rawS rest e n).2.1 (rawS rest e n).2.2 ∧ w.grownBy w' (some R) := by
 by_cases he : e = 0
 ·subst he
  by_cases hn : n < 0
  ·have HS : Hid (rawS rest 0 n = ([], rest, 2)) := by show _ = _; unfold rawS; rw [if_pos rfl, if_pos hn]
   go_enter Tryz.func41, Tryz.ntmps41
   go_wp2_with fail
   refine (err_made R 0 w h.1).mono ?_
   rintro en w1 ⟨rfl, rfl⟩
   go_wp2_with fail
   refine (fail_any R 0 2 w1 h.1).mono ?_
   rintro en w2 ⟨rfl, hE2, hg2⟩
   go_wp2_with fail
   go_ret
   rw [HS.out]
   exact ⟨_, rfl, Mine.nil _ _, ⟨hE2, fun h => by cases h⟩, hg2⟩
  ·by_cases hf : (rest.length : Int) < n
   ·have HS : Hid (rawS rest 0 n = ([], rest, 10)) := by show _ = _; unfold rawS; rw [if_pos rfl, if_neg hn, if_pos hf]
    go_enter Tryz.func41, Tryz.ntmps41
    go_wp2_with fail
    refine (err_made R 0 w h.1).mono ?_
    rintro en w1 ⟨rfl, rfl⟩
    go_wp2_with fail
    refine (next_few R rest n w1 h hf).mono ?_
    rintro en w2 ⟨rfl, hS2, hg2⟩
    have cc := clone_any none 0 [] w2 (nil_row w2) (by simp)
    simp only [List.length_nil] at cc
    go_wp2_with fail
    refine cc.mono ?_
    rintro en w3 ⟨v, rfl, hm, hb⟩
    go_wp2_with fail
    go_ret
    rw [HS.out]
    exact ⟨_, rfl, hm.mono' hg2.size, hS2.below hb, gb_trans hg2 (gb_below hb _)⟩
   ·have HS : Hid (rawS rest 0 n = (rest.take n.toNat, rest.drop n.toNat, 0)) := by show _ = _; unfold rawS; rw [if_pos rfl, if_neg hn, if_neg hf]
    go_enter Tryz.func41, Tryz.ntmps41
    go_wp2_with fail
    refine (err_made R 0 w h.1).mono ?_
    rintro en w1 ⟨rfl, rfl⟩
    go_wp2_with fail
    refine (next_there R rest n w1 h (by omega) (by omega)).mono ?_
    rintro en w2 ⟨a, cap, rfl, hca, hra, hS2, hg2⟩
    have cc := clone_any a cap (rest.take n.toNat) w2 hra (by rw [List.length_take]; omega)
    rw [List.length_take_of_le (by omega)] at cc
    go_wp2_with fail
    refine cc.mono ?_
    rintro en w3 ⟨v, rfl, hm, hb⟩
    go_wp2_with fail
    go_ret
    rw [HS.out]
    exact ⟨_, rfl, hm.mono' hg2.size, hS2.below hb, gb_trans hg2 (gb_below hb _)⟩
 ·have HS : Hid (rawS rest e n = ([], rest, e)) := by show _ = _; unfold rawS; rw [if_neg he]
  have he' : (e == 0) = false := by simpa using he
  go_enter Tryz.func41, Tryz.ntmps41
  go_wp2_with fail
  refine (err_made R e w h.1).mono ?_
  rintro en w1 ⟨rfl, rfl⟩
  go_wp2_with fail
  go_ret
  rw [HS.out]
  exact ⟨_, rfl, Mine.nil _ _, h, gb_refl _ _⟩
theorem gb_onR {w W W' : World} {R B : Nat} (h : w.grownBy W (some R)) (hb : Below B W W') (hB : w.heap.size ≤ B) : w.grownBy W' (some R) :=
 ⟨hb.os.trans h.os, hb.tape.trans h.tape, hb.output.trans h.output, Nat.le_trans h.size hb.size, fun i hi hr => (hb.block i (by omega)).trans (h.block i hi hr)⟩
theorem gb_setsR (W : World) (b : Nat) : ∀ (vs : List Value) (o : Nat), W.grownBy (W.setCells b o vs) (some b) := by
  intro vs
  induction vs generalizing W with
  | nil => intro o; exact gb_refl _ _
  | cons v vs ih => intro o; exact gb_trans (gb_set W b o v) (ih _ (o + 1))
theorem range_gbR {w w' : World} {R b : Nat} {cs : List Value} (h : w.rangeAt b 0 cs) (hg : w.grownBy w' (some R)) (hb : b < w.heap.size) (hne : b ≠ R) : w'.rangeAt b 0 cs := fun j v hv => by
 rw [(@cell_block w w' b (0 + j) (hg.block b hb (by intro q; injection q with q; exact hne q))).1]
 exact h j v hv
theorem there_gbR {w w' : World} {R b n : Nat} (h : w.there b 0 n) (hg : w.grownBy w' (some R)) (hb : b < w.heap.size) (hne : b ≠ R) : w'.there b 0 n := fun j hj => by
 have hk := @cell_block w w' b (0 + j) (hg.block b hb (by intro q; injection q with q; exact hne q))
 exact ⟨by rw [hk.1]; exact (h j hj).1, by rw [hk.2]; exact (h j hj).2⟩
theorem exec_copy {P : Program} {o : Oper} {a : Act} {w w' : World} {s x : Operand} {t tx : TypeId} {v xv v' : Value} (ho : o.op = .call { callee := .builtin .copy, args := #[s, x], argTypes := #[t, tx] }) (hv : a.eval s = v) (hx : a.eval x = xv)
    (hr : (Builtin.copy_ #[t, tx] o.type #[v, xv]).run P w = .ok v' w') : (execOp a.eval o).run P w = .ok (.value v') w' := by
  unfold execOp
  simp only [ho, resolve, invoke, builtin, Sem.run_bind, Sem.run_pure, Result.andThen_ok, List.map_toArray, List.map_cons, List.map_nil, hv, hx, hr]
theorem numS_len (rest : List Int) (e most : Int) : (numS rest e most).2.1.length ≤ rest.length := by
 unfold numS
 split
 ·split
  ·split
   ·exact Nat.le_refl _
   ·show (rest.drop _).length ≤ _; rw [List.length_drop]; omega
  ·exact Nat.le_refl _
 ·exact Nat.le_refl _
theorem textS_len (rest : List Int) (e most : Int) : (textS rest e most).2.1.length ≤ rest.length := by
 have h := numS_len rest e 9223372036854775807
 unfold textS
 split
 ·split
  ·exact Nat.le_refl _
  ·split
   ·exact Nat.le_refl _
   ·show ((numS rest e 9223372036854775807).2.1.drop _).length ≤ _; rw [List.length_drop]; omega
 ·exact Nat.le_refl _
def padN (n : Nat) (zs : List Int) : List Int := if zs.length = n then zs else List.replicate n 0
theorem rawS_len (rest : List Int) (e n : Int) : (rawS rest e n).2.1.length ≤ rest.length := by
 unfold rawS
 split
 ·split
  ·exact Nat.le_refl _
  ·split
   ·exact Nat.le_refl _
   ·show (rest.drop _).length ≤ _; rw [List.length_drop]; omega
 ·exact Nat.le_refl _
theorem rawS_N (rest : List Int) (e : Int) (n : Nat) : (rawS rest e n).1.length = n ∨ (rawS rest e n).1 = [] := by
 unfold rawS
 split
 ·split
  ·exact .inr rfl
  ·split
   ·exact .inr rfl
   ·left; show (rest.take _).length = n; rw [List.length_take]; omega
 ·exact .inr rfl
theorem copy_pad {w : World} {B n : Nat} {a : Option Addr} {cap : Nat} {t : List Int} (h0 : 0 < n) (hT : w.there B 0 n) (hz : w.rangeAt B 0 (v8 (List.replicate n (0 : Int)))) (hrow : RowAt w a t) (ht : t.length = n ∨ t = []) :
  ∃ w', (Builtin.copy_ #[59, 59] 3 #[.slice (some ⟨B, 0, none⟩) n n, .slice a t.length cap]).run Tryz.prog w = .ok (goInt t.length) w' ∧ w'.rangeAt B 0 (v8 (padN n t)) ∧ w' = w.setCells B 0 (v8 t) := by
 rcases ht with ht | rfl
 ·rcases hrow.2.2 with rfl | ⟨b, off, rfl, hb, hr⟩
  ·exfalso; simp at ht; omega
  ·refine ⟨_, ?_, ?_, rfl⟩
   ·have := run_copy_cells (P := Tryz.prog) w 59 59 3 5 B 0 n n ⟨b, off, none⟩ t.length cap (v8 t) Tryz.underlying59 isz8 (by rw [v8_length, ht]; exact (Nat.min_self _).symm) (fun j v hv => by rw [Addr.add_mid]; exact hr j v hv) (fun j hj => by rw [v8_length] at hj; exact (hT j (by omega)).1) (fun j hj => by rw [v8_length] at hj; exact (hT j (by omega)).2) (v8_one _)
    rw [v8_length] at this
    exact this
   ·unfold padN
    rw [if_pos ht]
    exact World.rangeAt_setCells_same w B 0 (v8 t) (by rw [v8_length, ht]; exact hT)
 ·refine ⟨w, run_copy_none (P := Tryz.prog) w 59 59 3 5 _ a n n 0 cap Tryz.underlying59 isz8 (by simp), ?_, rfl⟩
  unfold padN
  rw [if_neg (by simp; omega)]
  exact hz
theorem padN_len (n : Nat) (zs : List Int) : (padN n zs).length = n := by
 unfold padN
 split
 ·assumption
 ·simp
theorem there_belowN {w w' : World} {b n : Nat} (h : w.there b 0 n) (hb : Below w.heap.size w w') (hlt : b < w.heap.size) : w'.there b 0 n := there_blk h (hb.block b hlt)
theorem blk_sets {w : World} {b q o : Nat} {vs : List Value} (h : q ≠ b) : (w.setCells b o vs).heap[q]? = w.heap[q]? := by
 by_cases hq : q < w.heap.size
 ·exact (gb_setsR w b vs o).block q hq (by intro e; injection e with e; exact h e)
 ·have h1 : w.heap.size ≤ q := by omega
  rw [Array.getElem?_eq_none (by rw [size_sets]; exact h1), Array.getElem?_eq_none h1]
set_option maxRecDepth 100000 in
set_option maxHeartbeats 1000000 in
theorem rtag_any (Q R : Nat) (z : Bool) (rest : List Int) (e : Int) (w : World) (h : St w R rest e) (hq : MrAt w Q R z) (hl : rest.length ≤ 40000) : Calls Tryz.prog 157 #[.pointer (some ⟨Q, 0, none⟩)] w fun en w' => en = .returned (.agg (v8 (padN 16 (rawS rest e 16).1)).toArray) ∧ St w' R (rawS rest e 16).2.1 (rawS rest e 16).2.2 ∧ w.grownBy w' (some R) := by
 obtain ⟨zc, hzc, hzr⟩ : ∃ zc : List Value, Hid (zc = v8 (List.replicate 16 (0 : Int))) ∧ ∀ w' : World, (zeroValue 23).run Tryz.prog w' = .ok (.agg zc.toArray) w' := ⟨_, hide rfl, fun w => by kernel_rfl⟩
 have hRw := h.1.1
 have hQw := hq.lt
 obtain ⟨hB1, hr1, hs1⟩ := boxed_new w zc 23
 have ht1 := there_newN w zc.toArray 23 (n := 16) (by rw [hzc.out]; simp)
 have hip : (Tryz.prog.info? 23).map (·.size) = some (v8 (padN 16 (rawS rest e 16).1)).length := by rw [v8_length, padN_len]; kernel_rfl
 have hp1 := v8_one (padN 16 (rawS rest e 16).1)
 have hpl : (v8 (padN 16 (rawS rest e 16).1)).length = 16 := by rw [v8_length, padN_len]
 obtain ⟨pc, hpc⟩ : ∃ p, Hid (v8 (padN 16 (rawS rest e 16).1) = p) := ⟨_, hide rfl⟩
 rw [hpc.out] at hip hp1 hpl ⊢
 go_enter Tryz.func157, Tryz.ntmps157
 go_upto_region 0 with fail
 try simp only [Act.put]
 refine pl_begin ?_
 refine pl_run (d := some 2) (v := .pointer (some ⟨w.heap.size, 0, none⟩)) (w' := w.alloc (.cells zc.toArray 23)) (by rfl) (ex_alloc rfl (hzr _)) rfl ?_
 simp only [nz]
 refine pl_nil ?_
 obtain ⟨W1, hW1⟩ : ∃ W, w.alloc (.cells zc.toArray 23) = W := ⟨_, rfl⟩
 rw [hW1] at hB1 hr1 hs1 ht1 ⊢
 clear hW1
 obtain ⟨hB2, hr2, hs2⟩ := boxed_new W1 zc 23
 have ht2 := there_newN W1 zc.toArray 23 (n := 16) (by rw [hzc.out]; simp)
 go_upto_region 1 with fail
 try simp only [Act.put]
 refine pl_begin ?_
 refine pl_run (d := some 3) (v := .pointer (some ⟨W1.heap.size, 0, none⟩)) (w' := W1.alloc (.cells zc.toArray 23)) (by rfl) (ex_alloc rfl (hzr _)) rfl ?_
 simp only [nz]
 refine pl_nil ?_
 obtain ⟨W2, hW2⟩ : ∃ W, W1.alloc (.cells zc.toArray 23) = W := ⟨_, rfl⟩
 rw [hW2] at hB2 hr2 hs2 ht2 ⊢
 clear hW2
 rw [hzc.out] at hr2
 have thA0 := there_belowN ht1 hB2 hs1
 have hBW := hB1.trans (hB2.mono hB1.size)
 clear hr1 ht1 hzr hzc
 go_upto_region 2 with fail
 have hB8 : Below w.heap.size w W2.drew := hBW.drew
 have rz8 : W2.drew.rangeAt W1.heap.size 0 _ := (World.rangeAt_drew _ _ _ _).2 hr2
 have th8 : W2.drew.there W1.heap.size 0 16 := ht2
 have thA8 : W2.drew.there w.heap.size 0 16 := thA0
 have hB1' : W1.heap.size < W2.drew.heap.size := hs2
 refine hs_begin (S := (fun W' => MrAt W' Q R z)) 7 rfl (by kernel_rfl) ?_
 obtain ⟨w8, hw8⟩ : ∃ W, W2.drew = W := ⟨_, rfl⟩
 rw [hw8] at hB8 rz8 th8 thA8 hB1' ⊢
 clear hw8 hr2 ht2 thA0 hBW hs2 hB2
 have st8 := h.below hB8
 have hq8 := hq.below hB8
 have hne1 : W1.heap.size ≠ R := by omega
 have hS : (fun W' => MrAt W' Q R z) w8 := hq8
 refine hs_t 0 4 (?_) rfl (by kernel_rfl) (by kernel_rfl) (by kernel_rfl) (by rfl) ?_ hS rfl ?_
 rotate_left
 ·intro w' hw
  go_simp
  try with_reducible rfl
 simp only [nz]
 refine hs_t 1 5 (?_) rfl (by kernel_rfl) (by kernel_rfl) (by kernel_rfl) (by rfl) ?_ hS rfl ?_
 rotate_left
 ·intro w' hw
  go_simp
  try with_reducible rfl
 simp only [nz]
 refine hs_t 2 6 (?_) rfl (by kernel_rfl) (by kernel_rfl) (by kernel_rfl) (by rfl) ?_ hS rfl ?_
 rotate_left
 ·intro w' hw
  go_simp
  try with_reducible rfl
 simp only [nz]
 refine hs_t 3 7 (?_) rfl (by kernel_rfl) (by kernel_rfl) (by kernel_rfl) (by rfl) ?_ hS rfl ?_
 rotate_left
 ·intro w' hw
  go_simp
  try with_reducible rfl
 simp only [nz]
 refine hs_t 4 8 (.pointer (some ⟨R, 0, none⟩)) rfl (by kernel_rfl) (by kernel_rfl) (by kernel_rfl) (by rfl) (fun w' hw => pl_one rfl rfl hw.c0 Tryz.underlying98 rfl) hS rfl ?_
 simp only [nz]
 refine hs_call (i := 5) (d := some 9) rfl (by kernel_rfl) (by rfl) (by go_simp; first | done | exact ⟨rfl, rfl⟩ | with_reducible rfl) rfl ?_
 refine (raw_big R rest e 16 w8 st8 hl).mono ?_
 rintro _ w9 ⟨v9, rfl, m9, st9, g9⟩
 have hS : (fun W' => MrAt W' Q R z) w9 := hq8.gb g9
 refine ⟨_, rfl, hS, ?_⟩
 obtain ⟨av, cv, hve, _, _, row9⟩ := m9.rowAt (by unfold maxLen; have hN : (rawS rest e 16).1.length = 16 ∨ (rawS rest e 16).1 = [] := rawS_N rest e 16; rcases hN with h | h <;> (rw [h]; simp))
 rw [hve]
 obtain ⟨wc, hcp, hrc, hwc⟩ := copy_pad (n := 16) (cap := cv) (by decide) (there_gbR th8 g9 hB1' hne1) (range_gbR rz8 g9 hB1' hne1) row9 (rawS_N rest e 16)
 clear hve
 simp only [nz]
 have hSc : (fun W' => MrAt W' Q R z) wc := by rw [hwc]; exact (hq8.gb g9).at (blk_sets (by omega)) (by rw [size_sets]; exact Nat.le_refl _)
 refine hs_run (i := 6) (d := some 10) (v := goInt (rawS rest e 16).1.length) (w' := wc) rfl (by kernel_rfl) (by rfl) (exec_copy rfl rfl rfl hcp) rfl hSc ?_
 simp only [nz]
 refine hs_done (by kernel_rfl) ?_
 have g8 : w.grownBy w8 (some R) := gb_below hB8 _
 have g9' := gb_trans g8 g9
 have hlow : Below w.heap.size w9 wc := by rw [hwc]; exact below_sets (by omega) _ _ _ (Below.refl _ _)
 have thA : wc.there w.heap.size 0 16 := by rw [hwc]; exact World.there_setCells (there_gbR thA8 g9 (by omega) (by omega)) _ _ _
 have gc := gb_onR g9' hlow (Nat.le_refl _)
 have sc : St wc R _ _ := st9.belowN hlow hRw
 rw [hpc.out] at hrc
 clear hwc hcp m9 row9 st8 hq8 g9 g8 st9 hlow hS rz8 th8 thA8 hB8 hpc
 go_upto_region 3 with fail
 try simp only [Act.put]
 refine pl_begin ?_
 refine pl_t 11 (.agg pc.toArray) (by rfl) (ex_mid rfl rfl hrc Tryz.underlying23 rfl hip) rfl ?_
 simp only [nz]
 refine pl_store (w' := wc.setCells w.heap.size 0 pc) (by rfl) (ex_put (cs := pc.toArray) rfl rfl rfl (by simpa [hpl] using thA) (by simpa using hip) (all_one hp1)) rfl ?_
 refine pl_nil ?_
 have hrs := run_loadVar_mid (P := Tryz.prog) (wc.setCells w.heap.size 0 pc) w.heap.size 0 23 pc _ (World.rangeAt_setCells_same wc w.heap.size 0 pc (by rw [hpl]; exact thA)) Tryz.underlying23 rfl hip
 have gf := gb_onR gc (below_sets (B := w.heap.size) (b := w.heap.size) (Nat.le_refl _) pc 0 _ (Below.refl _ wc)) (Nat.le_refl _)
 have sf : St (wc.setCells w.heap.size 0 pc) R _ _ := sc.belowN (n := w.heap.size) (below_sets (Nat.le_refl _) pc 0 _ (Below.refl _ wc)) hRw
 clear sc gc
 go_wp2_with fail
 refine bodyPost_ret (v := .agg pc.toArray) ?_ rfl ?_
 ·simp [results, Tryz.results157, Act.put, asAddr, hrs]
 ·exact ⟨rfl, sf, gf⟩
set_option maxRecDepth 100000 in
set_option maxHeartbeats 1000000 in
theorem rdigest_any (Q R : Nat) (z : Bool) (rest : List Int) (e : Int) (w : World) (h : St w R rest e) (hq : MrAt w Q R z) (hl : rest.length ≤ 40000) : Calls Tryz.prog 113 #[.pointer (some ⟨Q, 0, none⟩)] w fun en w' => en = .returned (.agg (v8 (padN 32 (rawS rest e 32).1)).toArray) ∧ St w' R (rawS rest e 32).2.1 (rawS rest e 32).2.2 ∧ w.grownBy w' (some R) := by
 obtain ⟨zc, hzc, hzr⟩ : ∃ zc : List Value, Hid (zc = v8 (List.replicate 32 (0 : Int))) ∧ ∀ w' : World, (zeroValue 41).run Tryz.prog w' = .ok (.agg zc.toArray) w' := ⟨_, hide rfl, fun w => by kernel_rfl⟩
 have hRw := h.1.1
 have hQw := hq.lt
 obtain ⟨hB1, hr1, hs1⟩ := boxed_new w zc 41
 have ht1 := there_newN w zc.toArray 41 (n := 32) (by rw [hzc.out]; simp)
 have hip : (Tryz.prog.info? 41).map (·.size) = some (v8 (padN 32 (rawS rest e 32).1)).length := by rw [v8_length, padN_len]; kernel_rfl
 have hp1 := v8_one (padN 32 (rawS rest e 32).1)
 have hpl : (v8 (padN 32 (rawS rest e 32).1)).length = 32 := by rw [v8_length, padN_len]
 obtain ⟨pc, hpc⟩ : ∃ p, Hid (v8 (padN 32 (rawS rest e 32).1) = p) := ⟨_, hide rfl⟩
 rw [hpc.out] at hip hp1 hpl ⊢
 go_enter Tryz.func113, Tryz.ntmps113
 go_upto_region 0 with fail
 try simp only [Act.put]
 refine pl_begin ?_
 refine pl_run (d := some 2) (v := .pointer (some ⟨w.heap.size, 0, none⟩)) (w' := w.alloc (.cells zc.toArray 41)) (by rfl) (ex_alloc rfl (hzr _)) rfl ?_
 simp only [nz]
 refine pl_nil ?_
 obtain ⟨W1, hW1⟩ : ∃ W, w.alloc (.cells zc.toArray 41) = W := ⟨_, rfl⟩
 rw [hW1] at hB1 hr1 hs1 ht1 ⊢
 clear hW1
 obtain ⟨hB2, hr2, hs2⟩ := boxed_new W1 zc 41
 have ht2 := there_newN W1 zc.toArray 41 (n := 32) (by rw [hzc.out]; simp)
 go_upto_region 1 with fail
 try simp only [Act.put]
 refine pl_begin ?_
 refine pl_run (d := some 3) (v := .pointer (some ⟨W1.heap.size, 0, none⟩)) (w' := W1.alloc (.cells zc.toArray 41)) (by rfl) (ex_alloc rfl (hzr _)) rfl ?_
 simp only [nz]
 refine pl_nil ?_
 obtain ⟨W2, hW2⟩ : ∃ W, W1.alloc (.cells zc.toArray 41) = W := ⟨_, rfl⟩
 rw [hW2] at hB2 hr2 hs2 ht2 ⊢
 clear hW2
 rw [hzc.out] at hr2
 have thA0 := there_belowN ht1 hB2 hs1
 have hBW := hB1.trans (hB2.mono hB1.size)
 clear hr1 ht1 hzr hzc
 go_upto_region 2 with fail
 have hB8 : Below w.heap.size w W2.drew := hBW.drew
 have rz8 : W2.drew.rangeAt W1.heap.size 0 _ := (World.rangeAt_drew _ _ _ _).2 hr2
 have th8 : W2.drew.there W1.heap.size 0 32 := ht2
 have thA8 : W2.drew.there w.heap.size 0 32 := thA0
 have hB1' : W1.heap.size < W2.drew.heap.size := hs2
 refine hs_begin (S := (fun W' => MrAt W' Q R z)) 7 rfl (by kernel_rfl) ?_
 obtain ⟨w8, hw8⟩ : ∃ W, W2.drew = W := ⟨_, rfl⟩
 rw [hw8] at hB8 rz8 th8 thA8 hB1' ⊢
 clear hw8 hr2 ht2 thA0 hBW hs2 hB2
 have st8 := h.below hB8
 have hq8 := hq.below hB8
 have hne1 : W1.heap.size ≠ R := by omega
 have hS : (fun W' => MrAt W' Q R z) w8 := hq8
 refine hs_t 0 4 (?_) rfl (by kernel_rfl) (by kernel_rfl) (by kernel_rfl) (by rfl) ?_ hS rfl ?_
 rotate_left
 ·intro w' hw
  go_simp
  try with_reducible rfl
 simp only [nz]
 refine hs_t 1 5 (?_) rfl (by kernel_rfl) (by kernel_rfl) (by kernel_rfl) (by rfl) ?_ hS rfl ?_
 rotate_left
 ·intro w' hw
  go_simp
  try with_reducible rfl
 simp only [nz]
 refine hs_t 2 6 (?_) rfl (by kernel_rfl) (by kernel_rfl) (by kernel_rfl) (by rfl) ?_ hS rfl ?_
 rotate_left
 ·intro w' hw
  go_simp
  try with_reducible rfl
 simp only [nz]
 refine hs_t 3 7 (?_) rfl (by kernel_rfl) (by kernel_rfl) (by kernel_rfl) (by rfl) ?_ hS rfl ?_
 rotate_left
 ·intro w' hw
  go_simp
  try with_reducible rfl
 simp only [nz]
 refine hs_t 4 8 (.pointer (some ⟨R, 0, none⟩)) rfl (by kernel_rfl) (by kernel_rfl) (by kernel_rfl) (by rfl) (fun w' hw => pl_one rfl rfl hw.c0 Tryz.underlying98 rfl) hS rfl ?_
 simp only [nz]
 refine hs_call (i := 5) (d := some 9) rfl (by kernel_rfl) (by rfl) (by go_simp; first | done | exact ⟨rfl, rfl⟩ | with_reducible rfl) rfl ?_
 refine (raw_big R rest e 32 w8 st8 hl).mono ?_
 rintro _ w9 ⟨v9, rfl, m9, st9, g9⟩
 have hS : (fun W' => MrAt W' Q R z) w9 := hq8.gb g9
 refine ⟨_, rfl, hS, ?_⟩
 obtain ⟨av, cv, hve, _, _, row9⟩ := m9.rowAt (by unfold maxLen; have hN : (rawS rest e 32).1.length = 32 ∨ (rawS rest e 32).1 = [] := rawS_N rest e 32; rcases hN with h | h <;> (rw [h]; simp))
 rw [hve]
 obtain ⟨wc, hcp, hrc, hwc⟩ := copy_pad (n := 32) (cap := cv) (by decide) (there_gbR th8 g9 hB1' hne1) (range_gbR rz8 g9 hB1' hne1) row9 (rawS_N rest e 32)
 clear hve
 simp only [nz]
 have hSc : (fun W' => MrAt W' Q R z) wc := by rw [hwc]; exact (hq8.gb g9).at (blk_sets (by omega)) (by rw [size_sets]; exact Nat.le_refl _)
 refine hs_run (i := 6) (d := some 10) (v := goInt (rawS rest e 32).1.length) (w' := wc) rfl (by kernel_rfl) (by rfl) (exec_copy rfl rfl rfl hcp) rfl hSc ?_
 simp only [nz]
 refine hs_done (by kernel_rfl) ?_
 have g8 : w.grownBy w8 (some R) := gb_below hB8 _
 have g9' := gb_trans g8 g9
 have hlow : Below w.heap.size w9 wc := by rw [hwc]; exact below_sets (by omega) _ _ _ (Below.refl _ _)
 have thA : wc.there w.heap.size 0 32 := by rw [hwc]; exact World.there_setCells (there_gbR thA8 g9 (by omega) (by omega)) _ _ _
 have gc := gb_onR g9' hlow (Nat.le_refl _)
 have sc : St wc R _ _ := st9.belowN hlow hRw
 rw [hpc.out] at hrc
 clear hwc hcp m9 row9 st8 hq8 g9 g8 st9 hlow hS rz8 th8 thA8 hB8 hpc
 go_upto_region 3 with fail
 try simp only [Act.put]
 refine pl_begin ?_
 refine pl_t 11 (.agg pc.toArray) (by rfl) (ex_mid rfl rfl hrc Tryz.underlying41 rfl hip) rfl ?_
 simp only [nz]
 refine pl_store (w' := wc.setCells w.heap.size 0 pc) (by rfl) (ex_put (cs := pc.toArray) rfl rfl rfl (by simpa [hpl] using thA) (by simpa using hip) (all_one hp1)) rfl ?_
 refine pl_nil ?_
 have hrs := run_loadVar_mid (P := Tryz.prog) (wc.setCells w.heap.size 0 pc) w.heap.size 0 41 pc _ (World.rangeAt_setCells_same wc w.heap.size 0 pc (by rw [hpl]; exact thA)) Tryz.underlying41 rfl hip
 have gf := gb_onR gc (below_sets (B := w.heap.size) (b := w.heap.size) (Nat.le_refl _) pc 0 _ (Below.refl _ wc)) (Nat.le_refl _)
 have sf : St (wc.setCells w.heap.size 0 pc) R _ _ := sc.belowN (n := w.heap.size) (below_sets (Nat.le_refl _) pc 0 _ (Below.refl _ wc)) hRw
 clear sc gc
 go_wp2_with fail
 refine bodyPost_ret (v := .agg pc.toArray) ?_ rfl ?_
 ·simp [results, Tryz.results113, Act.put, asAddr, hrs]
 ·exact ⟨rfl, sf, gf⟩
set_option maxHeartbeats 800000 in
theorem refRead_any (a : Option Addr) (cap : Nat) (zs : List Int) (w : World) (h : RowAt w a zs) (hl : zs.length ≤ 40000) :
  Calls Tryz.prog 43 #[.slice a zs.length cap] w fun e w' => ∃ X, e = .returned (.pointer (some ⟨X, 0, none⟩)) ∧ w.heap.size ≤ X ∧ RSt w.heap.size w' X zs 0 ∧ Below w.heap.size w w' := by
 obtain ⟨i0, hi, hz0, hz1, hz2⟩ := info_parts info8
 go_enter Tryz.func43, Tryz.ntmps43
 go_wp2_with (at_builtin; refine wpList_append_own_src _ rfl _ _ 59 59 rfl w.heap.size 5 i0 (.int .u8 0) 1 1 Tryz.underlying59 hi hz0 hz1 hz2 rfl _ 0 [] rfl (World.ownsRow_made w #[] 0 (Nat.le_refl _) (by simp) (by simp)) (.slice a zs.length cap) zs.length (zs.map (Value.int .u8)) rfl ((h.below ((Below.refl _ _).alloc (Nat.le_refl _) _)).src cap) ?c1 ?c2 ?c3 ?_)
 case c1 => unfold maxLen; omega
 case c2 => omega
 case c3 => simp
 intro v' w1 hown hgrow
 have hb : Below w.heap.size w w1 := ((Below.refl _ _).alloc (Nat.le_refl _) _).grown hgrow (by simp) (fun k hk => by simp [Value.ownBlock] at hk; omega)
 have hmine : Mine w1 w.heap.size v' zs := ⟨by simpa using hown, h.2.1⟩
 clear hown hgrow
 obtain ⟨a', cap', rfl, hc1, hc2, hr⟩ := hmine.rowAt (by unfold maxLen; omega)
 have hblk : ∀ x, a' = some x → w.heap.size ≤ x.block ∧ x.block < w1.heap.size := fun x hx => hmine.1.lt x.block (by simp [hx, Value.ownBlock])
 have hb2 : Below w1.heap.size w1 (w1.alloc (.cells #[.slice a' zs.length cap', .int .i64 0, .int .i64 0] 130)) := (Below.refl _ _).alloc (Nat.le_refl _) _
 have hSt : RSt w.heap.size (w1.alloc (.cells #[.slice a' zs.length cap', .int .i64 0, .int .i64 0] 130)) w1.heap.size zs 0 := by
  have cs : ∀ j, (w1.alloc (.cells #[.slice a' zs.length cap', .int .i64 0, .int .i64 0] 130)).cell? ⟨w1.heap.size, j, none⟩ = (#[.slice a' zs.length cap', .int .i64 0, .int .i64 0] : Array Value)[j]? := fun j => World.cell?_alloc_at _ _ _ _ rfl
  have fs : ∀ j, (w1.alloc (.cells #[.slice a' zs.length cap', .int .i64 0, .int .i64 0] 130)).frozen? ⟨w1.heap.size, j, none⟩ = false := fun j => World.frozen?_alloc_at _ _ _ _ rfl
  exact ⟨zs, 0, ⟨by simp, ⟨a', cap', cs 0, hc1, hc2, hr.below hb2, hblk⟩, cs 1, cs 2, fs 0, fs 1, fs 2, Nat.zero_le _, hl⟩, fun _ => rfl⟩
 go_wp2_with fail
 go_ret
 exact ⟨_, rfl, hb.size, hSt, hb.trans (hb2.mono hb.size)⟩
open Go Go.RowKit
section
variable {P : Program} {ops : Array Oper} {Q : Exit → Act → World → Prop} {md : Region.Mode}
def Held (P : Program) (ops : Array Oper) (Q : Exit → Act → World → Prop) (w0 : World) (fuel : Nat) (listed : Array Bool) (a : Act) (w : World) : Prop :=
 wpAnyH P .any ops (NoPanic Q) (fun w' => Below w0.heap.size w0 w') fuel listed a w
theorem held_begin {id : Nat} {a : Act} {w : World} (n : Nat) (hn : ops.size = n) (hm : P.follows .mixedOrders = true) (h : Held P ops Q w.drew n (Array.replicate n false) a w.drew) : (Code.region id ops true).wp P Q a w := by
 subst hn
 exact wp_region_noPanic (wp_region_held hm h)
theorem held_take {i : Nat} {oi : Oper} {d : Option Nat} {v : Value} {fuel : Nat} {listed : Array Bool} {a : Act} {w w0 : World} (hi : ops[i]? = some oi)
  (hs : Region.noSelect ops = true) (hf : Region.free .any ops listed i = true) (hr : (Region.ready .any ops listed).contains i = true)
  (hw : Region.wanted oi (yielded ops a.tmps) = true) (hy : ∀ w', Below w0.heap.size w0 w' → (execOp a.eval oi).run P w' = .ok (.value v) w') (hS : Below w0.heap.size w0 w) (hdst : oi.dst = d)
  (h : Held P ops Q w0 fuel (listed.setIfInBounds i true) (a.put d v) w) : Held P ops Q w0 (fuel + 1) listed a w := by
 subst hdst
 exact wpAnyH_take hi hs hf hr (fun _ _ _ h => h) (Or.inl ⟨hw, hy⟩) hS h
theorem held_run {i : Nat} {oi : Oper} {d : Option Nat} {v : Value} {fuel : Nat} {listed : Array Bool} {a : Act} {w w' w0 : World} (hi : ops[i]? = some oi)
  (hr : Region.ready .any ops listed = [i]) (hw : Region.wanted oi (yielded ops a.tmps) = true) (hy : (execOp a.eval oi).run P w = .ok (.value v) w') (hdst : oi.dst = d)
  (hS : Below w0.heap.size w0 w') (h : Held P ops Q w0 fuel (listed.setIfInBounds i true) (a.put d v) w') : Held P ops Q w0 (fuel + 1) listed a w := by
 subst hdst
 refine wpAnyH_all hr (by simp) ?_
 intro j hj
 obtain rfl : j = i := by simpa using hj
 unfold wpOp
 simp only [hi, hw, if_true]
 left
 unfold Oper.wp
 rw [hy]
 exact ⟨hS, h⟩
theorem exec_append {o : Oper} {a : Act} {w w' : World} {s x : Operand} {t tx : TypeId} {v xv v' : Value} (ho : o.op = .call { callee := .builtin .append, args := #[s, x], argTypes := #[t, tx] }) (hs : a.eval s = v) (hx : a.eval x = xv)
    (hr : (Builtin.append_ #[t, tx] o.type #[v, xv]).run P w = .ok v' w') : (execOp a.eval o).run P w = .ok (.value v') w' := by
  unfold execOp
  simp only [ho, resolve, invoke, builtin, Sem.run_bind, Sem.run_pure, Result.andThen_ok, List.map_toArray, List.map_cons, List.map_nil, hs, hx, hr]
theorem held_done {fuel : Nat} {listed : Array Bool} {a : Act} {w w0 : World} (hr : Region.ready .any ops listed = []) (h : Q .normal a w) : Held P ops Q w0 fuel listed a w :=
 wpAnyH_done hr (NoPanic.normal h) fuel
end
end Go.Proofs.YtcbpbkefggekmaaGreatDoor
namespace Go.Proofs.YtcbpbkefggekmaaGreatDoor
open Go.RowKit
open Sha Tal
variable {B : Nat}
set_option maxRecDepth 100000 in
set_option maxHeartbeats 1600000 in
theorem refRaw_good (X : Nat) (zs : List Int) (p : Nat) (w : World) (hR : Rf B w X zs p 0) (m : Nat) (hmc : p + m ≤ zs.length) :
  Calls Tryz.prog 46 #[.pointer (some ⟨X, 0, none⟩), .int .i64 (m : Int)] w fun en w' => ∃ v, en = .returned v ∧ Mine w' w.heap.size v ((zs.drop p).take m) ∧ RSt B w' X (zs.drop (p + m)) 0 ∧ w.grownBy w' (some X) := by
 obtain ⟨i0, hi, hz0, hz1, hz2⟩ := info_parts info8
 have hl5 := hR.2.2.2.2.2.2.2.2
 have hpl := hR.2.2.2.2.2.2.2.1
 have h2 := hR.2.2.2.1
 have f1 := hR.2.2.2.2.2.1
 have h1 := hR.2.2.1
 obtain ⟨a, cap, h0, hc, hm, hrow, hne⟩ := id hR.2.1
 unfold maxLen at hm
 have hfew : ¬ ((zs.length : Int) - p < m) := by omega
 have hn0 : ¬ ((m : Int) < 0) := by omega
 go_enter Tryz.func46, Tryz.ntmps46
 go_wp2_with fail
 go_quiet (fail)
 go_wp2_with fail
 have hwrap : IntKind.i64.wrap (p : Int) = p := by
  have e : (p : Int) % 2 ^ 64 = p := by omega
  simp only [IntKind.wrap, IntKind.bits, IntKind.signed, e]
  rw [if_neg (by simp; omega)]
 have hRf : Rf B ((w.drewN nq).setCell ⟨X, 1, none⟩ (.int .i64 ((p : Int) + m))) X zs (p + m) 0 := by
  have := (hR.drewN nq).set1 (p + m) hmc
  have e : ((p + m : Nat) : Int) = (p : Int) + m := by omega
  rw [e] at this; exact this
 have hgW : w.grownBy ((w.drewN nq).setCell ⟨X, 1, none⟩ (.int .i64 ((p : Int) + m))) (some X) := gb_trans (gbz_drewN w nq _) (gb_set _ X 1 _)
 have HC0 : ((w.drewN nq).setCell ⟨X, 1, none⟩ (.int .i64 ((p : Int) + m))).drew.cell? ⟨X, 0, none⟩ = some (.slice a zs.length cap) := by
  have : (w.drewN nq).cell? ⟨X, 0, none⟩ = some (.slice a zs.length cap) := by simpa using h0
  exact (World.cell?_setCell_other _ _ _ _ (by simp)).trans this
 generalize (w.drewN nq).setCell ⟨X, 1, none⟩ (.int .i64 ((p : Int) + m)) = W at *
 have hW : Below W.heap.size W W.drew := (Below.refl _ _).drew
 have hRd : Rf B W.drew X zs (p + m) 0 := hRf.below hW
 have hrd : RowAt W.drew a zs := (hrow.gb hgW (.inr (suc_ne hne))).below hW
 have hsz : w.heap.size ≤ W.drew.heap.size := hgW.size
 clear h0 h1 h2 f1 hrow
 have hk0 : ∀ w', Below W.drew.heap.size W.drew w' → w'.cell? ⟨X, 0, none⟩ = some (.slice a zs.length cap) := by
  intro w' hw
  have hb := (cell_block (j := 0) (hw.block X hRd.1)).1
  rw [hb]; exact HC0
 have hk1 : ∀ w', Below W.drew.heap.size W.drew w' → w'.cell? ⟨X, 1, none⟩ = some (.int .i64 ((p : Int) + m)) := by
  intro w' hw
  have hb := (cell_block (j := 1) (hw.block X hRd.1)).1
  have := hRd.2.2.1
  have e : ((p + m : Nat) : Int) = (p : Int) + m := by omega
  rw [hb, this, e]
 have hsrc : Src Tryz.prog 1 59 (.slice (cutA a cap p) m (cap - p)) m (((zs.drop p).take m).map (Value.int .u8)) (W.drew.alloc (.cells #[] 5)) := by
  have hr := (((hrd.drop p cap hpl hc).take m).below ((Below.refl _ _).alloc (Nat.le_refl _) (.cells #[] 5))).src (cap - p)
  have el : ((zs.drop p).take m).length = m := by rw [List.length_take, List.length_drop]; omega
  rw [el] at hr; exact hr
 refine held_begin 18 rfl (by kernel_rfl) ?_
 have hS := Below.refl (W.drew).heap.size W.drew
 refine held_take (i := 1) (d := some 40) (v := ?_) rfl (by kernel_rfl) (by kernel_rfl) (by kernel_rfl) (by rfl) ?_ (by assumption) rfl ?_
 rotate_left
 ·intro w' hw
  go_simp
  try with_reducible rfl
 simp only [nz]
 refine held_take (i := 2) (d := some 41) (v := ?_) rfl (by kernel_rfl) (by kernel_rfl) (by kernel_rfl) (by rfl) ?_ (by assumption) rfl ?_
 rotate_left
 ·intro w' hw
  go_simp
  try with_reducible rfl
 simp only [nz]
 refine held_take (i := 3) (d := some 42) (v := ?_) rfl (by kernel_rfl) (by kernel_rfl) (by kernel_rfl) (by rfl) ?_ (by assumption) rfl ?_
 rotate_left
 ·intro w' hw
  go_simp
  try with_reducible rfl
 simp only [nz]
 refine held_take (i := 4) (d := some 43) (v := ?_) rfl (by kernel_rfl) (by kernel_rfl) (by kernel_rfl) (by rfl) ?_ (by assumption) rfl ?_
 rotate_left
 ·intro w' hw
  have c0 := hk0 w' hw
  have c1 := hk1 w' hw
  go_simp
  try with_reducible rfl
 simp only [nz]
 refine held_take (i := 5) (d := some 44) (v := ?_) rfl (by kernel_rfl) (by kernel_rfl) (by kernel_rfl) (by rfl) ?_ (by assumption) rfl ?_
 rotate_left
 ·intro w' hw
  go_simp
  try with_reducible rfl
 simp only [nz]
 refine held_take (i := 6) (d := some 45) (v := ?_) rfl (by kernel_rfl) (by kernel_rfl) (by kernel_rfl) (by rfl) ?_ (by assumption) rfl ?_
 rotate_left
 ·intro w' hw
  go_simp
  try with_reducible rfl
 simp only [nz]
 refine held_take (i := 7) (d := some 46) (v := ?_) rfl (by kernel_rfl) (by kernel_rfl) (by kernel_rfl) (by rfl) ?_ (by assumption) rfl ?_
 rotate_left
 ·intro w' hw
  go_simp
  try with_reducible rfl
 simp only [nz]
 refine held_take (i := 8) (d := some 47) (v := ?_) rfl (by kernel_rfl) (by kernel_rfl) (by kernel_rfl) (by rfl) ?_ (by assumption) rfl ?_
 rotate_left
 ·intro w' hw
  have c0 := hk0 w' hw
  have c1 := hk1 w' hw
  go_simp
  try with_reducible rfl
 simp only [nz]
 refine held_take (i := 9) (d := some 48) (v := ?_) rfl (by kernel_rfl) (by kernel_rfl) (by kernel_rfl) (by rfl) ?_ (by assumption) rfl ?_
 rotate_left
 ·intro w' hw
  go_simp
  try with_reducible rfl
 simp only [nz]
 refine held_take (i := 10) (d := some 49) (v := .int .i64 (p : Int)) rfl (by kernel_rfl) (by kernel_rfl) (by kernel_rfl) (by rfl) ?_ (by assumption) rfl ?_
 ·intro w' hw
  go_simp
 simp only [nz]
 refine held_take (i := 11) (d := some 50) (v := ?_) rfl (by kernel_rfl) (by kernel_rfl) (by kernel_rfl) (by rfl) ?_ (by assumption) rfl ?_
 rotate_left
 ·intro w' hw
  go_simp
  try with_reducible rfl
 simp only [nz]
 refine held_take (i := 12) (d := some 51) (v := ?_) rfl (by kernel_rfl) (by kernel_rfl) (by kernel_rfl) (by rfl) ?_ (by assumption) rfl ?_
 rotate_left
 ·intro w' hw
  go_simp
  try with_reducible rfl
 simp only [nz]
 refine held_take (i := 13) (d := some 52) (v := ?_) rfl (by kernel_rfl) (by kernel_rfl) (by kernel_rfl) (by rfl) ?_ (by assumption) rfl ?_
 rotate_left
 ·intro w' hw
  go_simp
  try with_reducible rfl
 simp only [nz]
 refine held_take (i := 14) (d := some 53) (v := ?_) rfl (by kernel_rfl) (by kernel_rfl) (by kernel_rfl) (by rfl) ?_ (by assumption) rfl ?_
 rotate_left
 ·intro w' hw
  have c0 := hk0 w' hw
  have c1 := hk1 w' hw
  go_simp
  try with_reducible rfl
 simp only [nz]
 refine held_take (i := 15) (d := some 54) (v := .slice (cutA a cap p) m (cap - p)) rfl (by kernel_rfl) (by kernel_rfl) (by kernel_rfl) (by rfl) ?_ (by assumption) rfl ?_
 ·intro w' hw
  go_simp
  rw [if_pos (by omega), if_pos (by omega)]
  have e1 : ((p : Int) + m).toNat - p = m := by omega
  rw [e1]
  simp only [cutA]
 simp only [nz]
 refine held_run (i := 0) (d := some 39) (v := .slice (some ⟨W.drew.heap.size, 0, none⟩) 0 0) (w' := W.drew.alloc (.cells #[] 5)) rfl (by kernel_rfl) (by rfl) (by go_simp; try with_reducible rfl) rfl ?_ ?_
 ·exact (Below.refl _ _).alloc (Nat.le_refl _) _
 simp only [nz]
 obtain ⟨v', w', hrun, hown, hgrow⟩ := run_append_own_src (P := Tryz.prog) (W.drew.alloc (.cells #[] 5)) W.drew.heap.size 59 59 59 5 i0 (.int .u8 0) 1 1 Tryz.underlying59 hi hz0 hz1 hz2 rfl (.slice (some ⟨W.drew.heap.size, 0, none⟩) 0 0) 0 [] (World.ownsRow_made W.drew #[] 0 (Nat.le_refl _) (by simp) (by simp)) (.slice (cutA a cap p) m (cap - p)) m (((zs.drop p).take m).map (Value.int .u8)) hsrc (by unfold maxLen; omega) (by omega) (by simp)
 have hb1 : Below W.drew.heap.size W.drew w' := ((Below.refl _ _).alloc (Nat.le_refl _) _).grown hgrow (by simp) (fun k hk => by simp [Value.ownBlock] at hk; have : W.drew.heap.size = W.heap.size := rfl; omega)
 refine held_run (i := 16) (d := some 55) (v := v') (w' := w') rfl (by kernel_rfl) (by rfl) (exec_append rfl rfl rfl hrun) rfl hb1 ?_
 simp only [nz]
 refine held_take (i := 17) (d := some 4) (v := ?_) rfl (by kernel_rfl) (by kernel_rfl) (by kernel_rfl) (by rfl) ?_ (by assumption) rfl ?_
 rotate_left
 ·intro w' hw
  go_simp
  try with_reducible rfl
 simp only [nz]
 refine held_done (by kernel_rfl) ?_
 go_wp2_with fail
 go_ret
 have el : ((zs.drop p).take m).length = m := by rw [List.length_take, List.length_drop]; omega
 have hM : Mine w' W.drew.heap.size v' ((zs.drop p).take m) := Mine.mk' _ hown (by rw [el]; omega) (by simp) (fun z hz => hrd.2.1 z (List.mem_of_mem_drop (List.mem_of_mem_take hz)))
 exact ⟨_, rfl, hM.mono' hsz, ⟨zs, p + m, hRd.below hb1, fun _ => rfl⟩, gb_trans hgW (gb_below (hW.trans hb1) _)⟩
set_option maxRecDepth 100000 in
set_option maxHeartbeats 1600000 in
theorem refRaw_any (X : Nat) (rest : List Int) (e n : Int) (w : World) (h : RSt B w X rest e) :
  Calls Tryz.prog 46 #[.pointer (some ⟨X, 0, none⟩), .int .i64 n] w fun en w' => ∃ v, en = .returned v ∧ Mine w' w.heap.size v (rawS rest e n).1 ∧ RSt B w' X (rawS rest e n).2.1 (rawS rest e n).2.2 ∧ w.grownBy w' (some X) := by
 obtain ⟨zs, p, hR, hd⟩ := h
 have hl5 := hR.2.2.2.2.2.2.2.2
 have hpl := hR.2.2.2.2.2.2.2.1
 by_cases he : e = 0
 ·subst he
  have hd := hd rfl
  subst hd
  by_cases hn : n < 0
  ·have HS : Hid (rawS (zs.drop p) 0 n = ([], zs.drop p, 2)) := by show _ = _; unfold rawS; rw [if_pos rfl, if_pos hn]
   have h2 := hR.2.2.2.1
   have f2 := hR.2.2.2.2.2.2.1
   go_enter Tryz.func46, Tryz.ntmps46
   go_wp2_with fail
   go_ret
   rw [HS.out]
   exact ⟨_, rfl, Mine.nil _ _, ⟨zs, p, hR.set2 2, fun h => by cases h⟩, gb_set _ X 2 _⟩
  ·by_cases hf : (zs.length : Int) - p < n
   ·have HS : Hid (rawS (zs.drop p) 0 n = ([], zs.drop p, 10)) := by show _ = _; unfold rawS; rw [if_pos rfl, if_neg hn, if_pos (by rw [List.length_drop]; omega)]
    have h2 := hR.2.2.2.1
    have h1 := hR.2.2.1
    have f2 := hR.2.2.2.2.2.2.1
    obtain ⟨a, cap, h0, hc, hm, hr⟩ := hR.rest
    go_enter Tryz.func46, Tryz.ntmps46
    go_wp2_with fail
    go_quiet (fail)
    go_wp2_with fail
    go_ret
    rw [HS.out]
    exact ⟨_, rfl, Mine.nil _ _, ⟨zs, p, (hR.drewN nq).set2 10, fun h => by cases h⟩, gb_trans (gbz_drewN w nq _) (gb_set _ X 2 _)⟩
   ·obtain ⟨m, rfl⟩ := Int.eq_ofNat_of_zero_le (Int.not_lt.1 hn)
    have e1 : rawS (zs.drop p) 0 (m : Int) = ((zs.drop p).take m, zs.drop (p + m), 0) := by
     unfold rawS; rw [if_pos rfl, if_neg hn, if_neg (by rw [List.length_drop]; omega), Int.toNat_natCast, List.drop_drop]
    rw [e1]
    exact refRaw_good X zs p w hR m (by omega)
 ·have HS : Hid (rawS rest e n = ([], rest, e)) := by show _ = _; unfold rawS; rw [if_neg he]
  have he' : (e == 0) = false := by simpa using he
  have h2 := hR.2.2.2.1
  go_enter Tryz.func46, Tryz.ntmps46
  go_wp2_with fail
  go_ret
  rw [HS.out]
  exact ⟨_, rfl, Mine.nil _ _, ⟨zs, p, hR, fun h => absurd h he⟩, gb_refl _ _⟩
end Go.Proofs.YtcbpbkefggekmaaGreatDoor
namespace Go.Proofs.YtcbpbkefggekmaaGreatDoor
open Go.RowKit
open Sha Tal
theorem RdE.gb {w w' : World} {R : Nat} {e : Int} {r : Option Nat} (h : RdE w R e) (hg : w.grownBy w' r) (hr : some R ≠ r) : RdE w' R e :=
 h.below (hg.block R h.1 hr) hg.size
theorem St.gb {w w' : World} {R g : Nat} {rest : List Int} {e : Int} (h : St w R rest e) (hg : w.grownBy w' (some g)) (hr : R < g) : St w' R rest e := by
 refine ⟨h.1.gb hg (by intro q; injection q with q; omega), fun he => ?_⟩
 obtain ⟨a, cap, h0, hc, hm, hrow, hlt⟩ := h.2 he
 refine ⟨a, cap, (cell_block (hg.block R h.1.1 (by intro q; injection q with q; omega))).1.trans h0, hc, hm, hrow.gb hg (.inr (fun x hx => by have := hlt x hx; omega)), hlt⟩
structure Kept (w : World) (R X : Nat) (W : World) : Prop where
 os : W.os = w.os
 tape : W.tape = w.tape
 output : W.output = w.output
 size : w.heap.size ≤ W.heap.size
 block : ∀ k, k < w.heap.size → k ≠ R → k ≠ X → W.heap[k]? = w.heap[k]?
theorem Kept.refl (w : World) (R X : Nat) : Kept w R X w := ⟨rfl, rfl, rfl, Nat.le_refl _, fun _ _ _ _ => rfl⟩
theorem Kept.gb {w W W' : World} {R X g : Nat} (h : Kept w R X W) (hg : W.grownBy W' (some g)) (hr : g = R ∨ g = X ∨ w.heap.size ≤ g) : Kept w R X W' :=
 ⟨hg.os.trans h.os, hg.tape.trans h.tape, hg.output.trans h.output, Nat.le_trans h.size hg.size, fun k hk k1 k2 => (hg.block k (Nat.lt_of_lt_of_le hk h.size) (by intro q; injection q with q; omega)).trans (h.block k hk k1 k2)⟩
theorem Kept.below {w W W' : World} {R X : Nat} (h : Kept w R X W) (hb : Below W.heap.size W W') : Kept w R X W' :=
 ⟨hb.os.trans h.os, hb.tape.trans h.tape, hb.output.trans h.output, Nat.le_trans h.size hb.size, fun k hk k1 k2 => (hb.block k (Nat.lt_of_lt_of_le hk h.size)).trans (h.block k hk k1 k2)⟩
theorem Kept.to {w0 w W : World} {R X : Nat} (h : Kept w R X W) (hb : Below w0.heap.size w0 w) (hR : w0.heap.size ≤ R) (hX : w0.heap.size ≤ X) : Below w0.heap.size w0 W :=
 ⟨h.os.trans hb.os, h.tape.trans hb.tape, h.output.trans hb.output, Nat.le_trans hb.size h.size, fun k hk => (h.block k (Nat.lt_of_lt_of_le hk hb.size) (by omega) (by omega)).trans (hb.block k hk)⟩
structure Two (B : Nat) (w : World) (R X : Nat) (W : World) (rest : List Int) (e : Int) : Prop where
 own : St W R rest e
 doc : RSt B W X rest e
 kept : Kept w R X W
theorem numR_nonneg (zs : List Int) (hz : ∀ z ∈ zs, 0 ≤ z ∧ z < 256) : 0 ≤ (numR zs).1 := by
  cases zs with
  | nil => simp [numR]
  | cons k tl =>
    simp only [numR]
    split
    · simp
    · split
      · simp
      · split
        · have hb := val_bound (tl.take k.toNat) (fun z hzz => hz z (List.mem_cons_of_mem _ (List.mem_of_mem_take hzz)))
          simp only [valR]
          split
          · simp
          · exact hb.1
        · simp
theorem St.pos {w : World} {R : Nat} {rest : List Int} {e : Int} (h : St w R rest e) : 0 ≤ (numS rest e 9223372036854775807).1 := by
 unfold numS
 by_cases he : e = 0
 ·rw [if_pos he]
  obtain ⟨a, cap, h0, hc, hm, hrow, hlt⟩ := h.2 he
  have := numR_nonneg rest hrow.2.1
  split
  ·split
   ·simp
   ·exact this
  ·simp
 ·rw [if_neg he]; simp
end Go.Proofs.YtcbpbkefggekmaaGreatDoor
