/- fieldsMay; Good; requests and batches as bytes: the program's and the document's; A plain region, operation by operation: what is wanted yields its value, what is not is passed over.; message's writer, where all fits; message's writer: lists, envelopes, batches, certs, held, changes; message's writer: votes, envelopes, batches, certs, held, changes; message's writer: messages of all kinds; the document's bytes: tags, signs, certs; the document's bytes of a message; Encode, the program's and the document's; batches that are not too much; the reader's tags and digests; The document's reader: Read.; A region that draws its order: what only reads is taken as soon as it may come up, over worlds that have grown since the last call; behind each call the condition turns to the new world. One way through the region. -/
import Derived.Test.YtinndbipomlokaaGreatJB0
import Derived.Test.YtinndbipomlokaaGreatJB4
import Derived.Test.YtinndbipomlokaaGreatJB2
import Derived.Test.YtinndbipomlokaaGreatJB1
import Derived.Laws.MakeOwn
import Derived.Deep.OwnRows
import Derived.Test.YtinndbipomlokaaGreatJB3
import Derived.Deep.Upon
import Derived.Deep.Cut
import Derived.Deep.DeepCutAuto
import Derived.WalkKit
import Derived.Deep.RegionHeld3
namespace Go.Proofs.YtinndbipomlokaaGreat
open Go.RowKit
open Sha Tal
def Mg.mayL (m : Mg) : Bool := batMay m.q m.rs && (chgMay m.ce m.cl m.cv m.he && (Go.Proofs.YtinndbipomlokaaGreat.mayL 64 Ev.may m.ne.xs && (decide ((m.st.size : Int) ≤ 4194304) && sgsMay m.sg)))
def Mg.may (m : Mg) : Bool := (inB m.e 1048576 && inB m.l 64) && ((inB m.v 1099511627776 && inB m.s 1099511627776) && ((if m.k = 2 then m.vt.may else true) && ((if m.k = 7 then certMay m.ct m.cs else true) && m.mayL)))
set_option maxRecDepth 100000 in
set_option maxHeartbeats 8000000 in
theorem fieldsMay_any (m : Mg) (w : World) (om : m.ok) (am : m.At w) : Calls Tryz.prog 55 #[.agg m.ms.cells.toArray] w fun er w' => er = .returned (.bool m.may) ∧ Below w.heap.size w w' := by
 have hA : (w.alloc (.cells m.ms.cells.toArray 63)).rangeAt w.heap.size 0 m.ms.cells := by simpa using range_new w m.ms.cells.toArray 63
 have hB : Below w.heap.size w (w.alloc (.cells m.ms.cells.toArray 63)) := (Below.refl _ _).alloc (Nat.le_refl _) _
 have hs : w.heap.size < (w.alloc (.cells m.ms.cells.toArray 63)).heap.size := by simp
 have a1 := am.below hB
 obtain ⟨W, hW⟩ : ∃ W, Hid (w.alloc (.cells m.ms.cells.toArray 63) = W) := ⟨_, hide rfl⟩
 rw [hW.out] at hA hB hs a1
 have M := om.ms.at hA
 have ix : (Tryz.prog.info? 28).map (·.size) = some m.vt.cells.length := by rw [om.vt.len]; exact iszV
 have ic : (Tryz.prog.info? 31).map (·.size) = some (certL m.ct m.cs).length := by rw [show (certL m.ct m.cs).length = 37 by simp [certL, om.ct.len]]; exact iszC
 have cK : W.cell? ⟨w.heap.size, 0, none⟩ = some (.int .i64 m.k) := M.k
 have cE : W.cell? ⟨w.heap.size, 1, none⟩ = some (.int .i64 m.e) := M.e
 have cL : W.cell? ⟨w.heap.size, 2, none⟩ = some (.int .i64 m.l) := M.l
 have cV : W.cell? ⟨w.heap.size, 3, none⟩ = some (.int .i64 m.v) := M.v
 have cS : W.cell? ⟨w.heap.size, 4, none⟩ = some (.int .i64 m.s) := M.s
 have cQ : W.cell? ⟨w.heap.size, 5, none⟩ = some (.bool m.q) := M.q
 have cR : W.cell? ⟨w.heap.size, 6, none⟩ = some (.slice m.rs.a m.rs.xs.length m.rs.cap) := M.rs
 have c1 : W.cell? ⟨w.heap.size, 43, none⟩ = some (.int .i64 m.ce) := M.ce
 have c2 : W.cell? ⟨w.heap.size, 44, none⟩ = some (.int .i64 m.cl) := M.cl
 have c3 : W.cell? ⟨w.heap.size, 45, none⟩ = some (.int .i64 m.cv) := M.cv
 have cH : W.cell? ⟨w.heap.size, 46, none⟩ = some (.slice m.he.a m.he.xs.length m.he.cap) := M.he
 have cN : W.cell? ⟨w.heap.size, 47, none⟩ = some (.slice m.ne.a m.ne.xs.length m.ne.cap) := M.ne
 have cT : W.cell? ⟨w.heap.size, 117, none⟩ = some (.string m.st) := M.st
 have cG : W.cell? ⟨w.heap.size, 118, none⟩ = some (.slice m.sg.a m.sg.xs.length m.sg.cap) := M.sg
 have rV : W.rangeAt (w.heap.size) 7 m.vt.cells := M.vt
 have rC : W.rangeAt (w.heap.size) 80 (certL m.ct m.cs) := M.ct
 have gE := fun w0 => within_any m.e 1048576 w0
 have gL := fun w0 => within_any m.l 64 w0
 have gV := fun w0 => within_any m.v 1099511627776 w0
 have gS := fun w0 => within_any m.s 1099511627776 w0
 have gX := fun w0 => voteMay_any m.vt w0
 have gT := fun (w0 : World) (h0 : Below W.heap.size W w0) => certMay_any m.ct m.cs w0 om.ct (a1.cs.below h0)
 have gB := fun (w0 : World) (h0 : Below W.heap.size W w0) => batMay_any m.q m.rs w0 (a1.rs.below h0)
 have gC := fun (w0 : World) (h0 : Below W.heap.size W w0) => chgMay_any m.ce m.cl m.cv m.he w0 (a1.he.below h0)
 have gN := fun (w0 : World) (h0 : Below W.heap.size W w0) => allE_any m.ne 64 Ev.may w0 (a1.ne.below h0) (fun y _ w1 _ => evMay_any y w1)
 have gG := fun (w0 : World) (h0 : Below W.heap.size W w0) => sgsMay_any m.sg w0 (a1.sg.below h0)
 unfold chgL at gC
 simp only [Sl.val] at gB gC gN gG
 unfold Mg.may Mg.mayL
 clear hA M om am a1
 generalize inB m.e 1048576 = be at *
 generalize inB m.l 64 = bl at *
 generalize inB m.v 1099511627776 = bv at *
 generalize inB m.s 1099511627776 = bs at *
 generalize m.vt.may = bx at *
 generalize certMay m.ct m.cs = bt at *
 generalize batMay m.q m.rs = b1 at *
 generalize chgMay m.ce m.cl m.cv m.he = b2 at *
 generalize Go.Proofs.YtinndbipomlokaaGreat.mayL 64 Ev.may m.ne.xs = b3 at *
 generalize sgsMay m.sg = b5 at *
 generalize m.ms.cells = q at *
 generalize m.vt.cells = u at *
 generalize certL m.ct m.cs = uc at *
 obtain ⟨k, e, l, v, s, qq, ⟨ra, rc, rx⟩, vt, ce, cl, cv, ⟨ha, hc, hx⟩, ⟨na, nc, nx⟩, d, ct, cs, st, ⟨ga, gc, gx⟩⟩ := m
 simp only at *
 by_cases hst : (st.size : Int) ≤ 4194304
 rotate_left
 ·rw [decide_eq_false hst]
  have hst' : (4194304 : Int) < st.size := by omega
  have hst2 : decide ((st.size : Int) ≤ 4194304) = false := decide_eq_false hst
  by_cases h2 : k = 2
  ·rw [if_pos h2, if_neg (by omega)]
   subst h2
   go_enter Tryz.func55, Tryz.ntmps55
   go_upto_region 1 with fail
   go_name_world w1 hw1
   obtain rfl : W = w1 := hW.out.symm.trans hw1
   clear hw1 hW
   have HB := hB
   have HW : Below W.heap.size W W := Below.refl _ _
   go_wp2_with fail
   refine (gE _).mono ?_
   rintro e1 w1 ⟨rfl, hx0⟩
   obtain rfl := hx0.symm
   clear hx0
   clear gE
   cases be
   ·go_wp2
    go_ret
    exact ⟨by simp, HB⟩
   ·go_wp2_with fail
    refine (gL _).mono ?_
    rintro e1 w1 ⟨rfl, hx0⟩
    obtain rfl := hx0.symm
    clear hx0
    clear gL
    cases bl
    ·go_wp2
     go_ret
     exact ⟨by simp, HB⟩
    ·go_wp2_with fail
     refine (gV _).mono ?_
     rintro e1 w1 ⟨rfl, hx0⟩
     obtain rfl := hx0.symm
     clear hx0
     clear gV
     cases bv
     ·go_wp2
      go_ret
      exact ⟨by simp, HB⟩
     ·go_wp2_with fail
      refine (gS _).mono ?_
      rintro e1 w1 ⟨rfl, hx0⟩
      obtain rfl := hx0.symm
      clear hx0
      clear gS
      cases bs
      ·go_wp2
       go_ret
       exact ⟨by simp, HB⟩
      ·go_wp2_with (refine wpList_load_g (by rfl) 28 _ rfl _ _ rfl u _ rV Tryz.underlying28 rfl ix ?_)
       refine (gX _).mono ?_
       rintro e5 w5 ⟨rfl, hb5⟩
       have up := fun i v (h : W.cell? ⟨w.heap.size, i, none⟩ = some v) => (hb5.cell (p := ⟨w.heap.size, i, none⟩) hs).trans h
       replace cK := up _ _ cK
       replace cQ := up _ _ cQ
       replace cR := up _ _ cR
       replace c1 := up _ _ c1
       replace c2 := up _ _ c2
       replace c3 := up _ _ c3
       replace cH := up _ _ cH
       replace cN := up _ _ cN
       replace cT := up _ _ cT
       replace cG := up _ _ cG
       clear up
       replace HB := HB.trans (hb5.mono (by omega))
       replace HW := HW.trans (hb5.mono HW.size)
       replace hs := Nat.lt_of_lt_of_le hs hb5.size
       clear hb5 gX
       cases bx
       ·go_wp2
        go_ret
        exact ⟨by simp, HB⟩
       ·go_wp2_with fail
        refine (gB _ HW).mono ?_
        rintro e6 w6 ⟨rfl, hb6⟩
        have up := fun i v (h : w5.cell? ⟨w.heap.size, i, none⟩ = some v) => (hb6.cell (p := ⟨w.heap.size, i, none⟩) hs).trans h
        replace c1 := up _ _ c1
        replace c2 := up _ _ c2
        replace c3 := up _ _ c3
        replace cH := up _ _ cH
        replace cN := up _ _ cN
        replace cT := up _ _ cT
        replace cG := up _ _ cG
        clear up
        replace HB := HB.trans (hb6.mono (by omega))
        replace HW := HW.trans (hb6.mono HW.size)
        replace hs := Nat.lt_of_lt_of_le hs hb6.size
        clear hb6 gB
        cases b1
        ·go_wp2
         go_ret
         exact ⟨by simp, HB⟩
        ·go_wp2_with fail
         refine (gC _ HW).mono ?_
         rintro e7 w7 ⟨rfl, hb7⟩
         have up := fun i v (h : w6.cell? ⟨w.heap.size, i, none⟩ = some v) => (hb7.cell (p := ⟨w.heap.size, i, none⟩) hs).trans h
         replace cN := up _ _ cN
         replace cT := up _ _ cT
         replace cG := up _ _ cG
         clear up
         replace HB := HB.trans (hb7.mono (by omega))
         replace HW := HW.trans (hb7.mono HW.size)
         replace hs := Nat.lt_of_lt_of_le hs hb7.size
         clear hb7 gC
         cases b2
         ·go_wp2
          go_ret
          exact ⟨by simp, HB⟩
         ·go_wp2_with fail
          refine (gN _ HW).mono ?_
          rintro e8 w8 ⟨rfl, hb8⟩
          have up := fun i v (h : w7.cell? ⟨w.heap.size, i, none⟩ = some v) => (hb8.cell (p := ⟨w.heap.size, i, none⟩) hs).trans h
          replace cT := up _ _ cT
          replace cG := up _ _ cG
          clear up
          replace HB := HB.trans (hb8.mono (by omega))
          replace HW := HW.trans (hb8.mono HW.size)
          replace hs := Nat.lt_of_lt_of_le hs hb8.size
          clear hb8 gN
          cases b3
          ·go_wp2
           go_ret
           exact ⟨by simp, HB⟩
          ·clear gG
           go_wp2
           go_ret
           exact ⟨by simp, HB⟩
  ·by_cases h7 : k = 7
   ·rw [if_neg h2, if_pos h7]
    subst h7
    clear h2
    go_enter Tryz.func55, Tryz.ntmps55
    go_upto_region 1 with fail
    go_name_world w1 hw1
    obtain rfl : W = w1 := hW.out.symm.trans hw1
    clear hw1 hW
    have HB := hB
    have HW : Below W.heap.size W W := Below.refl _ _
    go_wp2_with fail
    refine (gE _).mono ?_
    rintro e1 w1 ⟨rfl, hx0⟩
    obtain rfl := hx0.symm
    clear hx0
    clear gE
    cases be
    ·go_wp2
     go_ret
     exact ⟨by simp, HB⟩
    ·go_wp2_with fail
     refine (gL _).mono ?_
     rintro e1 w1 ⟨rfl, hx0⟩
     obtain rfl := hx0.symm
     clear hx0
     clear gL
     cases bl
     ·go_wp2
      go_ret
      exact ⟨by simp, HB⟩
     ·go_wp2_with fail
      refine (gV _).mono ?_
      rintro e1 w1 ⟨rfl, hx0⟩
      obtain rfl := hx0.symm
      clear hx0
      clear gV
      cases bv
      ·go_wp2
       go_ret
       exact ⟨by simp, HB⟩
      ·go_wp2_with fail
       refine (gS _).mono ?_
       rintro e1 w1 ⟨rfl, hx0⟩
       obtain rfl := hx0.symm
       clear hx0
       clear gS
       cases bs
       ·go_wp2
        go_ret
        exact ⟨by simp, HB⟩
       ·go_wp2_with (refine wpList_load_g (by rfl) 31 _ rfl _ _ rfl uc _ rC Tryz.underlying31 rfl ic ?_)
        refine (gT _ HW).mono ?_
        rintro e5 w5 ⟨rfl, hb5⟩
        have up := fun i v (h : W.cell? ⟨w.heap.size, i, none⟩ = some v) => (hb5.cell (p := ⟨w.heap.size, i, none⟩) hs).trans h
        replace cQ := up _ _ cQ
        replace cR := up _ _ cR
        replace c1 := up _ _ c1
        replace c2 := up _ _ c2
        replace c3 := up _ _ c3
        replace cH := up _ _ cH
        replace cN := up _ _ cN
        replace cT := up _ _ cT
        replace cG := up _ _ cG
        clear up
        replace HB := HB.trans (hb5.mono (by omega))
        replace HW := HW.trans (hb5.mono HW.size)
        replace hs := Nat.lt_of_lt_of_le hs hb5.size
        clear hb5 gT
        cases bt
        ·go_wp2
         go_ret
         exact ⟨by simp, HB⟩
        ·go_wp2_with fail
         refine (gB _ HW).mono ?_
         rintro e6 w6 ⟨rfl, hb6⟩
         have up := fun i v (h : w5.cell? ⟨w.heap.size, i, none⟩ = some v) => (hb6.cell (p := ⟨w.heap.size, i, none⟩) hs).trans h
         replace c1 := up _ _ c1
         replace c2 := up _ _ c2
         replace c3 := up _ _ c3
         replace cH := up _ _ cH
         replace cN := up _ _ cN
         replace cT := up _ _ cT
         replace cG := up _ _ cG
         clear up
         replace HB := HB.trans (hb6.mono (by omega))
         replace HW := HW.trans (hb6.mono HW.size)
         replace hs := Nat.lt_of_lt_of_le hs hb6.size
         clear hb6 gB
         cases b1
         ·go_wp2
          go_ret
          exact ⟨by simp, HB⟩
         ·go_wp2_with fail
          refine (gC _ HW).mono ?_
          rintro e7 w7 ⟨rfl, hb7⟩
          have up := fun i v (h : w6.cell? ⟨w.heap.size, i, none⟩ = some v) => (hb7.cell (p := ⟨w.heap.size, i, none⟩) hs).trans h
          replace cN := up _ _ cN
          replace cT := up _ _ cT
          replace cG := up _ _ cG
          clear up
          replace HB := HB.trans (hb7.mono (by omega))
          replace HW := HW.trans (hb7.mono HW.size)
          replace hs := Nat.lt_of_lt_of_le hs hb7.size
          clear hb7 gC
          cases b2
          ·go_wp2
           go_ret
           exact ⟨by simp, HB⟩
          ·go_wp2_with fail
           refine (gN _ HW).mono ?_
           rintro e8 w8 ⟨rfl, hb8⟩
           have up := fun i v (h : w7.cell? ⟨w.heap.size, i, none⟩ = some v) => (hb8.cell (p := ⟨w.heap.size, i, none⟩) hs).trans h
           replace cT := up _ _ cT
           replace cG := up _ _ cG
           clear up
           replace HB := HB.trans (hb8.mono (by omega))
           replace HW := HW.trans (hb8.mono HW.size)
           replace hs := Nat.lt_of_lt_of_le hs hb8.size
           clear hb8 gN
           cases b3
           ·go_wp2
            go_ret
            exact ⟨by simp, HB⟩
           ·clear gG
            go_wp2
            go_ret
            exact ⟨by simp, HB⟩
   ·rw [if_neg h2, if_neg h7]
    have n2 : (k == 2) = false := beq_eq_false_iff_ne.2 h2
    have n7 : (k == 7) = false := beq_eq_false_iff_ne.2 h7
    clear h2 h7
    go_enter Tryz.func55, Tryz.ntmps55
    go_upto_region 1 with fail
    go_name_world w1 hw1
    obtain rfl : W = w1 := hW.out.symm.trans hw1
    clear hw1 hW
    have HB := hB
    have HW : Below W.heap.size W W := Below.refl _ _
    go_wp2_with fail
    refine (gE _).mono ?_
    rintro e1 w1 ⟨rfl, hx0⟩
    obtain rfl := hx0.symm
    clear hx0
    clear gE
    cases be
    ·go_wp2
     go_ret
     exact ⟨by simp, HB⟩
    ·go_wp2_with fail
     refine (gL _).mono ?_
     rintro e1 w1 ⟨rfl, hx0⟩
     obtain rfl := hx0.symm
     clear hx0
     clear gL
     cases bl
     ·go_wp2
      go_ret
      exact ⟨by simp, HB⟩
     ·go_wp2_with fail
      refine (gV _).mono ?_
      rintro e1 w1 ⟨rfl, hx0⟩
      obtain rfl := hx0.symm
      clear hx0
      clear gV
      cases bv
      ·go_wp2
       go_ret
       exact ⟨by simp, HB⟩
      ·go_wp2_with fail
       refine (gS _).mono ?_
       rintro e1 w1 ⟨rfl, hx0⟩
       obtain rfl := hx0.symm
       clear hx0
       clear gS
       cases bs
       ·go_wp2
        go_ret
        exact ⟨by simp, HB⟩
       ·go_wp2_with fail
        refine (gB _ HW).mono ?_
        rintro e6 w6 ⟨rfl, hb6⟩
        have up := fun i v (h : W.cell? ⟨w.heap.size, i, none⟩ = some v) => (hb6.cell (p := ⟨w.heap.size, i, none⟩) hs).trans h
        replace c1 := up _ _ c1
        replace c2 := up _ _ c2
        replace c3 := up _ _ c3
        replace cH := up _ _ cH
        replace cN := up _ _ cN
        replace cT := up _ _ cT
        replace cG := up _ _ cG
        clear up
        replace HB := HB.trans (hb6.mono (by omega))
        replace HW := HW.trans (hb6.mono HW.size)
        replace hs := Nat.lt_of_lt_of_le hs hb6.size
        clear hb6 gB
        cases b1
        ·go_wp2
         go_ret
         exact ⟨by simp, HB⟩
        ·go_wp2_with fail
         refine (gC _ HW).mono ?_
         rintro e7 w7 ⟨rfl, hb7⟩
         have up := fun i v (h : w6.cell? ⟨w.heap.size, i, none⟩ = some v) => (hb7.cell (p := ⟨w.heap.size, i, none⟩) hs).trans h
         replace cN := up _ _ cN
         replace cT := up _ _ cT
         replace cG := up _ _ cG
         clear up
         replace HB := HB.trans (hb7.mono (by omega))
         replace HW := HW.trans (hb7.mono HW.size)
         replace hs := Nat.lt_of_lt_of_le hs hb7.size
         clear hb7 gC
         cases b2
         ·go_wp2
          go_ret
          exact ⟨by simp, HB⟩
         ·go_wp2_with fail
          refine (gN _ HW).mono ?_
          rintro e8 w8 ⟨rfl, hb8⟩
          have up := fun i v (h : w7.cell? ⟨w.heap.size, i, none⟩ = some v) => (hb8.cell (p := ⟨w.heap.size, i, none⟩) hs).trans h
          replace cT := up _ _ cT
          replace cG := up _ _ cG
          clear up
          replace HB := HB.trans (hb8.mono (by omega))
          replace HW := HW.trans (hb8.mono HW.size)
          replace hs := Nat.lt_of_lt_of_le hs hb8.size
          clear hb8 gN
          cases b3
          ·go_wp2
           go_ret
           exact ⟨by simp, HB⟩
          ·clear gG
           go_wp2
           go_ret
           exact ⟨by simp, HB⟩
 ·rw [decide_eq_true hst]
  by_cases h2 : k = 2
  ·rw [if_pos h2, if_neg (by omega)]
   subst h2
   go_enter Tryz.func55, Tryz.ntmps55
   go_upto_region 1 with fail
   go_name_world w1 hw1
   obtain rfl : W = w1 := hW.out.symm.trans hw1
   clear hw1 hW
   have HB := hB
   have HW : Below W.heap.size W W := Below.refl _ _
   go_wp2_with fail
   refine (gE _).mono ?_
   rintro e1 w1 ⟨rfl, hx0⟩
   obtain rfl := hx0.symm
   clear hx0
   clear gE
   cases be
   ·go_wp2
    go_ret
    exact ⟨by simp, HB⟩
   ·go_wp2_with fail
    refine (gL _).mono ?_
    rintro e1 w1 ⟨rfl, hx0⟩
    obtain rfl := hx0.symm
    clear hx0
    clear gL
    cases bl
    ·go_wp2
     go_ret
     exact ⟨by simp, HB⟩
    ·go_wp2_with fail
     refine (gV _).mono ?_
     rintro e1 w1 ⟨rfl, hx0⟩
     obtain rfl := hx0.symm
     clear hx0
     clear gV
     cases bv
     ·go_wp2
      go_ret
      exact ⟨by simp, HB⟩
     ·go_wp2_with fail
      refine (gS _).mono ?_
      rintro e1 w1 ⟨rfl, hx0⟩
      obtain rfl := hx0.symm
      clear hx0
      clear gS
      cases bs
      ·go_wp2
       go_ret
       exact ⟨by simp, HB⟩
      ·go_wp2_with (refine wpList_load_g (by rfl) 28 _ rfl _ _ rfl u _ rV Tryz.underlying28 rfl ix ?_)
       refine (gX _).mono ?_
       rintro e5 w5 ⟨rfl, hb5⟩
       have up := fun i v (h : W.cell? ⟨w.heap.size, i, none⟩ = some v) => (hb5.cell (p := ⟨w.heap.size, i, none⟩) hs).trans h
       replace cK := up _ _ cK
       replace cQ := up _ _ cQ
       replace cR := up _ _ cR
       replace c1 := up _ _ c1
       replace c2 := up _ _ c2
       replace c3 := up _ _ c3
       replace cH := up _ _ cH
       replace cN := up _ _ cN
       replace cT := up _ _ cT
       replace cG := up _ _ cG
       clear up
       replace HB := HB.trans (hb5.mono (by omega))
       replace HW := HW.trans (hb5.mono HW.size)
       replace hs := Nat.lt_of_lt_of_le hs hb5.size
       clear hb5 gX
       cases bx
       ·go_wp2
        go_ret
        exact ⟨by simp, HB⟩
       ·go_wp2_with fail
        refine (gB _ HW).mono ?_
        rintro e6 w6 ⟨rfl, hb6⟩
        have up := fun i v (h : w5.cell? ⟨w.heap.size, i, none⟩ = some v) => (hb6.cell (p := ⟨w.heap.size, i, none⟩) hs).trans h
        replace c1 := up _ _ c1
        replace c2 := up _ _ c2
        replace c3 := up _ _ c3
        replace cH := up _ _ cH
        replace cN := up _ _ cN
        replace cT := up _ _ cT
        replace cG := up _ _ cG
        clear up
        replace HB := HB.trans (hb6.mono (by omega))
        replace HW := HW.trans (hb6.mono HW.size)
        replace hs := Nat.lt_of_lt_of_le hs hb6.size
        clear hb6 gB
        cases b1
        ·go_wp2
         go_ret
         exact ⟨by simp, HB⟩
        ·go_wp2_with fail
         refine (gC _ HW).mono ?_
         rintro e7 w7 ⟨rfl, hb7⟩
         have up := fun i v (h : w6.cell? ⟨w.heap.size, i, none⟩ = some v) => (hb7.cell (p := ⟨w.heap.size, i, none⟩) hs).trans h
         replace cN := up _ _ cN
         replace cT := up _ _ cT
         replace cG := up _ _ cG
         clear up
         replace HB := HB.trans (hb7.mono (by omega))
         replace HW := HW.trans (hb7.mono HW.size)
         replace hs := Nat.lt_of_lt_of_le hs hb7.size
         clear hb7 gC
         cases b2
         ·go_wp2
          go_ret
          exact ⟨by simp, HB⟩
         ·go_wp2_with fail
          refine (gN _ HW).mono ?_
          rintro e8 w8 ⟨rfl, hb8⟩
          have up := fun i v (h : w7.cell? ⟨w.heap.size, i, none⟩ = some v) => (hb8.cell (p := ⟨w.heap.size, i, none⟩) hs).trans h
          replace cT := up _ _ cT
          replace cG := up _ _ cG
          clear up
          replace HB := HB.trans (hb8.mono (by omega))
          replace HW := HW.trans (hb8.mono HW.size)
          replace hs := Nat.lt_of_lt_of_le hs hb8.size
          clear hb8 gN
          cases b3
          ·go_wp2
           go_ret
           exact ⟨by simp, HB⟩
          ·go_wp2_with fail
           refine (gG _ HW).mono ?_
           rintro e9 w9 ⟨rfl, hb9⟩
           replace HB := HB.trans (hb9.mono (by omega))
           clear hb9 gG
           cases b5
           all_goals
            go_wp2
            go_ret
            exact ⟨by first | rfl | simp, HB⟩
  ·by_cases h7 : k = 7
   ·rw [if_neg h2, if_pos h7]
    subst h7
    clear h2
    go_enter Tryz.func55, Tryz.ntmps55
    go_upto_region 1 with fail
    go_name_world w1 hw1
    obtain rfl : W = w1 := hW.out.symm.trans hw1
    clear hw1 hW
    have HB := hB
    have HW : Below W.heap.size W W := Below.refl _ _
    go_wp2_with fail
    refine (gE _).mono ?_
    rintro e1 w1 ⟨rfl, hx0⟩
    obtain rfl := hx0.symm
    clear hx0
    clear gE
    cases be
    ·go_wp2
     go_ret
     exact ⟨by simp, HB⟩
    ·go_wp2_with fail
     refine (gL _).mono ?_
     rintro e1 w1 ⟨rfl, hx0⟩
     obtain rfl := hx0.symm
     clear hx0
     clear gL
     cases bl
     ·go_wp2
      go_ret
      exact ⟨by simp, HB⟩
     ·go_wp2_with fail
      refine (gV _).mono ?_
      rintro e1 w1 ⟨rfl, hx0⟩
      obtain rfl := hx0.symm
      clear hx0
      clear gV
      cases bv
      ·go_wp2
       go_ret
       exact ⟨by simp, HB⟩
      ·go_wp2_with fail
       refine (gS _).mono ?_
       rintro e1 w1 ⟨rfl, hx0⟩
       obtain rfl := hx0.symm
       clear hx0
       clear gS
       cases bs
       ·go_wp2
        go_ret
        exact ⟨by simp, HB⟩
       ·go_wp2_with (refine wpList_load_g (by rfl) 31 _ rfl _ _ rfl uc _ rC Tryz.underlying31 rfl ic ?_)
        refine (gT _ HW).mono ?_
        rintro e5 w5 ⟨rfl, hb5⟩
        have up := fun i v (h : W.cell? ⟨w.heap.size, i, none⟩ = some v) => (hb5.cell (p := ⟨w.heap.size, i, none⟩) hs).trans h
        replace cQ := up _ _ cQ
        replace cR := up _ _ cR
        replace c1 := up _ _ c1
        replace c2 := up _ _ c2
        replace c3 := up _ _ c3
        replace cH := up _ _ cH
        replace cN := up _ _ cN
        replace cT := up _ _ cT
        replace cG := up _ _ cG
        clear up
        replace HB := HB.trans (hb5.mono (by omega))
        replace HW := HW.trans (hb5.mono HW.size)
        replace hs := Nat.lt_of_lt_of_le hs hb5.size
        clear hb5 gT
        cases bt
        ·go_wp2
         go_ret
         exact ⟨by simp, HB⟩
        ·go_wp2_with fail
         refine (gB _ HW).mono ?_
         rintro e6 w6 ⟨rfl, hb6⟩
         have up := fun i v (h : w5.cell? ⟨w.heap.size, i, none⟩ = some v) => (hb6.cell (p := ⟨w.heap.size, i, none⟩) hs).trans h
         replace c1 := up _ _ c1
         replace c2 := up _ _ c2
         replace c3 := up _ _ c3
         replace cH := up _ _ cH
         replace cN := up _ _ cN
         replace cT := up _ _ cT
         replace cG := up _ _ cG
         clear up
         replace HB := HB.trans (hb6.mono (by omega))
         replace HW := HW.trans (hb6.mono HW.size)
         replace hs := Nat.lt_of_lt_of_le hs hb6.size
         clear hb6 gB
         cases b1
         ·go_wp2
          go_ret
          exact ⟨by simp, HB⟩
         ·go_wp2_with fail
          refine (gC _ HW).mono ?_
          rintro e7 w7 ⟨rfl, hb7⟩
          have up := fun i v (h : w6.cell? ⟨w.heap.size, i, none⟩ = some v) => (hb7.cell (p := ⟨w.heap.size, i, none⟩) hs).trans h
          replace cN := up _ _ cN
          replace cT := up _ _ cT
          replace cG := up _ _ cG
          clear up
          replace HB := HB.trans (hb7.mono (by omega))
          replace HW := HW.trans (hb7.mono HW.size)
          replace hs := Nat.lt_of_lt_of_le hs hb7.size
          clear hb7 gC
          cases b2
          ·go_wp2
           go_ret
           exact ⟨by simp, HB⟩
          ·go_wp2_with fail
           refine (gN _ HW).mono ?_
           rintro e8 w8 ⟨rfl, hb8⟩
           have up := fun i v (h : w7.cell? ⟨w.heap.size, i, none⟩ = some v) => (hb8.cell (p := ⟨w.heap.size, i, none⟩) hs).trans h
           replace cT := up _ _ cT
           replace cG := up _ _ cG
           clear up
           replace HB := HB.trans (hb8.mono (by omega))
           replace HW := HW.trans (hb8.mono HW.size)
           replace hs := Nat.lt_of_lt_of_le hs hb8.size
           clear hb8 gN
           cases b3
           ·go_wp2
            go_ret
            exact ⟨by simp, HB⟩
           ·go_wp2_with fail
            refine (gG _ HW).mono ?_
            rintro e9 w9 ⟨rfl, hb9⟩
            replace HB := HB.trans (hb9.mono (by omega))
            clear hb9 gG
            cases b5
            all_goals
             go_wp2
             go_ret
             exact ⟨by first | rfl | simp, HB⟩
   ·rw [if_neg h2, if_neg h7]
    have n2 : (k == 2) = false := beq_eq_false_iff_ne.2 h2
    have n7 : (k == 7) = false := beq_eq_false_iff_ne.2 h7
    clear h2 h7
    go_enter Tryz.func55, Tryz.ntmps55
    go_upto_region 1 with fail
    go_name_world w1 hw1
    obtain rfl : W = w1 := hW.out.symm.trans hw1
    clear hw1 hW
    have HB := hB
    have HW : Below W.heap.size W W := Below.refl _ _
    go_wp2_with fail
    refine (gE _).mono ?_
    rintro e1 w1 ⟨rfl, hx0⟩
    obtain rfl := hx0.symm
    clear hx0
    clear gE
    cases be
    ·go_wp2
     go_ret
     exact ⟨by simp, HB⟩
    ·go_wp2_with fail
     refine (gL _).mono ?_
     rintro e1 w1 ⟨rfl, hx0⟩
     obtain rfl := hx0.symm
     clear hx0
     clear gL
     cases bl
     ·go_wp2
      go_ret
      exact ⟨by simp, HB⟩
     ·go_wp2_with fail
      refine (gV _).mono ?_
      rintro e1 w1 ⟨rfl, hx0⟩
      obtain rfl := hx0.symm
      clear hx0
      clear gV
      cases bv
      ·go_wp2
       go_ret
       exact ⟨by simp, HB⟩
      ·go_wp2_with fail
       refine (gS _).mono ?_
       rintro e1 w1 ⟨rfl, hx0⟩
       obtain rfl := hx0.symm
       clear hx0
       clear gS
       cases bs
       ·go_wp2
        go_ret
        exact ⟨by simp, HB⟩
       ·go_wp2_with fail
        refine (gB _ HW).mono ?_
        rintro e6 w6 ⟨rfl, hb6⟩
        have up := fun i v (h : W.cell? ⟨w.heap.size, i, none⟩ = some v) => (hb6.cell (p := ⟨w.heap.size, i, none⟩) hs).trans h
        replace c1 := up _ _ c1
        replace c2 := up _ _ c2
        replace c3 := up _ _ c3
        replace cH := up _ _ cH
        replace cN := up _ _ cN
        replace cT := up _ _ cT
        replace cG := up _ _ cG
        clear up
        replace HB := HB.trans (hb6.mono (by omega))
        replace HW := HW.trans (hb6.mono HW.size)
        replace hs := Nat.lt_of_lt_of_le hs hb6.size
        clear hb6 gB
        cases b1
        ·go_wp2
         go_ret
         exact ⟨by simp, HB⟩
        ·go_wp2_with fail
         refine (gC _ HW).mono ?_
         rintro e7 w7 ⟨rfl, hb7⟩
         have up := fun i v (h : w6.cell? ⟨w.heap.size, i, none⟩ = some v) => (hb7.cell (p := ⟨w.heap.size, i, none⟩) hs).trans h
         replace cN := up _ _ cN
         replace cT := up _ _ cT
         replace cG := up _ _ cG
         clear up
         replace HB := HB.trans (hb7.mono (by omega))
         replace HW := HW.trans (hb7.mono HW.size)
         replace hs := Nat.lt_of_lt_of_le hs hb7.size
         clear hb7 gC
         cases b2
         ·go_wp2
          go_ret
          exact ⟨by simp, HB⟩
         ·go_wp2_with fail
          refine (gN _ HW).mono ?_
          rintro e8 w8 ⟨rfl, hb8⟩
          have up := fun i v (h : w7.cell? ⟨w.heap.size, i, none⟩ = some v) => (hb8.cell (p := ⟨w.heap.size, i, none⟩) hs).trans h
          replace cT := up _ _ cT
          replace cG := up _ _ cG
          clear up
          replace HB := HB.trans (hb8.mono (by omega))
          replace HW := HW.trans (hb8.mono HW.size)
          replace hs := Nat.lt_of_lt_of_le hs hb8.size
          clear hb8 gN
          cases b3
          ·go_wp2
           go_ret
           exact ⟨by simp, HB⟩
          ·go_wp2_with fail
           refine (gG _ HW).mono ?_
           rintro e9 w9 ⟨rfl, hb9⟩
           replace HB := HB.trans (hb9.mono (by omega))
           clear hb9 gG
           cases b5
           all_goals
            go_wp2
            go_ret
            exact ⟨by first | rfl | simp, HB⟩
def Mg.plain (k : Int) : Mg := ⟨k, 0, 0, 0, 0, false, ⟨none, 0, []⟩, Vt.zero, 0, 0, 0, ⟨none, 0, []⟩, ⟨none, 0, []⟩, zeros32, Vt.zero, ⟨none, 0, []⟩, ⟨#[]⟩, ⟨none, 0, []⟩⟩
theorem Mg.plain_ok (k : Int) : (Mg.plain k).ok := ⟨Vt.zero_ok, Vt.zero_ok, zeros32_len, zeros32_byte⟩
theorem hds_none {w : World} : HdsAt w ⟨none, 0, []⟩ := ⟨RowsAt.none, fun _ h => by cases h⟩
def Mg.bare (m : Mg) : Mg :=
  if m.k = 1 then { Mg.plain 1 with q := m.q, rs := m.rs, e := m.e, s := m.s }
  else if m.k = 2 then { Mg.plain 2 with vt := m.vt }
  else if m.k = 3 then { Mg.plain 3 with ce := m.ce, cl := m.cl, cv := m.cv, he := m.he }
  else if m.k = 4 then { Mg.plain 4 with e := m.e, l := m.l, v := m.v, ne := m.ne }
  else if m.k = 5 then { Mg.plain 5 with e := m.e, d := m.d }
  else if m.k = 6 then { Mg.plain 6 with e := m.e, s := m.s }
  else if m.k = 7 then { Mg.plain 7 with q := m.q, rs := m.rs, ct := m.ct, cs := m.cs }
  else if m.k = 8 then { Mg.plain 8 with st := m.st, sg := m.sg }
  else Mg.plain m.k
theorem Mg.bare_1 {m : Mg} (h : m.k = 1) : m.bare = { Mg.plain 1 with q := m.q, rs := m.rs, e := m.e, s := m.s } := by unfold Mg.bare; rw [h]; rfl
theorem Mg.bare_2 {m : Mg} (h : m.k = 2) : m.bare = { Mg.plain 2 with vt := m.vt } := by unfold Mg.bare; rw [h]; rfl
theorem Mg.bare_3 {m : Mg} (h : m.k = 3) : m.bare = { Mg.plain 3 with ce := m.ce, cl := m.cl, cv := m.cv, he := m.he } := by unfold Mg.bare; rw [h]; rfl
theorem Mg.bare_4 {m : Mg} (h : m.k = 4) : m.bare = { Mg.plain 4 with e := m.e, l := m.l, v := m.v, ne := m.ne } := by unfold Mg.bare; rw [h]; rfl
theorem Mg.bare_5 {m : Mg} (h : m.k = 5) : m.bare = { Mg.plain 5 with e := m.e, d := m.d } := by unfold Mg.bare; rw [h]; rfl
theorem Mg.bare_6 {m : Mg} (h : m.k = 6) : m.bare = { Mg.plain 6 with e := m.e, s := m.s } := by unfold Mg.bare; rw [h]; rfl
theorem Mg.bare_7 {m : Mg} (h : m.k = 7) : m.bare = { Mg.plain 7 with q := m.q, rs := m.rs, ct := m.ct, cs := m.cs } := by unfold Mg.bare; rw [h]; rfl
theorem Mg.bare_8 {m : Mg} (h : m.k = 8) : m.bare = { Mg.plain 8 with st := m.st, sg := m.sg } := by unfold Mg.bare; rw [h]; rfl
theorem Mg.bare_ok {m : Mg} (h : m.ok) (h1 : 1 ≤ m.k) (h8 : m.k ≤ 8) : m.bare.ok := by
 have hk : m.k = 1 ∨ m.k = 2 ∨ m.k = 3 ∨ m.k = 4 ∨ m.k = 5 ∨ m.k = 6 ∨ m.k = 7 ∨ m.k = 8 := by omega
 have p := fun k => Mg.plain_ok k
 rcases hk with hk | hk | hk | hk | hk | hk | hk | hk
 ·rw [Mg.bare_1 hk]; exact ⟨by first | exact h.vt | exact (p 0).vt, by first | exact h.ct | exact (p 0).ct, by first | exact h.dl | exact (p 0).dl, by first | exact h.db | exact (p 0).db⟩
 ·rw [Mg.bare_2 hk]; exact ⟨by first | exact h.vt | exact (p 0).vt, by first | exact h.ct | exact (p 0).ct, by first | exact h.dl | exact (p 0).dl, by first | exact h.db | exact (p 0).db⟩
 ·rw [Mg.bare_3 hk]; exact ⟨by first | exact h.vt | exact (p 0).vt, by first | exact h.ct | exact (p 0).ct, by first | exact h.dl | exact (p 0).dl, by first | exact h.db | exact (p 0).db⟩
 ·rw [Mg.bare_4 hk]; exact ⟨by first | exact h.vt | exact (p 0).vt, by first | exact h.ct | exact (p 0).ct, by first | exact h.dl | exact (p 0).dl, by first | exact h.db | exact (p 0).db⟩
 ·rw [Mg.bare_5 hk]; exact ⟨by first | exact h.vt | exact (p 0).vt, by first | exact h.ct | exact (p 0).ct, by first | exact h.dl | exact (p 0).dl, by first | exact h.db | exact (p 0).db⟩
 ·rw [Mg.bare_6 hk]; exact ⟨by first | exact h.vt | exact (p 0).vt, by first | exact h.ct | exact (p 0).ct, by first | exact h.dl | exact (p 0).dl, by first | exact h.db | exact (p 0).db⟩
 ·rw [Mg.bare_7 hk]; exact ⟨by first | exact h.vt | exact (p 0).vt, by first | exact h.ct | exact (p 0).ct, by first | exact h.dl | exact (p 0).dl, by first | exact h.db | exact (p 0).db⟩
 ·rw [Mg.bare_8 hk]; exact ⟨by first | exact h.vt | exact (p 0).vt, by first | exact h.ct | exact (p 0).ct, by first | exact h.dl | exact (p 0).dl, by first | exact h.db | exact (p 0).db⟩
theorem Mg.bare_at {m : Mg} {w : World} (h : m.At w) (h1 : 1 ≤ m.k) (h8 : m.k ≤ 8) : m.bare.At w := by
 have hk : m.k = 1 ∨ m.k = 2 ∨ m.k = 3 ∨ m.k = 4 ∨ m.k = 5 ∨ m.k = 6 ∨ m.k = 7 ∨ m.k = 8 := by omega
 rcases hk with hk | hk | hk | hk | hk | hk | hk | hk
 ·rw [Mg.bare_1 hk]; exact ⟨by first | exact h.rs | exact RowsAt.none, by first | exact h.he | exact hds_none, by first | exact h.ne | exact RowsAt.none, by first | exact h.cs | exact RowsAt.none, by first | exact h.sg | exact RowsAt.none⟩
 ·rw [Mg.bare_2 hk]; exact ⟨by first | exact h.rs | exact RowsAt.none, by first | exact h.he | exact hds_none, by first | exact h.ne | exact RowsAt.none, by first | exact h.cs | exact RowsAt.none, by first | exact h.sg | exact RowsAt.none⟩
 ·rw [Mg.bare_3 hk]; exact ⟨by first | exact h.rs | exact RowsAt.none, by first | exact h.he | exact hds_none, by first | exact h.ne | exact RowsAt.none, by first | exact h.cs | exact RowsAt.none, by first | exact h.sg | exact RowsAt.none⟩
 ·rw [Mg.bare_4 hk]; exact ⟨by first | exact h.rs | exact RowsAt.none, by first | exact h.he | exact hds_none, by first | exact h.ne | exact RowsAt.none, by first | exact h.cs | exact RowsAt.none, by first | exact h.sg | exact RowsAt.none⟩
 ·rw [Mg.bare_5 hk]; exact ⟨by first | exact h.rs | exact RowsAt.none, by first | exact h.he | exact hds_none, by first | exact h.ne | exact RowsAt.none, by first | exact h.cs | exact RowsAt.none, by first | exact h.sg | exact RowsAt.none⟩
 ·rw [Mg.bare_6 hk]; exact ⟨by first | exact h.rs | exact RowsAt.none, by first | exact h.he | exact hds_none, by first | exact h.ne | exact RowsAt.none, by first | exact h.cs | exact RowsAt.none, by first | exact h.sg | exact RowsAt.none⟩
 ·rw [Mg.bare_7 hk]; exact ⟨by first | exact h.rs | exact RowsAt.none, by first | exact h.he | exact hds_none, by first | exact h.ne | exact RowsAt.none, by first | exact h.cs | exact RowsAt.none, by first | exact h.sg | exact RowsAt.none⟩
 ·rw [Mg.bare_8 hk]; exact ⟨by first | exact h.rs | exact RowsAt.none, by first | exact h.he | exact hds_none, by first | exact h.ne | exact RowsAt.none, by first | exact h.cs | exact RowsAt.none, by first | exact h.sg | exact RowsAt.none⟩
theorem bare_any (m : Mg) (om : m.ok) (h1 : 1 ≤ m.k) (h8 : m.k ≤ 8) (w : World) : Calls Tryz.prog 54 #[.agg m.ms.cells.toArray] w (BareOk w m.bare.ms.cells) := by
 have hk : m.k = 1 ∨ m.k = 2 ∨ m.k = 3 ∨ m.k = 4 ∨ m.k = 5 ∨ m.k = 6 ∨ m.k = 7 ∨ m.k = 8 := by omega
 rcases hk with hk | hk | hk | hk | hk | hk | hk | hk
 ·rw [Mg.bare_1 hk]; exact bareG1 m.ms om.ms hk w
 ·rw [Mg.bare_2 hk]; exact bareG2 m.ms om.ms hk w
 ·rw [Mg.bare_3 hk]; exact bareG3 m.ms om.ms hk w
 ·rw [Mg.bare_4 hk]; exact bareG4 m.ms om.ms hk w
 ·rw [Mg.bare_5 hk]; exact bareG5 m.ms om.ms hk w
 ·rw [Mg.bare_6 hk]; exact bareG6 m.ms om.ms hk w
 ·rw [Mg.bare_7 hk]; exact bareG7 m.ms om.ms hk w
 ·rw [Mg.bare_8 hk]; exact bareG8 m.ms om.ms hk w
def Mg.good (m : Mg) : Bool := decide (1 ≤ m.k ∧ m.k ≤ 8) && (Mg.B m m.bare && m.may)
set_option maxRecDepth 100000 in
set_option maxHeartbeats 4000000 in
theorem goodW (q q' : List Value) (k : Int) (b1 b2 : Bool) (w : World) (hq : q.length = 119) (h0 : q[0]? = some (.int .i64 k))
  (kb : 1 ≤ k → k ≤ 8 → ∀ w0, Below w.heap.size w w0 → Calls Tryz.prog 54 #[.agg q.toArray] w0 (BareOk w0 q'))
  (ks : 1 ≤ k → k ≤ 8 → ∀ w0, Below w.heap.size w w0 → Calls Tryz.prog 30 #[.agg q.toArray, .agg q'.toArray] w0 fun e w' => e = .returned (.bool b1) ∧ Below w0.heap.size w0 w')
  (kf : ∀ w0, Below w.heap.size w w0 → Calls Tryz.prog 55 #[.agg q.toArray] w0 fun e w' => e = .returned (.bool b2) ∧ Below w0.heap.size w0 w') :
  Calls Tryz.prog 26 #[.agg q.toArray] w fun e w' => e = .returned (.bool (decide (1 ≤ k ∧ k ≤ 8) && (b1 && b2))) ∧ Below w.heap.size w w' := by
 have hB : Below w.heap.size w (w.alloc (.cells q.toArray 63)) := (Below.refl _ _).alloc (Nat.le_refl _) _
 have hs : w.heap.size < (w.alloc (.cells q.toArray 63)).heap.size := by simp
 have hA : (w.alloc (.cells q.toArray 63)).rangeAt w.heap.size 0 q := by simpa using range_new w q.toArray 63
 have c0 := hA 0 _ h0
 simp only [Nat.add_zero] at c0
 have iq : (Tryz.prog.info? 63).map (·.size) = some q.length := by rw [hq]; exact iszM
 clear hq h0
 by_cases hk : 1 ≤ k ∧ k ≤ 8
 ·rw [decide_eq_true hk, Bool.true_and]
  replace kb := kb hk.1 hk.2
  replace ks := ks hk.1 hk.2
  obtain ⟨h1, h8⟩ := hk
  cases b1
  ·rw [Bool.false_and]
   go_enter Tryz.func26, Tryz.ntmps26
   go_upto_region 2 with fail
   obtain ⟨w8, hw8⟩ : ∃ w8, (w.alloc (.cells q.toArray 63)).drew = w8 := ⟨_, rfl⟩
   have hB8 : Below w.heap.size w w8 := by rw [← hw8]; exact hB.drew
   have hA8 : w8.rangeAt w.heap.size 0 q := by rw [← hw8]; exact (World.rangeAt_drew _ _ _ _).2 hA
   have hs8 : w.heap.size < w8.heap.size := by rw [← hw8]; exact hs
   have gb := fun w0 (h0 : Below w8.heap.size w8 w0) => kb w0 (hB8.trans (h0.mono hB8.size))
   have gs := fun w0 (h0 : Below w8.heap.size w8 w0) => ks w0 (hB8.trans (h0.mono hB8.size))
   have gf := fun w0 (h0 : Below w8.heap.size w8 w0) => kf w0 (hB8.trans (h0.mono hB8.size))
   refine hs_begin (S := (Below w8.heap.size w8)) 12 rfl (by kernel_rfl) ?_
   rw [hw8]
   clear hw8 hA hB hs c0 kb ks kf
   have hS : (Below w8.heap.size w8) w8 := Below.refl _ _
   refine hs_t 0 12 (?_) rfl (by kernel_rfl) (by kernel_rfl) (by kernel_rfl) (by rfl) ?_ hS rfl ?_
   rotate_left
   ·intro w' hw
    go_simp
    try with_reducible rfl
   simp only [nz]
   refine hs_t 1 13 (?_) rfl (by kernel_rfl) (by kernel_rfl) (by kernel_rfl) (by rfl) ?_ hS rfl ?_
   rotate_left
   ·intro w' hw
    go_simp
    try with_reducible rfl
   simp only [nz]
   refine hs_t 2 14 (.agg q.toArray) rfl (by kernel_rfl) (by kernel_rfl) (by kernel_rfl) (by rfl) (fun w' hw => exec_loadC rfl rfl (run_loadVar_mid (P := Tryz.prog) w' w.heap.size 0 63 q _ (range_below hA8 hw hs8) Tryz.underlying63 rfl iq)) hS rfl ?_
   simp only [nz]
   refine hs_t 3 15 (.agg q.toArray) rfl (by kernel_rfl) (by kernel_rfl) (by kernel_rfl) (by rfl) (fun w' hw => exec_loadC rfl rfl (run_loadVar_mid (P := Tryz.prog) w' w.heap.size 0 63 q _ (range_below hA8 hw hs8) Tryz.underlying63 rfl iq)) hS rfl ?_
   simp only [nz]
   refine hs_call (i := 4) (d := some 16) rfl (by kernel_rfl) (by rfl) (by go_simp; first | done | exact ⟨rfl, rfl⟩ | with_reducible rfl) rfl ?_
   refine (gb _ hS).mono ?_
   rintro e' wn1 ⟨rfl, hb1⟩
   have hS : (Below w8.heap.size w8) wn1 := hS.trans (hb1.mono hS.size)
   refine ⟨_, rfl, hS, ?_⟩
   simp only [nz]
   refine hs_call (i := 5) (d := some 17) rfl (by kernel_rfl) (by rfl) (by go_simp; first | done | exact ⟨rfl, rfl⟩ | with_reducible rfl) rfl ?_
   refine (gs _ hS).mono ?_
   rintro e' wn2 ⟨rfl, hb2⟩
   have hS : (Below w8.heap.size w8) wn2 := hS.trans (hb2.mono hS.size)
   refine ⟨_, rfl, hS, ?_⟩
   simp only [nz]
   refine hs_t 6 18 (?_) rfl (by kernel_rfl) (by kernel_rfl) (by kernel_rfl) (by rfl) ?_ hS rfl ?_
   rotate_left
   ·intro w' hw
    go_simp
    try with_reducible rfl
   simp only [nz]
   refine hs_t 7 19 (?_) rfl (by kernel_rfl) (by kernel_rfl) (by kernel_rfl) (by rfl) ?_ hS rfl ?_
   rotate_left
   ·intro w' hw
    go_simp
    try with_reducible rfl
   simp only [nz]
   refine hs_skip (i := 8) (d := some 20) rfl (by kernel_rfl) (by kernel_rfl) (by kernel_rfl) (by rfl) hS rfl ?_
   simp only [nz]
   refine hs_skip (i := 9) (d := some 21) rfl (by kernel_rfl) (by kernel_rfl) (by kernel_rfl) (by rfl) hS rfl ?_
   simp only [nz]
   refine hs_t 10 22 (?_) rfl (by kernel_rfl) (by kernel_rfl) (by kernel_rfl) (by rfl) ?_ hS rfl ?_
   rotate_left
   ·intro w' hw
    go_simp
    try with_reducible rfl
   simp only [nz]
   refine hs_t 11 2 (?_) rfl (by kernel_rfl) (by kernel_rfl) (by kernel_rfl) (by rfl) ?_ hS rfl ?_
   rotate_left
   ·intro w' hw
    go_simp
    try with_reducible rfl
   simp only [nz]
   refine hs_done (by kernel_rfl) ?_
   go_wp2
   go_ret
   exact ⟨rfl, hB8.trans (hS.mono hB8.size)⟩
  ·rw [Bool.true_and]
   go_enter Tryz.func26, Tryz.ntmps26
   go_upto_region 2 with fail
   obtain ⟨w8, hw8⟩ : ∃ w8, (w.alloc (.cells q.toArray 63)).drew = w8 := ⟨_, rfl⟩
   have hB8 : Below w.heap.size w w8 := by rw [← hw8]; exact hB.drew
   have hA8 : w8.rangeAt w.heap.size 0 q := by rw [← hw8]; exact (World.rangeAt_drew _ _ _ _).2 hA
   have hs8 : w.heap.size < w8.heap.size := by rw [← hw8]; exact hs
   have gb := fun w0 (h0 : Below w8.heap.size w8 w0) => kb w0 (hB8.trans (h0.mono hB8.size))
   have gs := fun w0 (h0 : Below w8.heap.size w8 w0) => ks w0 (hB8.trans (h0.mono hB8.size))
   have gf := fun w0 (h0 : Below w8.heap.size w8 w0) => kf w0 (hB8.trans (h0.mono hB8.size))
   refine hs_begin (S := (Below w8.heap.size w8)) 12 rfl (by kernel_rfl) ?_
   rw [hw8]
   clear hw8 hA hB hs c0 kb ks kf
   have hS : (Below w8.heap.size w8) w8 := Below.refl _ _
   refine hs_t 0 12 (?_) rfl (by kernel_rfl) (by kernel_rfl) (by kernel_rfl) (by rfl) ?_ hS rfl ?_
   rotate_left
   ·intro w' hw
    go_simp
    try with_reducible rfl
   simp only [nz]
   refine hs_t 1 13 (?_) rfl (by kernel_rfl) (by kernel_rfl) (by kernel_rfl) (by rfl) ?_ hS rfl ?_
   rotate_left
   ·intro w' hw
    go_simp
    try with_reducible rfl
   simp only [nz]
   refine hs_t 2 14 (.agg q.toArray) rfl (by kernel_rfl) (by kernel_rfl) (by kernel_rfl) (by rfl) (fun w' hw => exec_loadC rfl rfl (run_loadVar_mid (P := Tryz.prog) w' w.heap.size 0 63 q _ (range_below hA8 hw hs8) Tryz.underlying63 rfl iq)) hS rfl ?_
   simp only [nz]
   refine hs_t 3 15 (.agg q.toArray) rfl (by kernel_rfl) (by kernel_rfl) (by kernel_rfl) (by rfl) (fun w' hw => exec_loadC rfl rfl (run_loadVar_mid (P := Tryz.prog) w' w.heap.size 0 63 q _ (range_below hA8 hw hs8) Tryz.underlying63 rfl iq)) hS rfl ?_
   simp only [nz]
   refine hs_call (i := 4) (d := some 16) rfl (by kernel_rfl) (by rfl) (by go_simp; first | done | exact ⟨rfl, rfl⟩ | with_reducible rfl) rfl ?_
   refine (gb _ hS).mono ?_
   rintro e' wn1 ⟨rfl, hb1⟩
   have hS : (Below w8.heap.size w8) wn1 := hS.trans (hb1.mono hS.size)
   refine ⟨_, rfl, hS, ?_⟩
   simp only [nz]
   refine hs_call (i := 5) (d := some 17) rfl (by kernel_rfl) (by rfl) (by go_simp; first | done | exact ⟨rfl, rfl⟩ | with_reducible rfl) rfl ?_
   refine (gs _ hS).mono ?_
   rintro e' wn2 ⟨rfl, hb2⟩
   have hS : (Below w8.heap.size w8) wn2 := hS.trans (hb2.mono hS.size)
   refine ⟨_, rfl, hS, ?_⟩
   simp only [nz]
   refine hs_t 6 18 (?_) rfl (by kernel_rfl) (by kernel_rfl) (by kernel_rfl) (by rfl) ?_ hS rfl ?_
   rotate_left
   ·intro w' hw
    go_simp
    try with_reducible rfl
   simp only [nz]
   refine hs_t 7 19 (?_) rfl (by kernel_rfl) (by kernel_rfl) (by kernel_rfl) (by rfl) ?_ hS rfl ?_
   rotate_left
   ·intro w' hw
    go_simp
    try with_reducible rfl
   simp only [nz]
   refine hs_t 8 20 (.agg q.toArray) rfl (by kernel_rfl) (by kernel_rfl) (by kernel_rfl) (by rfl) (fun w' hw => exec_loadC rfl rfl (run_loadVar_mid (P := Tryz.prog) w' w.heap.size 0 63 q _ (range_below hA8 hw hs8) Tryz.underlying63 rfl iq)) hS rfl ?_
   simp only [nz]
   refine hs_call (i := 9) (d := some 21) rfl (by kernel_rfl) (by rfl) (by go_simp; first | done | exact ⟨rfl, rfl⟩ | with_reducible rfl) rfl ?_
   refine (gf _ hS).mono ?_
   rintro e' wn3 ⟨rfl, hb3⟩
   have hS : (Below w8.heap.size w8) wn3 := hS.trans (hb3.mono hS.size)
   refine ⟨_, rfl, hS, ?_⟩
   simp only [nz]
   refine hs_t 10 22 (?_) rfl (by kernel_rfl) (by kernel_rfl) (by kernel_rfl) (by rfl) ?_ hS rfl ?_
   rotate_left
   ·intro w' hw
    go_simp
    try with_reducible rfl
   simp only [nz]
   refine hs_t 11 2 (?_) rfl (by kernel_rfl) (by kernel_rfl) (by kernel_rfl) (by rfl) ?_ hS rfl ?_
   rotate_left
   ·intro w' hw
    go_simp
    try with_reducible rfl
   simp only [nz]
   refine hs_done (by kernel_rfl) ?_
   go_wp2
   go_ret
   exact ⟨rfl, hB8.trans (hS.mono hB8.size)⟩
 ·rw [decide_eq_false hk, Bool.false_and]
  have hk' : k < 1 ∨ (1 ≤ k ∧ 8 < k) := by omega
  clear hk kb ks kf
  have kb : ∀ w0, Below w.heap.size w w0 → True := fun _ _ => trivial
  have ks := kb
  have kf := kb
  rcases hk' with hk | ⟨hk, hk2⟩
  ·have n1 : ¬ 1 ≤ k := by omega
   go_enter Tryz.func26, Tryz.ntmps26
   go_upto_region 2 with fail
   obtain ⟨w8, hw8⟩ : ∃ w8, (w.alloc (.cells q.toArray 63)).drew = w8 := ⟨_, rfl⟩
   have hB8 : Below w.heap.size w w8 := by rw [← hw8]; exact hB.drew
   have hA8 : w8.rangeAt w.heap.size 0 q := by rw [← hw8]; exact (World.rangeAt_drew _ _ _ _).2 hA
   have hs8 : w.heap.size < w8.heap.size := by rw [← hw8]; exact hs
   have gb := fun w0 (h0 : Below w8.heap.size w8 w0) => kb w0 (hB8.trans (h0.mono hB8.size))
   have gs := fun w0 (h0 : Below w8.heap.size w8 w0) => ks w0 (hB8.trans (h0.mono hB8.size))
   have gf := fun w0 (h0 : Below w8.heap.size w8 w0) => kf w0 (hB8.trans (h0.mono hB8.size))
   refine hs_begin (S := (Below w8.heap.size w8)) 12 rfl (by kernel_rfl) ?_
   rw [hw8]
   clear hw8 hA hB hs c0 kb ks kf
   have hS : (Below w8.heap.size w8) w8 := Below.refl _ _
   refine hs_t 0 12 (?_) rfl (by kernel_rfl) (by kernel_rfl) (by kernel_rfl) (by rfl) ?_ hS rfl ?_
   rotate_left
   ·intro w' hw
    go_simp
    try with_reducible rfl
   simp only [nz]
   refine hs_t 1 13 (?_) rfl (by kernel_rfl) (by kernel_rfl) (by kernel_rfl) (by rfl) ?_ hS rfl ?_
   rotate_left
   ·intro w' hw
    go_simp
    try with_reducible rfl
   simp only [nz]
   refine hs_skip (i := 2) (d := some 14) rfl (by kernel_rfl) (by kernel_rfl) (by kernel_rfl) (by rfl) hS rfl ?_
   simp only [nz]
   refine hs_skip (i := 3) (d := some 15) rfl (by kernel_rfl) (by kernel_rfl) (by kernel_rfl) (by rfl) hS rfl ?_
   simp only [nz]
   refine hs_skip (i := 4) (d := some 16) rfl (by kernel_rfl) (by kernel_rfl) (by kernel_rfl) (by rfl) hS rfl ?_
   simp only [nz]
   refine hs_skip (i := 5) (d := some 17) rfl (by kernel_rfl) (by kernel_rfl) (by kernel_rfl) (by rfl) hS rfl ?_
   simp only [nz]
   refine hs_t 6 18 (?_) rfl (by kernel_rfl) (by kernel_rfl) (by kernel_rfl) (by rfl) ?_ hS rfl ?_
   rotate_left
   ·intro w' hw
    go_simp
    try with_reducible rfl
   simp only [nz]
   refine hs_t 7 19 (?_) rfl (by kernel_rfl) (by kernel_rfl) (by kernel_rfl) (by rfl) ?_ hS rfl ?_
   rotate_left
   ·intro w' hw
    go_simp
    try with_reducible rfl
   simp only [nz]
   refine hs_skip (i := 8) (d := some 20) rfl (by kernel_rfl) (by kernel_rfl) (by kernel_rfl) (by rfl) hS rfl ?_
   simp only [nz]
   refine hs_skip (i := 9) (d := some 21) rfl (by kernel_rfl) (by kernel_rfl) (by kernel_rfl) (by rfl) hS rfl ?_
   simp only [nz]
   refine hs_t 10 22 (?_) rfl (by kernel_rfl) (by kernel_rfl) (by kernel_rfl) (by rfl) ?_ hS rfl ?_
   rotate_left
   ·intro w' hw
    go_simp
    try with_reducible rfl
   simp only [nz]
   refine hs_t 11 2 (?_) rfl (by kernel_rfl) (by kernel_rfl) (by kernel_rfl) (by rfl) ?_ hS rfl ?_
   rotate_left
   ·intro w' hw
    go_simp
    try with_reducible rfl
   simp only [nz]
   refine hs_done (by kernel_rfl) ?_
   go_wp2
   go_ret
   exact ⟨rfl, hB8.trans (hS.mono hB8.size)⟩
  ·have n1 : ¬ k ≤ 8 := by omega
   go_enter Tryz.func26, Tryz.ntmps26
   go_upto_region 2 with fail
   obtain ⟨w8, hw8⟩ : ∃ w8, (w.alloc (.cells q.toArray 63)).drew = w8 := ⟨_, rfl⟩
   have hB8 : Below w.heap.size w w8 := by rw [← hw8]; exact hB.drew
   have hA8 : w8.rangeAt w.heap.size 0 q := by rw [← hw8]; exact (World.rangeAt_drew _ _ _ _).2 hA
   have hs8 : w.heap.size < w8.heap.size := by rw [← hw8]; exact hs
   have gb := fun w0 (h0 : Below w8.heap.size w8 w0) => kb w0 (hB8.trans (h0.mono hB8.size))
   have gs := fun w0 (h0 : Below w8.heap.size w8 w0) => ks w0 (hB8.trans (h0.mono hB8.size))
   have gf := fun w0 (h0 : Below w8.heap.size w8 w0) => kf w0 (hB8.trans (h0.mono hB8.size))
   refine hs_begin (S := (Below w8.heap.size w8)) 12 rfl (by kernel_rfl) ?_
   rw [hw8]
   clear hw8 hA hB hs c0 kb ks kf
   have hS : (Below w8.heap.size w8) w8 := Below.refl _ _
   refine hs_t 0 12 (?_) rfl (by kernel_rfl) (by kernel_rfl) (by kernel_rfl) (by rfl) ?_ hS rfl ?_
   rotate_left
   ·intro w' hw
    go_simp
    try with_reducible rfl
   simp only [nz]
   refine hs_t 1 13 (?_) rfl (by kernel_rfl) (by kernel_rfl) (by kernel_rfl) (by rfl) ?_ hS rfl ?_
   rotate_left
   ·intro w' hw
    go_simp
    try with_reducible rfl
   simp only [nz]
   refine hs_skip (i := 2) (d := some 14) rfl (by kernel_rfl) (by kernel_rfl) (by kernel_rfl) (by rfl) hS rfl ?_
   simp only [nz]
   refine hs_skip (i := 3) (d := some 15) rfl (by kernel_rfl) (by kernel_rfl) (by kernel_rfl) (by rfl) hS rfl ?_
   simp only [nz]
   refine hs_skip (i := 4) (d := some 16) rfl (by kernel_rfl) (by kernel_rfl) (by kernel_rfl) (by rfl) hS rfl ?_
   simp only [nz]
   refine hs_skip (i := 5) (d := some 17) rfl (by kernel_rfl) (by kernel_rfl) (by kernel_rfl) (by rfl) hS rfl ?_
   simp only [nz]
   refine hs_t 6 18 (?_) rfl (by kernel_rfl) (by kernel_rfl) (by kernel_rfl) (by rfl) ?_ hS rfl ?_
   rotate_left
   ·intro w' hw
    go_simp
    try with_reducible rfl
   simp only [nz]
   refine hs_t 7 19 (?_) rfl (by kernel_rfl) (by kernel_rfl) (by kernel_rfl) (by rfl) ?_ hS rfl ?_
   rotate_left
   ·intro w' hw
    go_simp
    try with_reducible rfl
   simp only [nz]
   refine hs_skip (i := 8) (d := some 20) rfl (by kernel_rfl) (by kernel_rfl) (by kernel_rfl) (by rfl) hS rfl ?_
   simp only [nz]
   refine hs_skip (i := 9) (d := some 21) rfl (by kernel_rfl) (by kernel_rfl) (by kernel_rfl) (by rfl) hS rfl ?_
   simp only [nz]
   refine hs_t 10 22 (?_) rfl (by kernel_rfl) (by kernel_rfl) (by kernel_rfl) (by rfl) ?_ hS rfl ?_
   rotate_left
   ·intro w' hw
    go_simp
    try with_reducible rfl
   simp only [nz]
   refine hs_t 11 2 (?_) rfl (by kernel_rfl) (by kernel_rfl) (by kernel_rfl) (by rfl) ?_ hS rfl ?_
   rotate_left
   ·intro w' hw
    go_simp
    try with_reducible rfl
   simp only [nz]
   refine hs_done (by kernel_rfl) ?_
   go_wp2
   go_ret
   exact ⟨rfl, hB8.trans (hS.mono hB8.size)⟩
theorem good_any (m : Mg) (w : World) (om : m.ok) (am : m.At w) : Calls Tryz.prog 26 #[.agg m.ms.cells.toArray] w fun e w' => e = .returned (.bool m.good) ∧ Below w.heap.size w w' :=
 goodW m.ms.cells m.bare.ms.cells m.k (Mg.B m m.bare) m.may w om.ms.len rfl (fun h1 h8 w0 _ => bare_any m om h1 h8 w0) (fun h1 h8 w0 h0 => msame_any m m.bare w0 om (Mg.bare_ok om h1 h8) (am.below h0) ((Mg.bare_at am h1 h8).below h0)) (fun w0 h0 => fieldsMay_any m w0 om (am.below h0))
set_option linter.unusedVariables false
set_option linter.unusedSimpArgs false
theorem owns_mono {w : World} {B B' : Nat} {e : TypeId} {v : Value} {n : Nat} {xs : List Value} (h : w.ownsRow B e 1 v n xs) (hB : B' ≤ B) : w.ownsRow B' e 1 v n xs := by
 refine ⟨h.1, ?_⟩
 rcases h.2 with h | ⟨g, cap, cur, hv, hg, r⟩
 ·exact .inl h
 ·exact .inr ⟨g, cap, cur, hv, Nat.le_trans hB hg, r⟩
def reqL (c n : Int) (s : ByteArray) (t : List Int) : List Value := .int .i64 c :: .int .i64 n :: .string s :: v8 t
theorem req_cells (w : World) (c n : Int) (s : ByteArray) (t : List Int) : (w.alloc (.cells (reqL c n s t).toArray 91)).rangeAt w.heap.size 0 (reqL c n s t) := by
 have := range_new w (reqL c n s t).toArray 91
 simpa using this
theorem reqL_0 {w : World} {b : Nat} {c n : Int} {s : ByteArray} {t : List Int} (h : w.rangeAt b 0 (reqL c n s t)) : w.cell? ⟨b, 0, none⟩ = some (.int .i64 c) ∧ w.cell? ⟨b, 1, none⟩ = some (.int .i64 n) ∧ w.cell? ⟨b, 2, none⟩ = some (.string s) :=
 ⟨h 0 _ rfl, h 1 _ rfl, h 2 _ rfl⟩
set_option maxRecDepth 100000 in
set_option maxHeartbeats 2000000 in
theorem fields_any (a : Option Addr) (cap : Nat) (zs : List Int) (c n : Int) (s : ByteArray) (t : List Int) (w : World) (h : RowAt w a zs) (hm : zs.length ≤ 1000000) (hc : c ≤ 9223372036854775807) (hn : n ≤ 9223372036854775807) (hs : s.size ≤ 1000000) :
   Calls Tryz.prog 154 #[.slice a zs.length cap, .agg (reqL c n s t).toArray] w fun e w' => ∃ v, e = .returned v ∧ Mine w' w.heap.size v (zs ++ putL c ++ putL n ++ textL s) ∧ Below w.heap.size w w' := by
  have hB1 : Below w.heap.size w (w.alloc (.cells (reqL c n s t).toArray 91)) := (Below.refl _ _).alloc (Nat.le_refl _) _
  have hR1 := req_cells w c n s t
  have hz1 : w.heap.size < (w.alloc (.cells (reqL c n s t).toArray 91)).heap.size := by simp
  have hlc := putL_length c (by omega)
  have hln := putL_length n (by omega)
  obtain ⟨q, hq⟩ : ∃ q, Hid (reqL c n s t = q) := ⟨_, rfl⟩
  rw [hq.out] at hB1 hz1 ⊢
  rw [hq.out] at hR1
  obtain ⟨z1, hz1'⟩ : ∃ z1, Hid (zs ++ putL c = z1) := ⟨_, rfl⟩
  obtain ⟨z2, hz2'⟩ : ∃ z2, Hid (z1 ++ putL n = z2) := ⟨_, rfl⟩
  have l1 : z1.length ≤ 1000009 := by rw [← hz1'.out, List.length_append]; omega
  have l2 : z2.length ≤ 1000018 := by rw [← hz2'.out, List.length_append]; omega
  rw [hz1'.out, hz2'.out]
  clear hlc hln
  go_enter Tryz.func154, Tryz.ntmps154
  go_wp2_with fail
  go_name_world w1 hw1
  rw [show w.alloc (.cells q.toArray 91) = w1 from hw1] at hB1 hR1 hz1
  clear hw1
  have hB4 := hB1.drew
  have hR4 : w1.drew.rangeAt w.heap.size 0 q := (World.rangeAt_drew _ _ _ _).2 hR1
  have hz4 : w.heap.size < w1.drew.heap.size := hz1
  have h4 := h.below hB4
  clear hB1 hR1 hz1
  obtain ⟨X, hX⟩ : ∃ X, Hid (w.heap.size = X) := ⟨_, rfl⟩
  rw [hX.out] at hR4 hz4 ⊢
  obtain ⟨w5, hw5⟩ : ∃ w5, w1.drew = w5 := ⟨_, rfl⟩
  rw [hw5] at hB4 hR4 hz4 h4
  have cells : ∀ w', Below w5.heap.size w5 w' → w'.cell? ⟨X, 0, none⟩ = some (.int .i64 c) ∧ w'.cell? ⟨X, 1, none⟩ = some (.int .i64 n) ∧ w'.cell? ⟨X, 2, none⟩ = some (.string s) := fun w' hw' => by
    have := range_below hR4 hw' hz4
    rw [← hq.out] at this
    exact reqL_0 this
  refine hs_begin (S := (Below w5.heap.size w5)) 11 rfl (by kernel_rfl) ?_
  rw [hw5]
  clear hw5 hR4
  have hS : (Below w5.heap.size w5) w5 := Below.refl _ _
  refine hs_t 0 5 (?_) rfl (by kernel_rfl) (by kernel_rfl) (by kernel_rfl) (by rfl) ?_ hS rfl ?_
  rotate_left
  · intro w' hw
    go_simp
    try with_reducible rfl
  simp only [nz]
  refine hs_t 1 6 (?_) rfl (by kernel_rfl) (by kernel_rfl) (by kernel_rfl) (by rfl) ?_ hS rfl ?_
  rotate_left
  · intro w' hw
    go_simp
    try with_reducible rfl
  simp only [nz]
  refine hs_t 2 7 (?_) rfl (by kernel_rfl) (by kernel_rfl) (by kernel_rfl) (by rfl) ?_ hS rfl ?_
  rotate_left
  · intro w' hw
    have hc := (cells w' hw).1
    go_simp
    try with_reducible rfl
  simp only [nz]
  refine hs_t 4 9 (?_) rfl (by kernel_rfl) (by kernel_rfl) (by kernel_rfl) (by rfl) ?_ hS rfl ?_
  rotate_left
  · intro w' hw
    go_simp
    try with_reducible rfl
  simp only [nz]
  refine hs_t 5 10 (?_) rfl (by kernel_rfl) (by kernel_rfl) (by kernel_rfl) (by rfl) ?_ hS rfl ?_
  rotate_left
  · intro w' hw
    have hc := (cells w' hw).2.1
    go_simp
    try with_reducible rfl
  simp only [nz]
  refine hs_t 7 12 (?_) rfl (by kernel_rfl) (by kernel_rfl) (by kernel_rfl) (by rfl) ?_ hS rfl ?_
  rotate_left
  · intro w' hw
    go_simp
    try with_reducible rfl
  simp only [nz]
  refine hs_t 8 13 (?_) rfl (by kernel_rfl) (by kernel_rfl) (by kernel_rfl) (by rfl) ?_ hS rfl ?_
  rotate_left
  · intro w' hw
    have hc := (cells w' hw).2.2
    go_simp
    try with_reducible rfl
  simp only [nz]
  clear cells
  have c6 := put_any a cap zs c w5 h4 (by omega) hc
  rw [hz1'.out] at c6
  refine hs_call (i := 3) (d := some 8) rfl (by kernel_rfl) (by rfl) (by go_simp; first | done | exact ⟨rfl, rfl⟩ | with_reducible rfl) rfl ?_
  refine (c6).mono ?_
  rintro e' w6 ⟨v6, rfl, hM6, hw6⟩
  have hS : (Below w5.heap.size w5) w6 := hS.trans (hw6.mono hS.size)
  refine ⟨_, rfl, hS, ?_⟩
  simp only [nz]
  obtain ⟨a6, cap6, rfl, _, _, hrow6⟩ := hM6.rowAt (by unfold maxLen; omega)
  clear c6 hM6 hw6
  have c7 := put_any a6 cap6 z1 n w6 hrow6 (by omega) hn
  rw [hz2'.out] at c7
  refine hs_call (i := 6) (d := some 11) rfl (by kernel_rfl) (by rfl) (by go_simp; first | done | exact ⟨rfl, rfl⟩ | with_reducible rfl) rfl ?_
  refine (c7).mono ?_
  rintro e' w7 ⟨v7, rfl, hM7, hw7⟩
  have hS : (Below w5.heap.size w5) w7 := hS.trans (hw7.mono hS.size)
  refine ⟨_, rfl, hS, ?_⟩
  simp only [nz]
  obtain ⟨a7, cap7, rfl, _, _, hrow7⟩ := hM7.rowAt (by unfold maxLen; omega)
  have hs7 : w5.heap.size ≤ w7.heap.size := hS.size
  clear c7 hM7 hw7 hrow6
  have c8 := putText_any a7 cap7 z2 s w7 hrow7 (by omega) (by omega)
  refine hs_call (i := 9) (d := some 14) rfl (by kernel_rfl) (by rfl) (by go_simp; first | done | exact ⟨rfl, rfl⟩ | with_reducible rfl) rfl ?_
  refine (c8).mono ?_
  rintro e' w8 ⟨v8, rfl, hM8, hw8⟩
  have hS : (Below w5.heap.size w5) w8 := hS.trans (hw8.mono hS.size)
  refine ⟨_, rfl, hS, ?_⟩
  simp only [nz]
  have hfin := hB4.trans (hS.mono hB4.size)
  have hM9 : Mine w8 w.heap.size v8 (z2 ++ textL s) := ⟨owns_mono hM8.1 (by have := hB4.size; omega), hM8.2⟩
  clear c8 hM8 hw8 hrow7
  refine hs_t 10 4 (?_) rfl (by kernel_rfl) (by kernel_rfl) (by kernel_rfl) (by rfl) ?_ hS rfl ?_
  rotate_left
  · intro w' hw
    go_simp
    try with_reducible rfl
  simp only [nz]
  refine hs_done (by kernel_rfl) ?_
  go_wp2
  go_ret
  exact ⟨_, rfl, hM9, hfin⟩
theorem reqL_length (c n : Int) (s : ByteArray) (t : List Int) (ht : t.length = 16) : (reqL c n s t).length = 19 := by simp [reqL, v8_length, ht]
theorem iszR : (Tryz.prog.info? 91).map (·.size) = some 19 := by kernel_rfl
theorem reqL_one (c n : Int) (s : ByteArray) (t : List Int) : ∀ v ∈ reqL c n s t, v.oneCell' = true := by
 intro v hv
 simp only [reqL, List.mem_cons] at hv
 rcases hv with rfl | rfl | rfl | hv
 ·rfl
 ·rfl
 ·rfl
 ·exact v8_one t v hv
theorem reqL_tag {w : World} {b : Nat} {c n : Int} {s : ByteArray} {t : List Int} (h : w.rangeAt b 0 (reqL c n s t)) : w.rangeAt b 3 (v8 t) := by
 have e : reqL c n s t = [.int .i64 c, .int .i64 n, .string s] ++ v8 t := rfl
 rw [e] at h
 exact range_right h
set_option maxRecDepth 100000 in
set_option maxHeartbeats 2000000 in
theorem rput_any (a : Option Addr) (cap : Nat) (zs : List Int) (c n : Int) (s : ByteArray) (t : List Int) (w : World) (h : RowAt w a zs) (hz : zs.length ≤ 1000000) (ht : t.length = 16) (htb : ∀ z ∈ t, 0 ≤ z ∧ z < 256) (hc : c ≤ 9223372036854775807) (hn : n ≤ 9223372036854775807) (hs : s.size ≤ 1000000) :
   Calls Tryz.prog 122 #[.slice a zs.length cap, .agg (reqL c n s t).toArray] w fun e w' => ∃ v, e = .returned v ∧ Mine w' w.heap.size v (zs ++ (putL c ++ putL n ++ textL s) ++ t) ∧ Below w.heap.size w w' := by
  obtain ⟨i0, hi, hz0, hz1, hz2⟩ := info_parts info8
  have hB1 : Below w.heap.size w (w.alloc (.cells (reqL c n s t).toArray 91)) := (Below.refl _ _).alloc (Nat.le_refl _) _
  have hR1 := req_cells w c n s t
  have hz1' : w.heap.size < (w.alloc (.cells (reqL c n s t).toArray 91)).heap.size := by simp
  have hiq : (Tryz.prog.info? 91).map (·.size) = some (reqL c n s t).length := by rw [reqL_length c n s t ht]; exact iszR
  have cf := fun w0 => fields_any none 0 [] c n s t w0 (nil_row w0) (by simp) hc hn hs
  simp only [List.nil_append, List.length_nil] at cf
  have htg := fun (w0 : World) (b0 : Nat) h1 => @reqL_tag w0 b0 c n s t h1
  have lF : (putL c ++ putL n ++ textL s).length ≤ 1000100 := by
    have h1 := putL_length c (by omega)
    have h2 := putL_length n (by omega)
    have h3 := putL_length s.size (by omega)
    simp only [textL, List.length_append, strL_length]
    omega
  obtain ⟨F, hF⟩ : ∃ F, Hid (putL c ++ putL n ++ textL s = F) := ⟨_, hide rfl⟩
  simp only [hF.out] at cf
  rw [hF.out] at lF ⊢
  obtain ⟨q, hq⟩ : ∃ q, Hid (reqL c n s t = q) := ⟨_, hide rfl⟩
  rw [hq.out] at hB1 hR1 hz1' hiq ⊢
  simp only [hq.out] at cf htg
  go_enter Tryz.func122, Tryz.ntmps122
  go_upto_region 1 with fail
  go_name_world w1 hw1
  rw [hw1] at hB1 hR1 hz1'
  clear hw1
  obtain ⟨X, hX⟩ : ∃ X, Hid (w.heap.size = X) := ⟨_, hide rfl⟩
  rw [hX.out] at hR1 hz1' ⊢
  try simp only [Act.put]
  refine wp_region_list ?_
  refine wpList_load_mid rfl 91 _ rfl _ _ rfl q _ hR1 Tryz.underlying91 rfl hiq ?_
  go_wp2_with fail
  refine (cf w1).mono ?_
  rintro e w2 ⟨v2, rfl, m2, hw2⟩
  have hB2 := hB1.trans (hw2.mono hB1.size)
  have hR2 := range_below hR1 hw2 hz1'
  have hX2 := Nat.lt_of_lt_of_le hz1' hw2.size
  obtain ⟨a2, cap2, rfl, _, _, row2⟩ := m2.rowAt (by unfold maxLen; omega)
  have mF := m2.2
  clear cf m2 hw2 hB1 hR1 hz1'
  go_wp2_with (first
    | refine wpList_make_own _ rfl _ _ 36 rfl w2.heap.size 5 i0 (.int .u8 0) 1 Tryz.underlying36 hi hz0 hz1 .i64 .i64 _ (zs.length + F.length + 16) rfl rfl ?d1 ?d2 ?d3 ?d4 ?_)
  case d1 => omega
  case d2 => rw [hz2]; omega
  case d3 => unfold maxLen; omega
  case d4 => exact Nat.le_refl _
  intro w3 hown3 hgrow3
  have hb3 : Below w2.heap.size w2 w3 := (Below.refl _ _).grown hgrow3 (Nat.le_refl _) (fun k hk => by cases hk)
  go_wp2_with (at_builtin; refine wpList_append_own_src _ rfl _ _ 36 36 rfl w2.heap.size 5 i0 (.int .u8 0) 1 1 Tryz.underlying36 hi hz0 hz1 hz2 rfl _ 0 [] rfl hown3 (.slice a zs.length cap) zs.length (v8 zs) rfl ((h.below (hB2.trans (hb3.mono hB2.size))).src cap) ?c1 ?c2 ?c3 ?_)
  case c1 => unfold maxLen; omega
  case c2 => omega
  case c3 => exact hb3.size
  intro v4 w4 hown4 hgrow4
  have hb4 := below_grown hb3 hb3.size hown3 hgrow4
  have hown4' : w4.ownsRow w2.heap.size 5 1 v4 zs.length (v8 zs) := by simpa using hown4
  obtain ⟨b4, cp4, rfl⟩ : ∃ b cp, v4 = .slice b zs.length cp := by
    rcases hown4'.2 with ⟨rfl, h0⟩ | ⟨g, cp, cur, rfl, _⟩
    · exact ⟨none, 0, by rw [h0]⟩
    · exact ⟨_, _, rfl⟩
  clear hown3 hgrow3 hown4 hgrow4 hb3
  go_wp2_with (at_builtin; refine wpList_append_own_src _ rfl _ _ 36 36 rfl w2.heap.size 5 i0 (.int .u8 0) 1 1 Tryz.underlying36 hi hz0 hz1 hz2 rfl _ zs.length (v8 zs) rfl hown4' (.slice a2 F.length cap2) F.length (v8 F) rfl ((row2.below hb4).src cap2) ?c1 ?c2 ?c3 ?_)
  case c1 => unfold maxLen; omega
  case c2 => omega
  case c3 => exact hb4.size
  intro v5 w5 hown5 hgrow5
  have hb5 := below_grown hb4 hb4.size hown4' hgrow5
  obtain ⟨b5, cp5, rfl⟩ : ∃ b cp, v5 = .slice b (zs.length + F.length) cp := by
    rcases hown5.2 with ⟨rfl, h0⟩ | ⟨g, cp, cur, rfl, _⟩
    · exact ⟨none, 0, by rw [h0]⟩
    · exact ⟨_, _, rfl⟩
  have hR5 := htg w5 X (range_below hR2 hb5 hX2)
  have hX5 := Nat.lt_of_lt_of_le hX2 hb5.size
  have rowT : RowAt w5 (some ⟨X, 3, none⟩) t := ⟨by unfold maxLen; omega, htb, Or.inr ⟨X, 3, rfl, hX5, hR5⟩⟩
  have srcT := rowT.src 16
  rw [ht] at srcT
  have hsl := fun w0 => slice_all (P := Tryz.prog) Tryz.underlying89 isz8 X 3 (by decide) w0
  clear hown4' hgrow5 hb4 row2 hR2
  go_wp2_with (at_builtin; refine wpList_append_own_src _ rfl _ _ 36 36 rfl w2.heap.size 5 i0 (.int .u8 0) 1 1 Tryz.underlying36 hi hz0 hz1 hz2 rfl _ (zs.length + F.length) (v8 zs ++ v8 F) rfl hown5 (.slice (some ⟨X, 3, none⟩) 16 16) 16 (v8 t) rfl srcT ?c1 ?c2 ?c3 ?_)
  case c1 => unfold maxLen; omega
  case c2 => omega
  case c3 => exact hb5.size
  intro v6 w6 hown6 hgrow6
  have hb6 := below_grown hb5 hb5.size hown5 hgrow6
  go_wp2_with fail
  go_ret
  refine ⟨_, rfl, ?_, hB2.trans (hb6.mono hB2.size)⟩
  have hm := Mine.mk' (zs ++ F ++ t) hown6 (by simp [ht]; omega) (by simp [v8]) (by
    intro z hz'
    rcases List.mem_append.1 hz' with hz' | hz'
    · rcases List.mem_append.1 hz' with hz' | hz'
      · exact h.2.1 z hz'
      · exact mF z hz'
    · exact htb z hz')
  exact hm.mono' hB2.size
structure BRq where
  c : Int
  n : Int
  s : ByteArray
  t : List Int
deriving Inhabited
structure BRq.ok (r : BRq) : Prop where
  tl : r.t.length = 16
  tb : ∀ z ∈ r.t, 0 ≤ z ∧ z < 256
  sl : r.s.size ≤ maxLen
  cl : -9223372036854775808 ≤ r.c
  ch : r.c ≤ 9223372036854775807
  nl : -9223372036854775808 ≤ r.n
  nh : r.n ≤ 9223372036854775807
def BRq.cells (r : BRq) : List Value := reqL r.c r.n r.s r.t
theorem BRq.ok.length {r : BRq} (h : r.ok) : r.cells.length = 19 := by
 have := h.tl
 simp [BRq.cells, reqL, v8]
 omega
theorem BRq.one (r : BRq) : ∀ v ∈ r.cells, v.oneCell' = true := reqL_one _ _ _ _
def flatR (rs : List BRq) : List Value := rs.flatMap BRq.cells
theorem flatR_length {rs : List BRq} (h : ∀ r ∈ rs, r.ok) : (flatR rs).length = rs.length * 19 := by
 induction rs with
 | nil => rfl
 | cons r rs ih =>
  have h1 := (h r (by simp)).length
  have h2 := ih (fun x hx => h x (by simp [hx]))
  simp only [flatR, List.flatMap_cons, List.length_append, List.length_cons] at *
  omega
theorem flatR_append (a b : List BRq) : flatR (a ++ b) = flatR a ++ flatR b := by simp [flatR]
def ReqsAt (w : World) (a : Option Addr) (rs : List BRq) : Prop :=
  rs.length ≤ maxLen ∧ (∀ r ∈ rs, r.ok) ∧ (rs = [] ∨ ∃ b off, a = some ⟨b, off, none⟩ ∧ b < w.heap.size ∧ w.rangeAt b off (flatR rs))
theorem ReqsAt.below {w w' : World} {a : Option Addr} {rs : List BRq} (h : ReqsAt w a rs) (hb : Below w.heap.size w w') : ReqsAt w' a rs := by
 refine ⟨h.1, h.2.1, ?_⟩
 rcases h.2.2 with h | ⟨b, off, rfl, h1, h2⟩
 ·exact Or.inl h
 ·exact Or.inr ⟨b, off, rfl, Nat.lt_of_lt_of_le h1 hb.size, range_below h2 hb h1⟩
theorem flatR_split (rs : List BRq) (i : Nat) (hi : i < rs.length) : flatR rs = flatR (rs.take i) ++ rs[i].cells ++ flatR (rs.drop (i + 1)) := by
 have e : rs.take i ++ (rs[i] :: rs.drop (i + 1)) = rs := by rw [← List.drop_eq_getElem_cons hi, List.take_append_drop]
 have e2 := congrArg flatR e
 rw [← e2]
 simp only [flatR, List.flatMap_append, List.flatMap_cons, List.append_assoc]
theorem ReqsAt.elem {w : World} {a : Option Addr} {rs : List BRq} (h : ReqsAt w a rs) (i : Nat) (hi : i < rs.length) : ∃ b off, a = some ⟨b, off, none⟩ ∧ b < w.heap.size ∧ w.rangeAt b (off + i * 19) rs[i].cells := by
 rcases h.2.2 with h0 | ⟨b, off, rfl, h1, h2⟩
 ·subst h0; simp at hi
 ·refine ⟨b, off, rfl, h1, ?_⟩
  rw [flatR_split rs i hi] at h2
  have h3 := range_part h2
  rwa [flatR_length (fun r hr => h.2.1 r (List.mem_of_mem_take hr)), List.length_take, Nat.min_eq_left (by omega)] at h3
theorem ReqsAt.none {w : World} {a : Option Addr} : ReqsAt w a [] := ⟨by simp, by simp, .inl rfl⟩
def batV (b : Bool) (a : Option Addr) (n cap : Nat) : Value := .agg #[.bool b, .slice a n cap]
def BRq.bytes (r : BRq) : List Int := putL r.c ++ putL r.n ++ textL r.s ++ r.t
def batL (q : Bool) (rs : List BRq) : List Int := if q then putL 0 else putL ((rs.length : Int) + 1) ++ rs.flatMap BRq.bytes
theorem BRq.ok.isz {r : BRq} (h : r.ok) : (Tryz.prog.info? 91).map (·.size) = some r.cells.length := by rw [h.length]; exact iszR
theorem BRq.ok.iszA {r : BRq} (h : r.ok) : (Tryz.prog.info? 91).map (·.size) = some r.cells.toArray.size := by rw [List.size_toArray, h.length]; exact iszR
def BatBox (w : World) (b : Nat) (q : Bool) (a : Option Addr) (n cap : Nat) : Prop := b < w.heap.size ∧ w.cell? ⟨b, 0, none⟩ = some (.bool q) ∧ w.cell? ⟨b, 1, none⟩ = some (.slice a n cap) ∧ w.rangeAt b 0 [.bool q, .slice a n cap]
theorem BatBox.below {w w' : World} {b : Nat} {q : Bool} {a : Option Addr} {n cap : Nat} (h : BatBox w b q a n cap) (hb : Below w.heap.size w w') : BatBox w' b q a n cap :=
 ⟨Nat.lt_of_lt_of_le h.1 hb.size, (hb.cell (p := ⟨b, 0, none⟩) h.1).trans h.2.1, (hb.cell (p := ⟨b, 1, none⟩) h.1).trans h.2.2.1, range_below h.2.2.2 hb h.1⟩
theorem BatBox.mk (w : World) (q : Bool) (a : Option Addr) (n cap : Nat) : BatBox (w.alloc (.cells #[.bool q, .slice a n cap] 24)) w.heap.size q a n cap := by
 have := range_new w #[.bool q, .slice a n cap] 24
 exact ⟨by simp, this 0 _ rfl, this 1 _ rfl, this⟩
def batP (rs : List BRq) (k : Nat) : List Int := putL ((rs.length : Int) + 1) ++ (rs.take k).flatMap BRq.bytes
theorem batP_all (rs : List BRq) : batP rs rs.length = batL false rs := by unfold batP batL; simp
theorem putL_le (n : Int) (h : n ≤ 9223372036854775807) : (putL n).length ≤ 9 := by
 have := putL_length n (by omega)
 omega
theorem bytes_le {r : BRq} (h : r.ok) (hs : r.s.size ≤ 4000) : r.bytes.length ≤ 4100 := by
 have h1 := putL_le r.c h.ch
 have h2 := putL_le r.n h.nh
 have h3 := putL_le (r.s.size : Int) (by omega)
 have h4 := h.tl
 simp only [BRq.bytes, textL, List.length_append, strL_length]
 omega
theorem flat_le : ∀ (rs : List BRq), (∀ r ∈ rs, r.ok) → (∀ r ∈ rs, r.s.size ≤ 4000) → (rs.flatMap BRq.bytes).length ≤ rs.length * 4100
 | [], _, _ => by simp
 | r :: rs, h1, h2 => by
  have k1 := bytes_le (h1 r (by simp)) (h2 r (by simp))
  have k2 := flat_le rs (fun x hx => h1 x (by simp [hx])) (fun x hx => h2 x (by simp [hx]))
  simp only [List.flatMap_cons, List.length_append, List.length_cons]
  omega
theorem batP_le (rs : List BRq) (k : Nat) (hn : rs.length ≤ 200) (h1 : ∀ r ∈ rs, r.ok) (h2 : ∀ r ∈ rs, r.s.size ≤ 4000) : (batP rs k).length ≤ 900000 := by
 have k1 := putL_le ((rs.length : Int) + 1) (by omega)
 have k2 := flat_le (rs.take k) (fun x hx => h1 x (List.mem_of_mem_take hx)) (fun x hx => h2 x (List.mem_of_mem_take hx))
 have k3 : (rs.take k).length ≤ 200 := by rw [List.length_take]; omega
 have k4 : (rs.take k).length * 4100 ≤ 200 * 4100 := Nat.mul_le_mul_right _ k3
 simp only [batP, List.length_append]
 omega
theorem batL_le (q : Bool) (rs : List BRq) (hn : rs.length ≤ 200) (h1 : ∀ r ∈ rs, r.ok) (h2 : ∀ r ∈ rs, r.s.size ≤ 4000) : (batL q rs).length ≤ 900000 := by
 cases q with
 | false => rw [← batP_all]; exact batP_le rs _ hn h1 h2
 | true => have := putL_le 0 (by omega); simp only [batL, if_true]; omega
theorem BRq.ok.put {r : BRq} (h : r.ok) (hs : r.s.size ≤ 4000) (w : World) : Calls Tryz.prog 122 #[.slice none 0 0, .agg r.cells.toArray] w fun e w' => ∃ v, e = .returned v ∧ Mine w' w.heap.size v r.bytes ∧ Below w.heap.size w w' := by
 have := rput_any none 0 [] r.c r.n r.s r.t w (nil_row w) (by simp) h.tl h.tb h.ch h.nh (by omega)
 simpa only [List.nil_append, List.length_nil, BRq.bytes, BRq.cells] using this
end Go.Proofs.YtinndbipomlokaaGreat
namespace Go.Proofs.YtinndbipomlokaaGreat
open Go Go.RowKit
section
variable {P : Program} {ops : Array Oper} {Q : Exit → Act → World → Prop}
structure Pl (P : Program) (ops : Array Oper) (Q : Exit → Act → World → Prop) (l : List Oper) (a : Act) (w : World) : Prop where
  out : wpList P ops Q l a w
theorem pl_begin {id : Nat} {a : Act} {w : World} (h : Pl P ops Q ops.toList a w) : (Code.region id ops false).wp P Q a w := wp_region_list h.out
theorem pl_nil {a : Act} {w : World} (h : Q .normal a w) : Pl P ops Q [] a w := ⟨wpList_nil h⟩
theorem pl_take {o : Oper} {rest : List Oper} {d : Option Nat} {v : Value} {a : Act} {w : World} (hw : Region.wanted o (yielded ops a.tmps) = true) (hy : (execOp a.eval o).run P w = .ok (.value v) w) (hd : o.dst = d)
  (h : Pl P ops Q rest (a.put d v) w) : Pl P ops Q (o :: rest) a w := by
 subst hd
 refine ⟨wpList_step fun K hK => ?_⟩
 rw [if_pos hw]
 unfold Oper.wp
 rw [hy]
 exact hK _ _ h.out
theorem pl_t (d : Nat) (v : Value) {o : Oper} {rest : List Oper} {a : Act} {w : World} (hw : Region.wanted o (yielded ops a.tmps) = true) (hy : (execOp a.eval o).run P w = .ok (.value v) w) (hd : o.dst = some d) (h : Pl P ops Q rest (a.put (some d) v) w) : Pl P ops Q (o :: rest) a w := pl_take hw hy hd h
theorem pl_skip {o : Oper} {rest : List Oper} {d : Option Nat} {a : Act} {w : World} (hw : Region.wanted o (yielded ops a.tmps) = false) (hd : o.dst = d)
  (h : Pl P ops Q rest (a.put d undef) w) : Pl P ops Q (o :: rest) a w := by
 subst hd
 refine ⟨wpList_step fun K hK => ?_⟩
 rw [if_neg (by simp [hw])]
 exact hK _ _ h.out
theorem pl_run {o : Oper} {rest : List Oper} {d : Option Nat} {v : Value} {a : Act} {w w' : World} (hw : Region.wanted o (yielded ops a.tmps) = true) (hy : (execOp a.eval o).run P w = .ok (.value v) w') (hd : o.dst = d)
  (h : Pl P ops Q rest (a.put d v) w') : Pl P ops Q (o :: rest) a w := by
 subst hd
 refine ⟨wpList_step fun K hK => ?_⟩
 rw [if_pos hw]
 unfold Oper.wp
 rw [hy]
 exact hK _ _ h.out
theorem pl_call {o : Oper} {rest : List Oper} {d : Option Nat} {f : FuncId} {args : Array Value} {a : Act} {w : World} (hw : Region.wanted o (yielded ops a.tmps) = true) (hy : (execOp a.eval o).run P w = .ok (.enter f args) w) (hd : o.dst = d)
  (h : Calls P f args w fun e w' => ∃ v, e = .returned v ∧ Pl P ops Q rest (a.put d v) w') : Pl P ops Q (o :: rest) a w := by
 subst hd
 refine ⟨wpList_step fun K hK => ?_⟩
 rw [if_pos hw]
 unfold Oper.wp
 rw [hy]
 refine h.mono ?_
 rintro e w' ⟨v, rfl, hk⟩
 exact hK _ _ hk.out
theorem run_load_one (w : World) (p : Addr) (ty : TypeId) (v : Value) (d : TypeDesc) (hc : w.cell? p = some v) (hu : P.underlying ty = some d) (hd : d.isRow = false) : (loadVar ty p).run P w = .ok v w := by
 have hagg : (isAgg ty).run P w = .ok false w := by
  unfold isAgg
  rw [Sem.run_bind, run_underlying hu w]
  cases d <;> simp_all
 simp [loadVar, Sem.run_bind, hagg, load, Sem.run, hc]
theorem pl_one {o : Oper} {a : Act} {w : World} {ty : TypeId} {x : Operand} (ho : o.op = .load ty x) {p : Addr} (hx : a.eval x = .pointer (some p)) {v : Value} {d : TypeDesc} (hc : w.cell? p = some v) (hu : P.underlying ty = some d) (hd : d.isRow = false) : (execOp a.eval o).run P w = .ok (.value v) w := by
 unfold execOp
 simp only [ho, hx, Instr.loadAt, Instr.sureAddr, Sem.run_bind, Sem.run_pure, Result.andThen_ok, run_load_one w p ty v d hc hu hd]
end
end Go.Proofs.YtinndbipomlokaaGreat
namespace Go.Proofs.YtinndbipomlokaaGreat
open Go.RowKit
open Sha Tal
set_option linter.unusedVariables false
set_option linter.unusedSimpArgs false
theorem exec_load {P : Program} {o : Oper} {a : Act} {w : World} {ty : TypeId} {x : Operand} {b off : Nat} {v : Value} (ho : o.op = .load ty x) (hx : a.eval x = .pointer (some ⟨b, off, none⟩)) (hr : (loadVar ty ⟨b, off, none⟩).run P w = .ok v w) : (execOp a.eval o).run P w = .ok (.value v) w := by
 unfold execOp
 simp only [ho, hx, Instr.loadAt, Instr.sureAddr, Sem.run_bind, Sem.run_pure, Result.andThen_ok, hr]
theorem exec_store {P : Program} {o : Oper} {a : Act} {w w' : World} {ty : TypeId} {x y : Operand} {b off : Nat} {v : Value} (ho : o.op = .store ty x y) (hx : a.eval x = .pointer (some ⟨b, off, none⟩)) (hy : a.eval y = v) (hr : (storeVar ty ⟨b, off, none⟩ v).run P w = .ok () w') : (execOp a.eval o).run P w = .ok .skip w' := by
 unfold execOp
 simp only [ho, hx, hy, Instr.storeAt, Instr.sureAddr, Sem.run_bind, Sem.run_pure, Result.andThen_ok, hr]
theorem ex_mid {P : Program} {op : Oper} {a : Act} {ty : TypeId} {x : Operand} (ho : op.op = .load ty x) {b o : Nat} (hx : a.eval x = .pointer (some ⟨b, o, none⟩)) {cs : List Value} {d : TypeDesc} {w : World} (hr : w.rangeAt b o cs) (hu : P.underlying ty = some d) (hd : d.isRow = true) (hi : (P.info? ty).map (·.size) = some cs.length) : (execOp a.eval op).run P w = .ok (.value (.agg cs.toArray)) w :=
 exec_load ho hx (run_loadVar_mid w b o ty cs d hr hu hd hi)
theorem ex_put {P : Program} {o : Oper} {a : Act} {w : World} {ty : TypeId} {x y : Operand} {b off : Nat} {cs : Array Value} (ho : o.op = .store ty x y) (hx : a.eval x = .pointer (some ⟨b, off, none⟩)) (hy : a.eval y = .agg cs) (ht : w.there b off cs.size) (hi : (P.info? ty).map (·.size) = some cs.size) (h1 : cs.all (·.oneCell') = true) : (execOp a.eval o).run P w = .ok .skip (w.setCells b off cs.toList) :=
 exec_store ho hx hy (run_storeVar_mid w b off ty cs ht hi h1)
theorem ex_alloc {P : Program} {o : Oper} {a : Act} {w : World} {t : TypeId} {z : Value} (ho : o.op = .alloc t) (hz : (zeroValue t).run P w = .ok z w) : (execOp a.eval o).run P w = .ok (.value (.pointer (some ⟨w.heap.size, 0, none⟩))) (w.alloc (.cells z.cells t)) := by
 unfold execOp
 simp [ho, hz, Instr.alloc, newVar, newRow]
section
variable {P : Program} {ops : Array Oper} {Q : Exit → Act → World → Prop}
theorem pl_store {o : Oper} {rest : List Oper} {a : Act} {w w' : World} (hw : Region.wanted o (yielded ops a.tmps) = true) (hy : (execOp a.eval o).run P w = .ok .skip w') (hd : o.dst = none)
  (h : Pl P ops Q rest a w') : Pl P ops Q (o :: rest) a w := by
 refine ⟨wpList_step fun K hK => ?_⟩
 rw [if_pos hw]
 unfold Oper.wp
 rw [hy, Oper.upon_skip, hd]
 exact hK _ _ h.out
end
theorem there_newN (w : World) (arr : Array Value) (t : TypeId) {n : Nat} (h : arr.size = n) : (w.alloc (.cells arr t)).there w.heap.size 0 n := h ▸ there_new w arr t
theorem all_one {cs : List Value} (h : ∀ v ∈ cs, v.oneCell' = true) : cs.toArray.all (·.oneCell') = true := by
 rw [Array.all_eq_true_iff_forall_mem]
 intro v hv
 exact h v (by simpa using hv)
def WrOn (X : Nat) (v : Value) (zs bs : List Int) (w : World) (e : Ending) (w' : World) : Prop := ∃ v', e = .returned (.tuple #[]) ∧ WrAt w' X v' (zs ++ bs) false ∧ Off (WrF X v) w w' ∧ RowOn w v v'
theorem rowon_refl (w : World) (v : Value) : RowOn w v v := fun g hg => .inl hg
theorem WrOn.from {X : Nat} {v : Value} {zs bs : List Int} {w w1 : World} {e : Ending} {w' : World} (hb : Below w.heap.size w w1) (h : WrOn X v zs bs w1 e w') : WrOn X v zs bs w e w' := by
 obtain ⟨v', q1, q2, q3, q4⟩ := h
 have T := wr_trans (Off.of_below hb) (rowon_refl w v) q3 q4
 exact ⟨v', q1, q2, T.1, T.2⟩
def sgL (g : Sg) : List Int := putL g.n ++ g.t
def sgsL (xs : List Sg) : List Int := putL xs.length ++ xs.flatMap sgL
def evL (g : Ev) : List Int := putL g.n ++ (textL g.s ++ g.t)
def evsL (xs : List Ev) : List Int := putL xs.length ++ xs.flatMap evL
def vtL (x : Vt) : List Int := ([x.k, x.e, x.v, x.s].flatMap putL) ++ x.d
def BRq.of (r : Rq) : BRq := ⟨r.c, r.n, r.s, r.t⟩
def ctL (x : Vt) (xs : List Sg) : List Int := vtL x ++ sgsL xs
def hdL (h : Hd) : List Int := batL h.q (h.rs.xs.map BRq.of) ++ ctL h.vt h.sg.xs
def hdsL (xs : List Hd) : List Int := putL xs.length ++ xs.flatMap hdL
end Go.Proofs.YtinndbipomlokaaGreat
namespace Go.Proofs.YtinndbipomlokaaGreat
open Go.RowKit
open Sha Tal
set_option linter.unusedVariables false
set_option linter.unusedSimpArgs false
theorem iszEv : (Tryz.prog.info? 108).map (·.size) = some 18 := by kernel_rfl
theorem iszSg : (Tryz.prog.info? 110).map (·.size) = some 17 := by kernel_rfl
theorem zeroSg : ∃ z : List Value, z.length = 17 ∧ ∀ w : World, (zeroValue 110).run Tryz.prog w = .ok (.agg z.toArray) w := ⟨[.int .i64 0] ++ v8 (List.replicate 16 0), by decide, fun w => by kernel_rfl⟩
theorem zeroEv : ∃ z : List Value, z.length = 18 ∧ ∀ w : World, (zeroValue 108).run Tryz.prog w = .ok (.agg z.toArray) w := ⟨[.int .i64 0, .string ⟨#[]⟩] ++ v8 (List.replicate 16 0), by decide, fun w => by kernel_rfl⟩
theorem reqs_at {w : World} {a : Option Addr} {xs : List Rq} (h : RowsAt RqE w a xs) : ReqsAt w a (xs.map BRq.of) := by
 refine ⟨by rw [List.length_map]; exact h.1, fun r hr => ?_, ?_⟩
 ·obtain ⟨y, hy, rfl⟩ := List.mem_map.1 hr
  have k : y.ok := h.2.1 y hy
  exact ⟨k.tl, k.tb, k.sl, k.cl, k.ch, k.nl, k.nh⟩
 ·rcases h.2.2 with q | ⟨b, off, rfl, h1, h2⟩
  ·exact .inl (by rw [q]; rfl)
  ·refine .inr ⟨b, off, rfl, h1, ?_⟩
   have e : flatR (xs.map BRq.of) = xs.flatMap RqE.f := by
    unfold flatR
    rw [List.flatMap_map]
    rfl
   rw [e]
   exact h2
theorem iszBa : (Tryz.prog.info? 24).map (·.size) = some 2 := by kernel_rfl
theorem iszCe : (Tryz.prog.info? 31).map (·.size) = some 37 := by kernel_rfl
theorem iszVo : (Tryz.prog.info? 28).map (·.size) = some 36 := by kernel_rfl
theorem iszCh : (Tryz.prog.info? 60).map (·.size) = some 4 := by kernel_rfl
theorem boxed_new (w : World) (q : List Value) (t : TypeId) : Below w.heap.size w (w.alloc (.cells q.toArray t)) ∧ (w.alloc (.cells q.toArray t)).rangeAt w.heap.size 0 q ∧ w.heap.size < (w.alloc (.cells q.toArray t)).heap.size :=
 ⟨(Below.refl _ _).alloc (Nat.le_refl _) _, by simpa using range_new w q.toArray t, by simp⟩
def Mg.body (m : Mg) : List Int :=
  if m.k = 1 then [m.e, m.s].flatMap putL ++ batL m.q (m.rs.xs.map BRq.of)
  else if m.k = 2 then vtL m.vt
  else if m.k = 3 then [m.ce, m.cl, m.cv].flatMap putL ++ hdsL m.he.xs
  else if m.k = 4 then [m.e, m.l, m.v].flatMap putL ++ evsL m.ne.xs
  else if m.k = 5 then putL m.e ++ m.d
  else if m.k = 6 then [m.e, m.s].flatMap putL
  else if m.k = 7 then batL m.q (m.rs.xs.map BRq.of) ++ ctL m.ct m.cs.xs
  else textL m.st ++ sgsL m.sg.xs
def Mg.bytes (m : Mg) : List Int := putL m.k ++ m.body
structure Mg.Fine (m : Mg) : Prop where
  e : m.e ≤ 9223372036854775807
  l : m.l ≤ 9223372036854775807
  v : m.v ≤ 9223372036854775807
  s : m.s ≤ 9223372036854775807
  ce : m.ce ≤ 9223372036854775807
  cl : m.cl ≤ 9223372036854775807
  cv : m.cv ≤ 9223372036854775807
  rn : m.rs.xs.length ≤ 200
  rs : ∀ r ∈ m.rs.xs, r.s.size ≤ 4000
  hn : m.he.xs.length ≤ 1000
  he : ∀ g ∈ m.he.xs, g.sg.xs.length ≤ 1000 ∧ g.rs.xs.length ≤ 200 ∧ ∀ r ∈ g.rs.xs, r.s.size ≤ 4000
  nn : m.ne.xs.length ≤ 1000
  ne : ∀ g ∈ m.ne.xs, g.s.size ≤ 1000000
  cn : m.cs.xs.length ≤ 1000
  gn : m.sg.xs.length ≤ 1000
  st : m.st.size ≤ 1000000
  all : m.bytes.length ≤ 40000
def FOn (zs bs : List Int) (w : World) (e : Ending) (w' : World) : Prop := ∃ v, e = .returned v ∧ Mine w' w.heap.size v (zs ++ bs) ∧ Below w.heap.size w w'
theorem FOn.row {zs bs L : List Int} {w w' : World} {e : Ending} (h : FOn zs bs w e w') (hL : zs ++ bs = L) (hm : L.length ≤ 4000000) : ∃ a cap, e = .returned (.slice a L.length cap) ∧ RowAt w' a L ∧ Mine w' w.heap.size (.slice a L.length cap) L ∧ Below w.heap.size w w' := by
 subst hL
 obtain ⟨v, rfl, h1, h2⟩ := h
 obtain ⟨a, cap, rfl, _, _, hr⟩ := h1.rowAt (by unfold maxLen; omega)
 exact ⟨a, cap, rfl, hr, h1, h2⟩
theorem ms_bat {m : Mg} {w : World} {b : Nat} (h : m.ms.at w b) : w.rangeAt b 5 [.bool m.q, m.rs.val] := fun j u hj => by
 rcases j with _ | _ | j
 ·cases hj; exact h.q
 ·cases hj; exact h.rs
 ·cases hj
theorem Mg.good_k {m : Mg} (h : m.good = true) : 1 ≤ m.k ∧ m.k ≤ 8 := by
 unfold Mg.good at h
 rw [Bool.and_eq_true] at h
 exact of_decide_eq_true h.1
structure Bat where
  q : Bool
  a : Option Addr
  cap : Nat
  rs : List BRq
def Bat.cells (x : Bat) : List Value := [.bool x.q, .slice x.a x.rs.length x.cap]
def Bat.at (x : Bat) (w : World) : Prop := ReqsAt w x.a x.rs ∧ True ∧ True
theorem Bat.at.below {x : Bat} {w w' : World} (h : x.at w) (hb : Below w.heap.size w w') : x.at w' := ⟨h.1.below hb, h.2.1, h.2.2⟩
def BatsAt (w : World) (b : Nat) (xs : List Bat) : Prop := xs.length ≤ 2 ∧ (∀ x ∈ xs, x.at w) ∧ b < w.heap.size ∧ w.rangeAt b 0 (xs.flatMap Bat.cells)
theorem BatsAt.below {w w' : World} {b : Nat} {xs : List Bat} (h : BatsAt w b xs) (hb : Below w.heap.size w w') : BatsAt w' b xs :=
 ⟨h.1, fun x hx => (h.2.1 x hx).below hb, Nat.lt_of_lt_of_le h.2.2.1 hb.size, range_below h.2.2.2 hb h.2.2.1⟩
theorem BatsAt.cell {w : World} {b : Nat} {xs : List Bat} (h : BatsAt w b xs) (k : Nat) (hk : k < xs.length) : w.cell? ⟨b, k * 2 + 1, none⟩ = some (.slice xs[k].a xs[k].rs.length xs[k].cap) := by
 have h4 := h.2.2.2
 have h1 := h.1
 match xs, k, hk, h4 with
 | [x], 0, _, h4 => exact h4 1 _ rfl
 | [x, y], 0, _, h4 => exact h4 1 _ rfl
 | [x, y], 1, _, h4 => exact h4 3 _ rfl
 | x :: y :: z :: l, _, _, _ => simp at h1
set_option maxHeartbeats 1600000 in
theorem raw_big (R : Nat) (rest : List Int) (e n : Int) (w : World) (h : St w R rest e) (hl : rest.length ≤ 40000) :
  Calls Tryz.prog 143 #[.pointer (some ⟨R, 0, none⟩), .int .i64 n] w fun en w' => ∃ v, en = .returned v ∧ Mine w' w.heap.size v (rawS rest e n).1 ∧ St w' R (rawS rest e n).2.1 (rawS rest e n).2.2 ∧ w.grownBy w' (some R) := by
 by_cases he : e = 0
 ·subst he
  by_cases hn : n < 0
  ·have HS : Hid (rawS rest 0 n = ([], rest, 2)) := by show _ = _; unfold rawS; rw [if_pos rfl, if_pos hn]
   go_enter Tryz.func143, Tryz.ntmps143
   go_wp2_with fail
   refine (err_made R 0 w h.1).mono ?_
   rintro en w1 ⟨rfl, rfl⟩
   go_wp2_with fail
   refine (fail_any R 0 2 w1 h.1).mono ?_
   rintro en w2 ⟨rfl, hE2, hg2⟩
   go_wp2_with fail
   go_ret
   rw [HS.out]
   exact ⟨_, rfl, Mine.nil _ _, ⟨hE2, fun h => by cases h⟩, hg2⟩
  ·by_cases hf : (rest.length : Int) < n
   ·have HS : Hid (rawS rest 0 n = ([], rest, 10)) := by show _ = _; unfold rawS; rw [if_pos rfl, if_neg hn, if_pos hf]
    go_enter Tryz.func143, Tryz.ntmps143
    go_wp2_with fail
    refine (err_made R 0 w h.1).mono ?_
    rintro en w1 ⟨rfl, rfl⟩
    go_wp2_with fail
    refine (next_few R rest n w1 h hf).mono ?_
    rintro en w2 ⟨rfl, hS2, hg2⟩
    have cc := clone_any none 0 [] w2 (nil_row w2) (by simp)
    simp only [List.length_nil] at cc
    go_wp2_with fail
    refine cc.mono ?_
    rintro en w3 ⟨v, rfl, hm, hb⟩
    go_wp2_with fail
    go_ret
    rw [HS.out]
    exact ⟨_, rfl, hm.mono' hg2.size, hS2.below hb, gb_trans hg2 (gb_below hb _)⟩
   ·have HS : Hid (rawS rest 0 n = (rest.take n.toNat, rest.drop n.toNat, 0)) := by show _ = _; unfold rawS; rw [if_pos rfl, if_neg hn, if_neg hf]
    go_enter Tryz.func143, Tryz.ntmps143
    go_wp2_with fail
    refine (err_made R 0 w h.1).mono ?_
    rintro en w1 ⟨rfl, rfl⟩
    go_wp2_with fail
    refine (next_there R rest n w1 h (by omega) (by omega)).mono ?_
    rintro en w2 ⟨a, cap, rfl, hca, hra, hS2, hg2⟩
    have cc := clone_any a cap (rest.take n.toNat) w2 hra (by rw [List.length_take]; omega)
    rw [List.length_take_of_le (by omega)] at cc
    go_wp2_with fail
    refine cc.mono ?_
    rintro en w3 ⟨v, rfl, hm, hb⟩
    go_wp2_with fail
    go_ret
    rw [HS.out]
    exact ⟨_, rfl, hm.mono' hg2.size, hS2.below hb, gb_trans hg2 (gb_below hb _)⟩
 ·have HS : Hid (rawS rest e n = ([], rest, e)) := by show _ = _; unfold rawS; rw [if_neg he]
  have he' : (e == 0) = false := by simpa using he
  go_enter Tryz.func143, Tryz.ntmps143
  go_wp2_with fail
  refine (err_made R e w h.1).mono ?_
  rintro en w1 ⟨rfl, rfl⟩
  go_wp2_with fail
  go_ret
  rw [HS.out]
  exact ⟨_, rfl, Mine.nil _ _, h, gb_refl _ _⟩
theorem gb_onR {w W W' : World} {R B : Nat} (h : w.grownBy W (some R)) (hb : Below B W W') (hB : w.heap.size ≤ B) : w.grownBy W' (some R) :=
 ⟨hb.os.trans h.os, hb.tape.trans h.tape, hb.output.trans h.output, Nat.le_trans h.size hb.size, fun i hi hr => (hb.block i (by omega)).trans (h.block i hi hr)⟩
theorem gb_setsR (W : World) (b : Nat) : ∀ (vs : List Value) (o : Nat), W.grownBy (W.setCells b o vs) (some b) := by
 intro vs
 induction vs generalizing W with
 | nil => intro o; exact gb_refl _ _
 | cons v vs ih => intro o; exact gb_trans (gb_set W b o v) (ih _ (o + 1))
theorem range_gbR {w w' : World} {R b : Nat} {cs : List Value} (h : w.rangeAt b 0 cs) (hg : w.grownBy w' (some R)) (hb : b < w.heap.size) (hne : b ≠ R) : w'.rangeAt b 0 cs := fun j v hv => by
 rw [(@cell_block w w' b (0 + j) (hg.block b hb (by intro q; injection q with q; exact hne q))).1]
 exact h j v hv
theorem there_gbR {w w' : World} {R b n : Nat} (h : w.there b 0 n) (hg : w.grownBy w' (some R)) (hb : b < w.heap.size) (hne : b ≠ R) : w'.there b 0 n := fun j hj => by
 have hk := @cell_block w w' b (0 + j) (hg.block b hb (by intro q; injection q with q; exact hne q))
 exact ⟨by rw [hk.1]; exact (h j hj).1, by rw [hk.2]; exact (h j hj).2⟩
theorem exec_copy {P : Program} {o : Oper} {a : Act} {w w' : World} {s x : Operand} {t tx : TypeId} {v xv v' : Value} (ho : o.op = .call { callee := .builtin .copy, args := #[s, x], argTypes := #[t, tx] }) (hv : a.eval s = v) (hx : a.eval x = xv)
  (hr : (Builtin.copy_ #[t, tx] o.type #[v, xv]).run P w = .ok v' w') : (execOp a.eval o).run P w = .ok (.value v') w' := by
 unfold execOp
 simp only [ho, resolve, invoke, builtin, Sem.run_bind, Sem.run_pure, Result.andThen_ok, List.map_toArray, List.map_cons, List.map_nil, hv, hx, hr]
theorem numS_len (rest : List Int) (e most : Int) : (numS rest e most).2.1.length ≤ rest.length := by
 unfold numS
 split
 ·split
  ·split
   ·exact Nat.le_refl _
   ·show (rest.drop _).length ≤ _; rw [List.length_drop]; omega
  ·exact Nat.le_refl _
 ·exact Nat.le_refl _
theorem textS_len (rest : List Int) (e most : Int) : (textS rest e most).2.1.length ≤ rest.length := by
 have h := numS_len rest e 9223372036854775807
 unfold textS
 split
 ·split
  ·exact Nat.le_refl _
  ·split
   ·exact Nat.le_refl _
   ·show ((numS rest e 9223372036854775807).2.1.drop _).length ≤ _; rw [List.length_drop]; omega
 ·exact Nat.le_refl _
def padN (n : Nat) (zs : List Int) : List Int := if zs.length = n then zs else List.replicate n 0
theorem rawS_len (rest : List Int) (e n : Int) : (rawS rest e n).2.1.length ≤ rest.length := by
 unfold rawS
 split
 ·split
  ·exact Nat.le_refl _
  ·split
   ·exact Nat.le_refl _
   ·show (rest.drop _).length ≤ _; rw [List.length_drop]; omega
 ·exact Nat.le_refl _
theorem rawS_N (rest : List Int) (e : Int) (n : Nat) : (rawS rest e n).1.length = n ∨ (rawS rest e n).1 = [] := by
 unfold rawS
 split
 ·split
  ·exact .inr rfl
  ·split
   ·exact .inr rfl
   ·left; show (rest.take _).length = n; rw [List.length_take]; omega
 ·exact .inr rfl
theorem copy_pad {w : World} {B n : Nat} {a : Option Addr} {cap : Nat} {t : List Int} (h0 : 0 < n) (hT : w.there B 0 n) (hz : w.rangeAt B 0 (v8 (List.replicate n (0 : Int)))) (hrow : RowAt w a t) (ht : t.length = n ∨ t = []) :
  ∃ w', (Builtin.copy_ #[36, 36] 3 #[.slice (some ⟨B, 0, none⟩) n n, .slice a t.length cap]).run Tryz.prog w = .ok (goInt t.length) w' ∧ w'.rangeAt B 0 (v8 (padN n t)) ∧ w' = w.setCells B 0 (v8 t) := by
 rcases ht with ht | rfl
 ·rcases hrow.2.2 with rfl | ⟨b, off, rfl, hb, hr⟩
  ·exfalso; simp at ht; omega
  ·refine ⟨_, ?_, ?_, rfl⟩
   ·have := run_copy_cells (P := Tryz.prog) w 36 36 3 5 B 0 n n ⟨b, off, none⟩ t.length cap (v8 t) Tryz.underlying36 isz8 (by rw [v8_length, ht]; exact (Nat.min_self _).symm) (fun j v hv => by rw [Addr.add_mid]; exact hr j v hv) (fun j hj => by rw [v8_length] at hj; exact (hT j (by omega)).1) (fun j hj => by rw [v8_length] at hj; exact (hT j (by omega)).2) (v8_one _)
    rw [v8_length] at this
    exact this
   ·unfold padN
    rw [if_pos ht]
    exact World.rangeAt_setCells_same w B 0 (v8 t) (by rw [v8_length, ht]; exact hT)
 ·refine ⟨w, run_copy_none (P := Tryz.prog) w 36 36 3 5 _ a n n 0 cap Tryz.underlying36 isz8 (by simp), ?_, rfl⟩
  unfold padN
  rw [if_neg (by simp; omega)]
  exact hz
theorem padN_len (n : Nat) (zs : List Int) : (padN n zs).length = n := by
 unfold padN
 split
 ·assumption
 ·simp
theorem there_belowN {w w' : World} {b n : Nat} (h : w.there b 0 n) (hb : Below w.heap.size w w') (hlt : b < w.heap.size) : w'.there b 0 n := there_blk h (hb.block b hlt)
theorem blk_sets {w : World} {b q o : Nat} {vs : List Value} (h : q ≠ b) : (w.setCells b o vs).heap[q]? = w.heap[q]? := by
 by_cases hq : q < w.heap.size
 ·exact (gb_setsR w b vs o).block q hq (by intro e; injection e with e; exact h e)
 ·have h1 : w.heap.size ≤ q := by omega
  rw [Array.getElem?_eq_none (by rw [size_sets]; exact h1), Array.getElem?_eq_none h1]
set_option maxRecDepth 100000 in
set_option maxHeartbeats 1000000 in
theorem rtag_any (Q R : Nat) (z : Bool) (rest : List Int) (e : Int) (w : World) (h : St w R rest e) (hq : MrAt w Q R z) (hl : rest.length ≤ 40000) : Calls Tryz.prog 160 #[.pointer (some ⟨Q, 0, none⟩)] w fun en w' => en = .returned (.agg (v8 (padN 16 (rawS rest e 16).1)).toArray) ∧ St w' R (rawS rest e 16).2.1 (rawS rest e 16).2.2 ∧ w.grownBy w' (some R) := by
 obtain ⟨zc, hzc, hzr⟩ : ∃ zc : List Value, Hid (zc = v8 (List.replicate 16 (0 : Int))) ∧ ∀ w' : World, (zeroValue 89).run Tryz.prog w' = .ok (.agg zc.toArray) w' := ⟨_, hide rfl, fun w => by kernel_rfl⟩
 have hRw := h.1.1
 have hQw := hq.lt
 obtain ⟨hB1, hr1, hs1⟩ := boxed_new w zc 89
 have ht1 := there_newN w zc.toArray 89 (n := 16) (by rw [hzc.out]; simp)
 have hip : (Tryz.prog.info? 89).map (·.size) = some (v8 (padN 16 (rawS rest e 16).1)).length := by rw [v8_length, padN_len]; kernel_rfl
 have hp1 := v8_one (padN 16 (rawS rest e 16).1)
 have hpl : (v8 (padN 16 (rawS rest e 16).1)).length = 16 := by rw [v8_length, padN_len]
 obtain ⟨pc, hpc⟩ : ∃ p, Hid (v8 (padN 16 (rawS rest e 16).1) = p) := ⟨_, hide rfl⟩
 rw [hpc.out] at hip hp1 hpl ⊢
 go_enter Tryz.func160, Tryz.ntmps160
 go_upto_region 0 with fail
 try simp only [Act.put]
 refine pl_begin ?_
 refine pl_run (d := some 2) (v := .pointer (some ⟨w.heap.size, 0, none⟩)) (w' := w.alloc (.cells zc.toArray 89)) (by rfl) (ex_alloc rfl (hzr _)) rfl ?_
 simp only [nz]
 refine pl_nil ?_
 obtain ⟨W1, hW1⟩ : ∃ W, w.alloc (.cells zc.toArray 89) = W := ⟨_, rfl⟩
 rw [hW1] at hB1 hr1 hs1 ht1 ⊢
 clear hW1
 obtain ⟨hB2, hr2, hs2⟩ := boxed_new W1 zc 89
 have ht2 := there_newN W1 zc.toArray 89 (n := 16) (by rw [hzc.out]; simp)
 go_upto_region 1 with fail
 try simp only [Act.put]
 refine pl_begin ?_
 refine pl_run (d := some 3) (v := .pointer (some ⟨W1.heap.size, 0, none⟩)) (w' := W1.alloc (.cells zc.toArray 89)) (by rfl) (ex_alloc rfl (hzr _)) rfl ?_
 simp only [nz]
 refine pl_nil ?_
 obtain ⟨W2, hW2⟩ : ∃ W, W1.alloc (.cells zc.toArray 89) = W := ⟨_, rfl⟩
 rw [hW2] at hB2 hr2 hs2 ht2 ⊢
 clear hW2
 rw [hzc.out] at hr2
 have thA0 := there_belowN ht1 hB2 hs1
 have hBW := hB1.trans (hB2.mono hB1.size)
 clear hr1 ht1 hzr hzc
 go_upto_region 2 with fail
 have hB8 : Below w.heap.size w W2.drew := hBW.drew
 have rz8 : W2.drew.rangeAt W1.heap.size 0 _ := (World.rangeAt_drew _ _ _ _).2 hr2
 have th8 : W2.drew.there W1.heap.size 0 16 := ht2
 have thA8 : W2.drew.there w.heap.size 0 16 := thA0
 have hB1' : W1.heap.size < W2.drew.heap.size := hs2
 refine hs_begin (S := (fun W' => MrAt W' Q R z)) 7 rfl (by kernel_rfl) ?_
 obtain ⟨w8, hw8⟩ : ∃ W, W2.drew = W := ⟨_, rfl⟩
 rw [hw8] at hB8 rz8 th8 thA8 hB1' ⊢
 clear hw8 hr2 ht2 thA0 hBW hs2 hB2
 have st8 := h.below hB8
 have hq8 := hq.below hB8
 have hne1 : W1.heap.size ≠ R := by omega
 have hS : (fun W' => MrAt W' Q R z) w8 := hq8
 refine hs_t 0 4 (?_) rfl (by kernel_rfl) (by kernel_rfl) (by kernel_rfl) (by rfl) ?_ hS rfl ?_
 rotate_left
 ·intro w' hw
  go_simp
  try with_reducible rfl
 simp only [nz]
 refine hs_t 1 5 (?_) rfl (by kernel_rfl) (by kernel_rfl) (by kernel_rfl) (by rfl) ?_ hS rfl ?_
 rotate_left
 ·intro w' hw
  go_simp
  try with_reducible rfl
 simp only [nz]
 refine hs_t 2 6 (?_) rfl (by kernel_rfl) (by kernel_rfl) (by kernel_rfl) (by rfl) ?_ hS rfl ?_
 rotate_left
 ·intro w' hw
  go_simp
  try with_reducible rfl
 simp only [nz]
 refine hs_t 3 7 (?_) rfl (by kernel_rfl) (by kernel_rfl) (by kernel_rfl) (by rfl) ?_ hS rfl ?_
 rotate_left
 ·intro w' hw
  go_simp
  try with_reducible rfl
 simp only [nz]
 refine hs_t 4 8 (.pointer (some ⟨R, 0, none⟩)) rfl (by kernel_rfl) (by kernel_rfl) (by kernel_rfl) (by rfl) (fun w' hw => pl_one rfl rfl hw.c0 Tryz.underlying72 rfl) hS rfl ?_
 simp only [nz]
 refine hs_call (i := 5) (d := some 9) rfl (by kernel_rfl) (by rfl) (by go_simp; first | done | exact ⟨rfl, rfl⟩ | with_reducible rfl) rfl ?_
 refine (raw_big R rest e 16 w8 st8 hl).mono ?_
 rintro _ w9 ⟨v9, rfl, m9, st9, g9⟩
 have hS : (fun W' => MrAt W' Q R z) w9 := hq8.gb g9
 refine ⟨_, rfl, hS, ?_⟩
 obtain ⟨av, cv, hve, _, _, row9⟩ := m9.rowAt (by unfold maxLen; have hN : (rawS rest e 16).1.length = 16 ∨ (rawS rest e 16).1 = [] := rawS_N rest e 16; rcases hN with h | h <;> (rw [h]; simp))
 rw [hve]
 obtain ⟨wc, hcp, hrc, hwc⟩ := copy_pad (n := 16) (cap := cv) (by decide) (there_gbR th8 g9 hB1' hne1) (range_gbR rz8 g9 hB1' hne1) row9 (rawS_N rest e 16)
 clear hve
 simp only [nz]
 have hSc : (fun W' => MrAt W' Q R z) wc := by rw [hwc]; exact (hq8.gb g9).at (blk_sets (by omega)) (by rw [size_sets]; exact Nat.le_refl _)
 refine hs_run (i := 6) (d := some 10) (v := goInt (rawS rest e 16).1.length) (w' := wc) rfl (by kernel_rfl) (by rfl) (exec_copy rfl rfl rfl hcp) rfl hSc ?_
 simp only [nz]
 refine hs_done (by kernel_rfl) ?_
 have g8 : w.grownBy w8 (some R) := gb_below hB8 _
 have g9' := gb_trans g8 g9
 have hlow : Below w.heap.size w9 wc := by rw [hwc]; exact below_sets (by omega) _ _ _ (Below.refl _ _)
 have thA : wc.there w.heap.size 0 16 := by rw [hwc]; exact World.there_setCells (there_gbR thA8 g9 (by omega) (by omega)) _ _ _
 have gc := gb_onR g9' hlow (Nat.le_refl _)
 have sc : St wc R _ _ := st9.belowN hlow hRw
 rw [hpc.out] at hrc
 clear hwc hcp m9 row9 st8 hq8 g9 g8 st9 hlow hS rz8 th8 thA8 hB8 hpc
 go_upto_region 3 with fail
 try simp only [Act.put]
 refine pl_begin ?_
 refine pl_t 11 (.agg pc.toArray) (by rfl) (ex_mid rfl rfl hrc Tryz.underlying89 rfl hip) rfl ?_
 simp only [nz]
 refine pl_store (w' := wc.setCells w.heap.size 0 pc) (by rfl) (ex_put (cs := pc.toArray) rfl rfl rfl (by simpa [hpl] using thA) (by simpa using hip) (all_one hp1)) rfl ?_
 refine pl_nil ?_
 have hrs := run_loadVar_mid (P := Tryz.prog) (wc.setCells w.heap.size 0 pc) w.heap.size 0 89 pc _ (World.rangeAt_setCells_same wc w.heap.size 0 pc (by rw [hpl]; exact thA)) Tryz.underlying89 rfl hip
 have gf := gb_onR gc (below_sets (B := w.heap.size) (b := w.heap.size) (Nat.le_refl _) pc 0 _ (Below.refl _ wc)) (Nat.le_refl _)
 have sf : St (wc.setCells w.heap.size 0 pc) R _ _ := sc.belowN (n := w.heap.size) (below_sets (Nat.le_refl _) pc 0 _ (Below.refl _ wc)) hRw
 clear sc gc
 go_wp2_with fail
 refine bodyPost_ret (v := .agg pc.toArray) ?_ rfl ?_
 ·simp [results, Tryz.results160, Act.put, asAddr, hrs]
 ·exact ⟨rfl, sf, gf⟩
set_option maxRecDepth 100000 in
set_option maxHeartbeats 1000000 in
theorem rdigest_any (Q R : Nat) (z : Bool) (rest : List Int) (e : Int) (w : World) (h : St w R rest e) (hq : MrAt w Q R z) (hl : rest.length ≤ 40000) : Calls Tryz.prog 149 #[.pointer (some ⟨Q, 0, none⟩)] w fun en w' => en = .returned (.agg (v8 (padN 32 (rawS rest e 32).1)).toArray) ∧ St w' R (rawS rest e 32).2.1 (rawS rest e 32).2.2 ∧ w.grownBy w' (some R) := by
 obtain ⟨zc, hzc, hzr⟩ : ∃ zc : List Value, Hid (zc = v8 (List.replicate 32 (0 : Int))) ∧ ∀ w' : World, (zeroValue 26).run Tryz.prog w' = .ok (.agg zc.toArray) w' := ⟨_, hide rfl, fun w => by kernel_rfl⟩
 have hRw := h.1.1
 have hQw := hq.lt
 obtain ⟨hB1, hr1, hs1⟩ := boxed_new w zc 26
 have ht1 := there_newN w zc.toArray 26 (n := 32) (by rw [hzc.out]; simp)
 have hip : (Tryz.prog.info? 26).map (·.size) = some (v8 (padN 32 (rawS rest e 32).1)).length := by rw [v8_length, padN_len]; kernel_rfl
 have hp1 := v8_one (padN 32 (rawS rest e 32).1)
 have hpl : (v8 (padN 32 (rawS rest e 32).1)).length = 32 := by rw [v8_length, padN_len]
 obtain ⟨pc, hpc⟩ : ∃ p, Hid (v8 (padN 32 (rawS rest e 32).1) = p) := ⟨_, hide rfl⟩
 rw [hpc.out] at hip hp1 hpl ⊢
 go_enter Tryz.func149, Tryz.ntmps149
 go_upto_region 0 with fail
 try simp only [Act.put]
 refine pl_begin ?_
 refine pl_run (d := some 2) (v := .pointer (some ⟨w.heap.size, 0, none⟩)) (w' := w.alloc (.cells zc.toArray 26)) (by rfl) (ex_alloc rfl (hzr _)) rfl ?_
 simp only [nz]
 refine pl_nil ?_
 obtain ⟨W1, hW1⟩ : ∃ W, w.alloc (.cells zc.toArray 26) = W := ⟨_, rfl⟩
 rw [hW1] at hB1 hr1 hs1 ht1 ⊢
 clear hW1
 obtain ⟨hB2, hr2, hs2⟩ := boxed_new W1 zc 26
 have ht2 := there_newN W1 zc.toArray 26 (n := 32) (by rw [hzc.out]; simp)
 go_upto_region 1 with fail
 try simp only [Act.put]
 refine pl_begin ?_
 refine pl_run (d := some 3) (v := .pointer (some ⟨W1.heap.size, 0, none⟩)) (w' := W1.alloc (.cells zc.toArray 26)) (by rfl) (ex_alloc rfl (hzr _)) rfl ?_
 simp only [nz]
 refine pl_nil ?_
 obtain ⟨W2, hW2⟩ : ∃ W, W1.alloc (.cells zc.toArray 26) = W := ⟨_, rfl⟩
 rw [hW2] at hB2 hr2 hs2 ht2 ⊢
 clear hW2
 rw [hzc.out] at hr2
 have thA0 := there_belowN ht1 hB2 hs1
 have hBW := hB1.trans (hB2.mono hB1.size)
 clear hr1 ht1 hzr hzc
 go_upto_region 2 with fail
 have hB8 : Below w.heap.size w W2.drew := hBW.drew
 have rz8 : W2.drew.rangeAt W1.heap.size 0 _ := (World.rangeAt_drew _ _ _ _).2 hr2
 have th8 : W2.drew.there W1.heap.size 0 32 := ht2
 have thA8 : W2.drew.there w.heap.size 0 32 := thA0
 have hB1' : W1.heap.size < W2.drew.heap.size := hs2
 refine hs_begin (S := (fun W' => MrAt W' Q R z)) 7 rfl (by kernel_rfl) ?_
 obtain ⟨w8, hw8⟩ : ∃ W, W2.drew = W := ⟨_, rfl⟩
 rw [hw8] at hB8 rz8 th8 thA8 hB1' ⊢
 clear hw8 hr2 ht2 thA0 hBW hs2 hB2
 have st8 := h.below hB8
 have hq8 := hq.below hB8
 have hne1 : W1.heap.size ≠ R := by omega
 have hS : (fun W' => MrAt W' Q R z) w8 := hq8
 refine hs_t 0 4 (?_) rfl (by kernel_rfl) (by kernel_rfl) (by kernel_rfl) (by rfl) ?_ hS rfl ?_
 rotate_left
 ·intro w' hw
  go_simp
  try with_reducible rfl
 simp only [nz]
 refine hs_t 1 5 (?_) rfl (by kernel_rfl) (by kernel_rfl) (by kernel_rfl) (by rfl) ?_ hS rfl ?_
 rotate_left
 ·intro w' hw
  go_simp
  try with_reducible rfl
 simp only [nz]
 refine hs_t 2 6 (?_) rfl (by kernel_rfl) (by kernel_rfl) (by kernel_rfl) (by rfl) ?_ hS rfl ?_
 rotate_left
 ·intro w' hw
  go_simp
  try with_reducible rfl
 simp only [nz]
 refine hs_t 3 7 (?_) rfl (by kernel_rfl) (by kernel_rfl) (by kernel_rfl) (by rfl) ?_ hS rfl ?_
 rotate_left
 ·intro w' hw
  go_simp
  try with_reducible rfl
 simp only [nz]
 refine hs_t 4 8 (.pointer (some ⟨R, 0, none⟩)) rfl (by kernel_rfl) (by kernel_rfl) (by kernel_rfl) (by rfl) (fun w' hw => pl_one rfl rfl hw.c0 Tryz.underlying72 rfl) hS rfl ?_
 simp only [nz]
 refine hs_call (i := 5) (d := some 9) rfl (by kernel_rfl) (by rfl) (by go_simp; first | done | exact ⟨rfl, rfl⟩ | with_reducible rfl) rfl ?_
 refine (raw_big R rest e 32 w8 st8 hl).mono ?_
 rintro _ w9 ⟨v9, rfl, m9, st9, g9⟩
 have hS : (fun W' => MrAt W' Q R z) w9 := hq8.gb g9
 refine ⟨_, rfl, hS, ?_⟩
 obtain ⟨av, cv, hve, _, _, row9⟩ := m9.rowAt (by unfold maxLen; have hN : (rawS rest e 32).1.length = 32 ∨ (rawS rest e 32).1 = [] := rawS_N rest e 32; rcases hN with h | h <;> (rw [h]; simp))
 rw [hve]
 obtain ⟨wc, hcp, hrc, hwc⟩ := copy_pad (n := 32) (cap := cv) (by decide) (there_gbR th8 g9 hB1' hne1) (range_gbR rz8 g9 hB1' hne1) row9 (rawS_N rest e 32)
 clear hve
 simp only [nz]
 have hSc : (fun W' => MrAt W' Q R z) wc := by rw [hwc]; exact (hq8.gb g9).at (blk_sets (by omega)) (by rw [size_sets]; exact Nat.le_refl _)
 refine hs_run (i := 6) (d := some 10) (v := goInt (rawS rest e 32).1.length) (w' := wc) rfl (by kernel_rfl) (by rfl) (exec_copy rfl rfl rfl hcp) rfl hSc ?_
 simp only [nz]
 refine hs_done (by kernel_rfl) ?_
 have g8 : w.grownBy w8 (some R) := gb_below hB8 _
 have g9' := gb_trans g8 g9
 have hlow : Below w.heap.size w9 wc := by rw [hwc]; exact below_sets (by omega) _ _ _ (Below.refl _ _)
 have thA : wc.there w.heap.size 0 32 := by rw [hwc]; exact World.there_setCells (there_gbR thA8 g9 (by omega) (by omega)) _ _ _
 have gc := gb_onR g9' hlow (Nat.le_refl _)
 have sc : St wc R _ _ := st9.belowN hlow hRw
 rw [hpc.out] at hrc
 clear hwc hcp m9 row9 st8 hq8 g9 g8 st9 hlow hS rz8 th8 thA8 hB8 hpc
 go_upto_region 3 with fail
 try simp only [Act.put]
 refine pl_begin ?_
 refine pl_t 11 (.agg pc.toArray) (by rfl) (ex_mid rfl rfl hrc Tryz.underlying26 rfl hip) rfl ?_
 simp only [nz]
 refine pl_store (w' := wc.setCells w.heap.size 0 pc) (by rfl) (ex_put (cs := pc.toArray) rfl rfl rfl (by simpa [hpl] using thA) (by simpa using hip) (all_one hp1)) rfl ?_
 refine pl_nil ?_
 have hrs := run_loadVar_mid (P := Tryz.prog) (wc.setCells w.heap.size 0 pc) w.heap.size 0 26 pc _ (World.rangeAt_setCells_same wc w.heap.size 0 pc (by rw [hpl]; exact thA)) Tryz.underlying26 rfl hip
 have gf := gb_onR gc (below_sets (B := w.heap.size) (b := w.heap.size) (Nat.le_refl _) pc 0 _ (Below.refl _ wc)) (Nat.le_refl _)
 have sf : St (wc.setCells w.heap.size 0 pc) R _ _ := sc.belowN (n := w.heap.size) (below_sets (Nat.le_refl _) pc 0 _ (Below.refl _ wc)) hRw
 clear sc gc
 go_wp2_with fail
 refine bodyPost_ret (v := .agg pc.toArray) ?_ rfl ?_
 ·simp [results, Tryz.results149, Act.put, asAddr, hrs]
 ·exact ⟨rfl, sf, gf⟩
set_option maxHeartbeats 800000 in
theorem refRead_any (a : Option Addr) (cap : Nat) (zs : List Int) (w : World) (h : RowAt w a zs) (hl : zs.length ≤ 40000) :
  Calls Tryz.prog 39 #[.slice a zs.length cap] w fun e w' => ∃ X, e = .returned (.pointer (some ⟨X, 0, none⟩)) ∧ w.heap.size ≤ X ∧ RSt w.heap.size w' X zs 0 ∧ Below w.heap.size w w' := by
 obtain ⟨i0, hi, hz0, hz1, hz2⟩ := info_parts info8
 go_enter Tryz.func39, Tryz.ntmps39
 go_wp2_with (at_builtin; refine wpList_append_own_src _ rfl _ _ 36 36 rfl w.heap.size 5 i0 (.int .u8 0) 1 1 Tryz.underlying36 hi hz0 hz1 hz2 rfl _ 0 [] rfl (World.ownsRow_made w #[] 0 (Nat.le_refl _) (by simp) (by simp)) (.slice a zs.length cap) zs.length (zs.map (Value.int .u8)) rfl ((h.below ((Below.refl _ _).alloc (Nat.le_refl _) _)).src cap) ?c1 ?c2 ?c3 ?_)
 case c1 => unfold maxLen; omega
 case c2 => omega
 case c3 => simp
 intro v' w1 hown hgrow
 have hb : Below w.heap.size w w1 := ((Below.refl _ _).alloc (Nat.le_refl _) _).grown hgrow (by simp) (fun k hk => by simp [Value.ownBlock] at hk; omega)
 have hmine : Mine w1 w.heap.size v' zs := ⟨by simpa using hown, h.2.1⟩
 clear hown hgrow
 obtain ⟨a', cap', rfl, hc1, hc2, hr⟩ := hmine.rowAt (by unfold maxLen; omega)
 have hblk : ∀ x, a' = some x → w.heap.size ≤ x.block ∧ x.block < w1.heap.size := fun x hx => hmine.1.lt x.block (by simp [hx, Value.ownBlock])
 have hb2 : Below w1.heap.size w1 (w1.alloc (.cells #[.slice a' zs.length cap', .int .i64 0, .int .i64 0] 120)) := (Below.refl _ _).alloc (Nat.le_refl _) _
 have hSt : RSt w.heap.size (w1.alloc (.cells #[.slice a' zs.length cap', .int .i64 0, .int .i64 0] 120)) w1.heap.size zs 0 := by
  have cs : ∀ j, (w1.alloc (.cells #[.slice a' zs.length cap', .int .i64 0, .int .i64 0] 120)).cell? ⟨w1.heap.size, j, none⟩ = (#[.slice a' zs.length cap', .int .i64 0, .int .i64 0] : Array Value)[j]? := fun j => World.cell?_alloc_at _ _ _ _ rfl
  have fs : ∀ j, (w1.alloc (.cells #[.slice a' zs.length cap', .int .i64 0, .int .i64 0] 120)).frozen? ⟨w1.heap.size, j, none⟩ = false := fun j => World.frozen?_alloc_at _ _ _ _ rfl
  exact ⟨zs, 0, ⟨by simp, ⟨a', cap', cs 0, hc1, hc2, hr.below hb2, hblk⟩, cs 1, cs 2, fs 0, fs 1, fs 2, Nat.zero_le _, hl⟩, fun _ => rfl⟩
 go_wp2_with fail
 go_ret
 exact ⟨_, rfl, hb.size, hSt, hb.trans (hb2.mono hb.size)⟩
end Go.Proofs.YtinndbipomlokaaGreat
namespace Go.Proofs.YtinndbipomlokaaGreat
open Go Go.RowKit
section
variable {P : Program} {ops : Array Oper} {Q : Exit → Act → World → Prop} {md : Region.Mode}
def Held (P : Program) (ops : Array Oper) (Q : Exit → Act → World → Prop) (w0 : World) (fuel : Nat) (listed : Array Bool) (a : Act) (w : World) : Prop :=
  wpAnyH P .any ops (NoPanic Q) (fun w' => Below w0.heap.size w0 w') fuel listed a w
theorem held_begin {id : Nat} {a : Act} {w : World} (n : Nat) (hn : ops.size = n) (hm : P.follows .mixedOrders = true) (h : Held P ops Q w.drew n (Array.replicate n false) a w.drew) : (Code.region id ops true).wp P Q a w := by
 subst hn
 exact wp_region_noPanic (wp_region_held hm h)
theorem held_take {i : Nat} {oi : Oper} {d : Option Nat} {v : Value} {fuel : Nat} {listed : Array Bool} {a : Act} {w w0 : World} (hi : ops[i]? = some oi)
  (hs : Region.noSelect ops = true) (hf : Region.free .any ops listed i = true) (hr : (Region.ready .any ops listed).contains i = true)
  (hw : Region.wanted oi (yielded ops a.tmps) = true) (hy : ∀ w', Below w0.heap.size w0 w' → (execOp a.eval oi).run P w' = .ok (.value v) w') (hS : Below w0.heap.size w0 w) (hdst : oi.dst = d)
  (h : Held P ops Q w0 fuel (listed.setIfInBounds i true) (a.put d v) w) : Held P ops Q w0 (fuel + 1) listed a w := by
 subst hdst
 exact wpAnyH_take hi hs hf hr (fun _ _ _ h => h) (Or.inl ⟨hw, hy⟩) hS h
theorem held_run {i : Nat} {oi : Oper} {d : Option Nat} {v : Value} {fuel : Nat} {listed : Array Bool} {a : Act} {w w' w0 : World} (hi : ops[i]? = some oi)
  (hr : Region.ready .any ops listed = [i]) (hw : Region.wanted oi (yielded ops a.tmps) = true) (hy : (execOp a.eval oi).run P w = .ok (.value v) w') (hdst : oi.dst = d)
  (hS : Below w0.heap.size w0 w') (h : Held P ops Q w0 fuel (listed.setIfInBounds i true) (a.put d v) w') : Held P ops Q w0 (fuel + 1) listed a w := by
 subst hdst
 refine wpAnyH_all hr (by simp) ?_
 intro j hj
 obtain rfl : j = i := by simpa using hj
 unfold wpOp
 simp only [hi, hw, if_true]
 left
 unfold Oper.wp
 rw [hy]
 exact ⟨hS, h⟩
theorem exec_append {o : Oper} {a : Act} {w w' : World} {s x : Operand} {t tx : TypeId} {v xv v' : Value} (ho : o.op = .call { callee := .builtin .append, args := #[s, x], argTypes := #[t, tx] }) (hs : a.eval s = v) (hx : a.eval x = xv)
  (hr : (Builtin.append_ #[t, tx] o.type #[v, xv]).run P w = .ok v' w') : (execOp a.eval o).run P w = .ok (.value v') w' := by
 unfold execOp
 simp only [ho, resolve, invoke, builtin, Sem.run_bind, Sem.run_pure, Result.andThen_ok, List.map_toArray, List.map_cons, List.map_nil, hs, hx, hr]
theorem held_done {fuel : Nat} {listed : Array Bool} {a : Act} {w w0 : World} (hr : Region.ready .any ops listed = []) (h : Q .normal a w) : Held P ops Q w0 fuel listed a w :=
 wpAnyH_done hr (NoPanic.normal h) fuel
end
end Go.Proofs.YtinndbipomlokaaGreat
