/- the document's Plain; the document's held: which may be; the document's Good -/
import Derived.Test.YtgjalkbianpibaaGreatJE11
import Derived.Test.YtgjalkbianpibaaGreatJE9
import Derived.Deep.Cut
import Derived.Deep.DeepCutAuto
namespace Go.Proofs.YtgjalkbianpibaaGreat
open Go.RowKit
open Sha Tal
theorem Rq.may_iff {g : Rq} : g.may = true ↔ (0 ≤ g.c ∧ g.c ≤ 8) ∧ (0 ≤ g.n ∧ g.n ≤ 1099511627776) ∧ (g.s.size : Int) ≤ 64 := by
  unfold Rq.may
  simp only [Bool.and_eq_true, inB_iff, decide_eq_true_eq]
set_option maxRecDepth 100000 in
set_option maxHeartbeats 8000000 in
theorem plain_any (q : Bool) (x : Sl Rq) (w : World) (hx : x.At RqE w) : Calls Tryz.prog 24 #[.agg #[.bool q, x.val]] w fun e w' => e = .returned (.bool (batMay q x)) ∧ Below w.heap.size w w' := by
  have hB0 : Below w.heap.size w (w.alloc (.cells #[.bool q, x.val] 24)) := (Below.refl _ w).alloc (Nat.le_refl _) _
  have hA : (w.alloc (.cells #[.bool q, x.val] 24)).rangeAt w.heap.size 0 [.bool q, x.val] := range_new w #[.bool q, x.val] 24
  have hz : w.heap.size < (w.alloc (.cells #[.bool q, x.val] 24)).heap.size := by simp
  have c0 := hA 0 _ rfl
  have c1 := hA 1 _ rfl
  simp only [Nat.zero_add, Nat.add_zero] at c0 c1
  have hml : x.xs.length ≤ maxLen := hx.1
  unfold maxLen at hml
  unfold batMay mayL
  have h1 := hx.below hB0
  obtain ⟨a, cap, xs⟩ := x
  simp only [Sl.val] at c1 hB0 hml hz h1 c0 ⊢
  have hR : RowsAt RqE _ a xs := h1
  obtain ⟨W, hW⟩ : ∃ W, Hid (w.alloc (.cells #[.bool q, .slice a xs.length cap] 24) = W) := ⟨_, hide rfl⟩
  clear h1
  rw [hW.out] at c0 c1 hB0 hz hR
  clear hx hA
  by_cases hbig : (4 : Int) < xs.length
  · have E : (if q = true then decide (xs.length = 0) else decide ((xs.length : Int) ≤ 4) && xs.all Rq.may) = false := by
      cases q
      · rw [if_neg (by simp), decide_eq_false (by omega)]; rfl
      · rw [if_pos rfl, decide_eq_false (by omega)]
    rw [E]
    clear E
    go_enter Tryz.func24, Tryz.ntmps24
    go_upto_region 1 with fail
    go_name_world w1 hw1
    obtain rfl : W = w1 := hW.out.symm.trans hw1
    clear hw1 hW
    go_wp2
    go_ret
    exact ⟨rfl, hB0⟩
  · have hbig' : (xs.length : Int) ≤ 4 := by omega
    cases q
    rotate_left
    · rw [if_pos rfl]
      by_cases h0 : (0 : Int) < xs.length
      · rw [decide_eq_false (by omega)]
        go_enter Tryz.func24, Tryz.ntmps24
        go_upto_region 1 with fail
        go_name_world w1 hw1
        obtain rfl : W = w1 := hW.out.symm.trans hw1
        clear hw1 hW
        go_wp2
        go_ret
        exact ⟨rfl, hB0⟩
      · obtain rfl : xs = [] := List.eq_nil_of_length_eq_zero (by omega)
        rw [show decide (([] : List Rq).length = 0) = true from rfl]
        simp only [List.length_nil] at *
        go_enter Tryz.func24, Tryz.ntmps24
        go_upto_region 1 with fail
        go_name_world w1 hw1
        obtain rfl : W = w1 := hW.out.symm.trans hw1
        clear hw1 hW h0 hbig hbig'
        go_wp2
        go_loopw [3] (fun iv wr' => iv = .int .i64 0 ∧ wr' = W) (fun _ _ => 0)
        case atStart => exact ⟨rfl, rfl⟩
        case round =>
          obtain ⟨rfl, rfl⟩ := hrel
          go_wp2
          go_ret
          exact ⟨rfl, hB0⟩
    · rw [if_neg (by simp), decide_eq_true hbig', Bool.true_and]
      obtain ⟨sb, hsb⟩ : ∃ sb, Hid (xs.all Rq.may = sb) := ⟨_, hide rfl⟩
      rw [hsb.out]
      go_enter Tryz.func24, Tryz.ntmps24
      go_upto_region 1 with fail
      go_name_world w1 hw1
      obtain rfl : W = w1 := hW.out.symm.trans hw1
      clear hw1 hW
      go_wp2
      clear hbig hbig'
      go_loopw [3] (fun iv wr' => ∃ k : Nat, k ≤ xs.length ∧ iv = .int .i64 (k : Int) ∧ Hid (∀ j (hj : j < xs.length), j < k → Rq.may xs[j] = true) ∧ Below W.heap.size W wr') (fun iv _ => xs.length - (intOf iv).toNat)
      case atStart => exact ⟨0, by omega, rfl, hide (fun j _ hj => absurd hj (by omega)), Below.refl _ _⟩
      case round =>
        obtain ⟨k, hk, rfl, HM, hBr⟩ := hrel
        have e1 := (hBr.cell (p := ⟨w.heap.size, 1, none⟩) hz).trans c1
        have hB := hB0.trans (hBr.mono (by omega))
        have hzr := Nat.lt_of_lt_of_le hz hBr.size
        by_cases hlt : k < xs.length
        · have k1 : (k : Int) < xs.length := by omega
          obtain ⟨b, off, rfl, hb, hre⟩ := (RowsAt.below hR hBr).elem k hlt
          have hre : wr.rangeAt b (off + k * 19) xs[k].cells := hre
          have okx : RqE.ok xs[k] := hR.2.1 _ (List.getElem_mem hlt)
          have HT : Hid (Rq.may xs[k] = true → ∀ j (hj : j < xs.length), j < k + 1 → Rq.may xs[j] = true) := hide (fun h j hj hjk => by
            by_cases e : j = k
            · subst e; exact h
            · exact HM.out j hj (by omega))
          have HF : Hid (Rq.may xs[k] = false → sb = false) := hide (fun h => by
            rw [← hsb.out, List.all_eq_false]
            exact ⟨xs[k], List.getElem_mem hlt, by rw [h]; simp⟩)
          obtain ⟨gx, hX⟩ : ∃ g, Hid (xs[k] = g) := ⟨_, hide rfl⟩
          rw [hX.out] at hre okx HT HF
          clear hX HM
          have lu : gx.cells.length = 19 := RqE.len _ okx
          have ou : gx.cells.toArray.all (·.oneCell') = true := all_oneCell_toArray (RqE.one gx)
          have hcel : ∀ (w0 : World) (b0 : Nat), w0.rangeAt b0 0 gx.cells → w0.cell? ⟨b0, 0, none⟩ = some (.int .i64 gx.c) ∧ w0.cell? ⟨b0, 1, none⟩ = some (.int .i64 gx.n) ∧ w0.cell? ⟨b0, 2, none⟩ = some (.string gx.s) := fun w0 b0 hh => ⟨hh 0 _ rfl, hh 1 _ rfl, hh 2 _ rfl⟩
          have HB : Hid (Rq.may gx = true ↔ (0 ≤ gx.c ∧ gx.c ≤ 8) ∧ (0 ≤ gx.n ∧ gx.n ≤ 1099511627776) ∧ (gx.s.size : Int) ≤ 64) := hide Rq.may_iff
          generalize gx.cells = u at *
          generalize Rq.may gx = pb at *
          generalize gx.c = cc at *
          generalize gx.n = nn at *
          generalize gx.s = ss at *
          clear okx
          have iu : (Tryz.prog.info? 93).map (·.size) = some u.length := by rw [lu]; kernel_rfl
          have iA : (Tryz.prog.info? 93).map (·.size) = some u.toArray.size := by rw [List.size_toArray, lu]; kernel_rfl
          have zl : Rq.zero.cells.toArray.size = 19 := rfl
          obtain ⟨r5, hB5, hs5, _⟩ := fresh_store wr Rq.zero.cells.toArray 93 u (by rw [lu]; rfl)
          have hT5 : (wr.alloc (.cells Rq.zero.cells.toArray 93)).there wr.heap.size 0 u.toArray.size := by
            have := there_new wr Rq.zero.cells.toArray 93
            rw [zl] at this
            rw [show u.toArray.size = 19 by simpa using lu]
            exact this
          go_upto_region 7 with (first | (refine wpList_load_mid rfl 93 _ rfl _ _ rfl u _ hre Tryz.underlying93 rfl iu ?_) | (refine wpList_store_mid rfl 93 _ _ rfl _ _ u.toArray rfl rfl hT5 iA ou ?_))
          go_name_world w5 hw5
          rw [show (wr.alloc (.cells Rq.zero.cells.toArray 93)).setCells wr.heap.size 0 u = w5 from hw5] at r5 hB5 hs5
          have hB6 := hB.trans (hB5.mono hB.size)
          have hBW := hBr.trans (hB5.mono hBr.size)
          obtain ⟨f0, f1, f2⟩ := hcel _ _ r5
          clear hw5 hs5 hT5 hre hB5 r5 hcel
          by_cases p0 : 0 ≤ cc
          rotate_left
          · have m0 : cc < 0 := by omega
            have HF' := hide (HF.out (by
              cases pb
              · rfl
              · have := HB.out.1 rfl; omega))
            clear HF HT hsb HB
            go_wp2
            go_ret
            exact ⟨by rw [HF'.out]; rfl, hB6⟩
          · have m0 : ¬ cc < 0 := by omega
            by_cases p1 : cc ≤ 8
            rotate_left
            · have m1 : 8 < cc := by omega
              have HF' := hide (HF.out (by
                cases pb
                · rfl
                · have := HB.out.1 rfl; omega))
              clear HF HT hsb HB
              go_wp2
              go_ret
              exact ⟨by rw [HF'.out]; rfl, hB6⟩
            · have m1 : ¬ 8 < cc := by omega
              by_cases p2 : 0 ≤ nn
              rotate_left
              · have m2 : nn < 0 := by omega
                have HF' := hide (HF.out (by
                  cases pb
                  · rfl
                  · have := HB.out.1 rfl; omega))
                clear HF HT hsb HB
                go_wp2
                go_ret
                exact ⟨by rw [HF'.out]; rfl, hB6⟩
              · have m2 : ¬ nn < 0 := by omega
                by_cases p3 : nn ≤ 1099511627776
                rotate_left
                · have m3 : 1099511627776 < nn := by omega
                  have HF' := hide (HF.out (by
                    cases pb
                    · rfl
                    · have := HB.out.1 rfl; omega))
                  clear HF HT hsb HB
                  go_wp2
                  go_ret
                  exact ⟨by rw [HF'.out]; rfl, hB6⟩
                · have m3 : ¬ 1099511627776 < nn := by omega
                  by_cases p4 : (ss.size : Int) ≤ 64
                  rotate_left
                  · have m4 : (64 : Int) < ss.size := by omega
                    have HF' := hide (HF.out (by
                      cases pb
                      · rfl
                      · have := HB.out.1 rfl; omega))
                    clear HF HT hsb HB
                    go_wp2
                    go_ret
                    exact ⟨by rw [HF'.out]; rfl, hB6⟩
                  · have m4 : ¬ (64 : Int) < ss.size := by omega
                    have HT' := hide (HT.out (HB.out.2 ⟨⟨p0, p1⟩, ⟨p2, p3⟩, p4⟩))
                    clear HF HT HB
                    go_wp2
                    go_roundw
                    case rel => exact ⟨k + 1, by omega, by go_num, HT', hBW⟩
                    case measure => simp [intOf]; omega
        · have k1 : ¬ (k : Int) < xs.length := by omega
          have HE : Hid (sb = true) := hide (by
            rw [← hsb.out, List.all_eq_true]
            intro y hy
            obtain ⟨j, hj, rfl⟩ := List.mem_iff_getElem.1 hy
            exact HM.out j hj (by omega))
          clear HM hsb
          go_wp2
          go_ret
          exact ⟨by rw [HE.out]; rfl, hB⟩
end Go.Proofs.YtgjalkbianpibaaGreat
namespace Go.Proofs.YtgjalkbianpibaaGreat
open Go.RowKit
open Sha Tal
set_option maxRecDepth 100000 in
set_option maxHeartbeats 8000000 in
theorem xheld_any (x : Sl Hd) (w : World) (hx : HdsAt w x) : Calls Tryz.prog 23 #[x.val] w fun e w' => e = .returned (.bool (mayL 4 Hd.may x.xs)) ∧ Below w.heap.size w w' := by
  obtain ⟨a, cap, xs⟩ := x
  have hml : xs.length ≤ maxLen := hx.1.1
  unfold maxLen at hml
  simp only [Sl.val]
  have E : mayL 4 Hd.may xs = (xs.all Hd.may && decide ((xs.length : Int) ≤ 4)) := by unfold mayL; exact Bool.and_comm _ _
  rw [E]
  clear E
  obtain ⟨sb, hsb⟩ : ∃ sb, Hid (xs.all Hd.may = sb) := ⟨_, hide rfl⟩
  rw [hsb.out]
  go_enter Tryz.func23, Tryz.ntmps23
  go_wp2
  go_loopw [3] (fun iv wr' => ∃ k : Nat, k ≤ xs.length ∧ iv = .int .i64 (k : Int) ∧ Hid (∀ j (hj : j < xs.length), j < k → Hd.may xs[j] = true) ∧ Below w.heap.size w wr') (fun iv _ => xs.length - (intOf iv).toNat)
  case atStart => exact ⟨0, by omega, rfl, hide (fun j _ hj => absurd hj (by omega)), Below.refl _ _⟩
  case round =>
    obtain ⟨k, hk, rfl, HM, hB⟩ := hrel
    by_cases hlt : k < xs.length
    · have k1 : (k : Int) < xs.length := by omega
      obtain ⟨b, off, rfl, hb, hre⟩ := RowsAt.elem (hx.1.below hB) k hlt
      have hre : wr.rangeAt b (off + k * 39) xs[k].cells := hre
      have okx : xs[k].vt.ok := hx.1.2.1 _ (List.getElem_mem hlt)
      have atx := (hx.2 _ (List.getElem_mem hlt)).below hB
      have HT : Hid (Hd.may xs[k] = true → ∀ j (hj : j < xs.length), j < k + 1 → Hd.may xs[j] = true) := hide (fun h j hj hjk => by
        by_cases e : j = k
        · subst e; exact h
        · exact HM.out j hj (by omega))
      have HF : Hid (Hd.may xs[k] = false → sb = false) := hide (fun h => by
        rw [← hsb.out, List.all_eq_false]
        exact ⟨xs[k], List.getElem_mem hlt, by rw [h]; simp⟩)
      obtain ⟨gx, hX⟩ : ∃ g, Hid (xs[k] = g) := ⟨_, hide rfl⟩
      rw [hX.out] at hre okx atx HT HF
      clear hX HM
      unfold Hd.may at HT HF
      have c0 := hre 0 (.bool gx.q) rfl
      have c1 := hre 1 gx.rs.val rfl
      simp only [Nat.add_zero] at c0
      have rc : wr.rangeAt b (off + k * 39 + 2) (certL gx.vt gx.sg) := range_right (cs := [.bool gx.q, gx.rs.val]) hre
      have ic : (Tryz.prog.info? 35).map (·.size) = some (certL gx.vt gx.sg).length := by rw [show (certL gx.vt gx.sg).length = 37 by simp [certL, okx.len]]; exact iszC
      have G1 := plain_any gx.q gx.rs wr atx.1
      have g2 := fun (w0 : World) (h0 : Below wr.heap.size wr w0) => xcertMay_any gx.vt gx.sg w0 okx (atx.below h0).2
      generalize batMay gx.q gx.rs = b1 at *
      generalize certMay gx.vt gx.sg = b2 at *
      generalize certL gx.vt gx.sg = u at *
      simp only [Sl.val] at c1 G1
      clear okx atx hre
      go_wp2_with fail
      refine G1.mono ?_
      rintro e5 w5 ⟨rfl, hb5⟩
      have hB5 := hB.trans (hb5.mono hB.size)
      have rc5 := range_below rc hb5 hb
      have G2 := g2 w5 hb5
      clear G1 c0 c1 rc hb5 g2
      cases b1
      · have HF' := hide (HF.out (Bool.false_and _))
        clear HF HT hsb G2
        go_wp2
        go_ret
        exact ⟨by rw [HF'.out]; rfl, hB5⟩
      · go_wp2_with (refine wpList_load_g (by rfl) 35 _ rfl _ _ rfl u _ rc5 Tryz.underlying35 rfl ic ?_)
        refine G2.mono ?_
        rintro e6 w6 ⟨rfl, hb6⟩
        have hB6 := hB5.trans (hb6.mono hB5.size)
        clear G2 hb6 rc5
        cases b2
        · have HF' := hide (HF.out (Bool.true_and _))
          clear HF HT hsb
          go_wp2
          go_ret
          exact ⟨by rw [HF'.out]; rfl, hB6⟩
        · have HT' := hide (HT.out (Bool.true_and _))
          clear HF HT
          go_wp2
          go_roundw
          case rel => exact ⟨k + 1, by omega, by go_num, HT', hB6⟩
          case measure => simp [intOf]; omega
    · have k1 : ¬ (k : Int) < xs.length := by omega
      have HE : Hid (sb = true) := hide (by
        rw [← hsb.out, List.all_eq_true]
        intro y hy
        obtain ⟨j, hj, rfl⟩ := List.mem_iff_getElem.1 hy
        exact HM.out j hj (by omega))
      clear HM hsb
      go_wp2
      go_ret
      exact ⟨by rw [HE.out]; simp, hB⟩
end Go.Proofs.YtgjalkbianpibaaGreat
namespace Go.Proofs.YtgjalkbianpibaaGreat
open Go.RowKit
open Sha Tal
set_option linter.unusedVariables false
set_option linter.unusedSimpArgs false
set_option maxRecDepth 100000 in
set_option maxHeartbeats 1000000 in
theorem xgood_any (m : Mg) (w : World) (om : m.ok) (am : m.At w) : Calls Tryz.prog 10 #[.agg m.ms.cells.toArray] w fun e w' => e = .returned (.bool m.good) ∧ Below w.heap.size w w' := by
  have hat : ∀ {w' : World} {b : Nat}, w'.rangeAt b 0 m.ms.cells → m.ms.at w' b := fun hr => om.ms.at hr
  have iq : (Tryz.prog.info? 37).map (·.size) = some m.ms.cells.length := by rw [om.ms.len]; exact iszM
  have con1 := fun h1 h8 w0 => xonly_any m om h1 h8 w0
  have csm1 := fun h1 h8 w0 (h0 : Below w.heap.size w w0) => xsame_any m m.bare w0 om (Mg.bare_ok om h1 h8) (am.below h0) ((Mg.bare_at am h1 h8).below h0)
  obtain ⟨G, hG⟩ : ∃ G, Hid (m.good = G) := ⟨_, hide rfl⟩
  obtain ⟨qb, hqb⟩ : ∃ q, Hid (m.bare.ms.cells = q) := ⟨_, hide rfl⟩
  rw [hG.out]
  simp only [hqb.out] at con1 csm1
  clear hqb
  obtain ⟨q, hq⟩ : ∃ q, Hid (m.ms.cells = q) := ⟨_, hide rfl⟩
  rw [hq.out] at iq ⊢
  simp only [hq.out] at hat con1 csm1
  clear hq
  obtain ⟨hB1, hR1, hs1⟩ := boxed_new w q 37
  have ck : (w.alloc (.cells q.toArray 37)).cell? ⟨w.heap.size, 0, none⟩ = some (.int .i64 m.k) := (hat hR1).k
  by_cases h1 : 1 ≤ m.k
  rotate_left
  · have HG : Hid (G = false) := hide (by rw [← hG.out]; unfold Mg.good; rw [decide_eq_false (by omega), Bool.false_and])
    clear con1 csm1 hat
    have hk1 : m.k < 1 := by omega
    have hk1' : decide (m.k < 1) = true := decide_eq_true hk1
    go_enter Tryz.func10, Tryz.ntmps10
    go_upto_region 1 with fail
    refine hs_begin (S := (Below (w.alloc (.cells q.toArray 37)).drew.heap.size (w.alloc (.cells q.toArray 37)).drew)) 15 rfl (by kernel_rfl) ?_
    have hR8 := (World.rangeAt_drew _ _ _ _).2 hR1
    have hB8 := hB1.drew
    have hs8 : w.heap.size < (w.alloc (.cells q.toArray 37)).drew.heap.size := hs1
    replace ck : (w.alloc (.cells q.toArray 37)).drew.cell? ⟨w.heap.size, 0, none⟩ = some (.int .i64 m.k) := ck
    obtain ⟨w8, hw8⟩ : ∃ W, (w.alloc (.cells q.toArray 37)).drew = W := ⟨_, rfl⟩
    rw [hw8] at hR8 hB8 hs8 ck ⊢
    clear hw8 hR1 hB1 hs1
    have hS : (Below w8.heap.size w8) w8 := Below.refl _ _
    refine hs_take (i := 0) (d := some 5) (v := ?_) rfl (by kernel_rfl) (by kernel_rfl) (by kernel_rfl) (by rfl) ?_ hS rfl ?_
    rotate_left
    · intro w' hw
      go_simp
      try with_reducible rfl
    simp only [Act.put, List.setIfInBounds_toArray, List.set_cons_zero, List.set_cons_succ]
    refine hs_take (i := 1) (d := some 6) (v := .int .i64 m.k) rfl (by kernel_rfl) (by kernel_rfl) (by kernel_rfl) (by rfl) (fun w' hw => pl_one rfl rfl ((hw.cell (p := ⟨w.heap.size, 0, none⟩) hs8).trans ck) Tryz.underlying3 rfl) hS rfl ?_
    simp only [Act.put, List.setIfInBounds_toArray, List.set_cons_zero, List.set_cons_succ]
    refine hs_take (i := 2) (d := some 7) (v := .bool true) rfl (by kernel_rfl) (by kernel_rfl) (by kernel_rfl) (by rfl) (fun w' hw => by go_simp) hS rfl ?_
    simp only [Act.put, List.setIfInBounds_toArray, List.set_cons_zero, List.set_cons_succ]
    refine hs_take (i := 3) (d := some 8) (v := ?_) rfl (by kernel_rfl) (by kernel_rfl) (by kernel_rfl) (by rfl) ?_ hS rfl ?_
    rotate_left
    · intro w' hw
      go_simp
      try with_reducible rfl
    simp only [Act.put, List.setIfInBounds_toArray, List.set_cons_zero, List.set_cons_succ]
    refine hs_skip (i := 4) (d := some 9) rfl (by kernel_rfl) (by kernel_rfl) (by kernel_rfl) (by rfl) hS rfl ?_
    simp only [Act.put, List.setIfInBounds_toArray, List.set_cons_zero, List.set_cons_succ]
    refine hs_skip (i := 5) (d := some 10) rfl (by kernel_rfl) (by kernel_rfl) (by kernel_rfl) (by rfl) hS rfl ?_
    simp only [Act.put, List.setIfInBounds_toArray, List.set_cons_zero, List.set_cons_succ]
    refine hs_skip (i := 6) (d := some 11) rfl (by kernel_rfl) (by kernel_rfl) (by kernel_rfl) (by rfl) hS rfl ?_
    simp only [Act.put, List.setIfInBounds_toArray, List.set_cons_zero, List.set_cons_succ]
    refine hs_take (i := 7) (d := some 12) (v := ?_) rfl (by kernel_rfl) (by kernel_rfl) (by kernel_rfl) (by rfl) ?_ hS rfl ?_
    rotate_left
    · intro w' hw
      go_simp
      try with_reducible rfl
    simp only [Act.put, List.setIfInBounds_toArray, List.set_cons_zero, List.set_cons_succ]
    refine hs_take (i := 8) (d := some 13) (v := ?_) rfl (by kernel_rfl) (by kernel_rfl) (by kernel_rfl) (by rfl) ?_ hS rfl ?_
    rotate_left
    · intro w' hw
      go_simp
      try with_reducible rfl
    simp only [Act.put, List.setIfInBounds_toArray, List.set_cons_zero, List.set_cons_succ]
    refine hs_skip (i := 9) (d := some 14) rfl (by kernel_rfl) (by kernel_rfl) (by kernel_rfl) (by rfl) hS rfl ?_
    simp only [Act.put, List.setIfInBounds_toArray, List.set_cons_zero, List.set_cons_succ]
    refine hs_skip (i := 10) (d := some 15) rfl (by kernel_rfl) (by kernel_rfl) (by kernel_rfl) (by rfl) hS rfl ?_
    simp only [Act.put, List.setIfInBounds_toArray, List.set_cons_zero, List.set_cons_succ]
    refine hs_skip (i := 11) (d := some 16) rfl (by kernel_rfl) (by kernel_rfl) (by kernel_rfl) (by rfl) hS rfl ?_
    simp only [Act.put, List.setIfInBounds_toArray, List.set_cons_zero, List.set_cons_succ]
    refine hs_skip (i := 12) (d := some 17) rfl (by kernel_rfl) (by kernel_rfl) (by kernel_rfl) (by rfl) hS rfl ?_
    simp only [Act.put, List.setIfInBounds_toArray, List.set_cons_zero, List.set_cons_succ]
    refine hs_skip (i := 13) (d := some 18) rfl (by kernel_rfl) (by kernel_rfl) (by kernel_rfl) (by rfl) hS rfl ?_
    simp only [Act.put, List.setIfInBounds_toArray, List.set_cons_zero, List.set_cons_succ]
    refine hs_take (i := 14) (d := some 19) (v := ?_) rfl (by kernel_rfl) (by kernel_rfl) (by kernel_rfl) (by rfl) ?_ hS rfl ?_
    rotate_left
    · intro w' hw
      go_simp
      try with_reducible rfl
    simp only [Act.put, List.setIfInBounds_toArray, List.set_cons_zero, List.set_cons_succ]
    refine hs_done (by kernel_rfl) ?_
    go_wp2_with fail
    go_ret
    exact ⟨by rw [HG.out]; rfl, hB8⟩
  · by_cases h8 : m.k ≤ 8
    rotate_left
    · have HG : Hid (G = false) := hide (by rw [← hG.out]; unfold Mg.good; rw [decide_eq_false (by omega), Bool.false_and])
      clear con1 csm1 hat
      have hk1' : decide (m.k < 1) = false := decide_eq_false (by omega)
      have hk8 : 8 < m.k := by omega
      have hk8' : decide (8 < m.k) = true := decide_eq_true hk8
      go_enter Tryz.func10, Tryz.ntmps10
      go_upto_region 1 with fail
      refine hs_begin (S := (Below (w.alloc (.cells q.toArray 37)).drew.heap.size (w.alloc (.cells q.toArray 37)).drew)) 15 rfl (by kernel_rfl) ?_
      have hR8 := (World.rangeAt_drew _ _ _ _).2 hR1
      have hB8 := hB1.drew
      have hs8 : w.heap.size < (w.alloc (.cells q.toArray 37)).drew.heap.size := hs1
      replace ck : (w.alloc (.cells q.toArray 37)).drew.cell? ⟨w.heap.size, 0, none⟩ = some (.int .i64 m.k) := ck
      obtain ⟨w8, hw8⟩ : ∃ W, (w.alloc (.cells q.toArray 37)).drew = W := ⟨_, rfl⟩
      rw [hw8] at hR8 hB8 hs8 ck ⊢
      clear hw8 hR1 hB1 hs1
      have hS : (Below w8.heap.size w8) w8 := Below.refl _ _
      refine hs_take (i := 0) (d := some 5) (v := ?_) rfl (by kernel_rfl) (by kernel_rfl) (by kernel_rfl) (by rfl) ?_ hS rfl ?_
      rotate_left
      · intro w' hw
        go_simp
        try with_reducible rfl
      simp only [Act.put, List.setIfInBounds_toArray, List.set_cons_zero, List.set_cons_succ]
      refine hs_take (i := 1) (d := some 6) (v := .int .i64 m.k) rfl (by kernel_rfl) (by kernel_rfl) (by kernel_rfl) (by rfl) (fun w' hw => pl_one rfl rfl ((hw.cell (p := ⟨w.heap.size, 0, none⟩) hs8).trans ck) Tryz.underlying3 rfl) hS rfl ?_
      simp only [Act.put, List.setIfInBounds_toArray, List.set_cons_zero, List.set_cons_succ]
      refine hs_take (i := 2) (d := some 7) (v := .bool false) rfl (by kernel_rfl) (by kernel_rfl) (by kernel_rfl) (by rfl) (fun w' hw => by go_simp) hS rfl ?_
      simp only [Act.put, List.setIfInBounds_toArray, List.set_cons_zero, List.set_cons_succ]
      refine hs_take (i := 3) (d := some 8) (v := ?_) rfl (by kernel_rfl) (by kernel_rfl) (by kernel_rfl) (by rfl) ?_ hS rfl ?_
      rotate_left
      · intro w' hw
        go_simp
        try with_reducible rfl
      simp only [Act.put, List.setIfInBounds_toArray, List.set_cons_zero, List.set_cons_succ]
      refine hs_take (i := 4) (d := some 9) (v := ?_) rfl (by kernel_rfl) (by kernel_rfl) (by kernel_rfl) (by rfl) ?_ hS rfl ?_
      rotate_left
      · intro w' hw
        go_simp
        try with_reducible rfl
      simp only [Act.put, List.setIfInBounds_toArray, List.set_cons_zero, List.set_cons_succ]
      refine hs_take (i := 5) (d := some 10) (v := .int .i64 m.k) rfl (by kernel_rfl) (by kernel_rfl) (by kernel_rfl) (by rfl) (fun w' hw => pl_one rfl rfl ((hw.cell (p := ⟨w.heap.size, 0, none⟩) hs8).trans ck) Tryz.underlying3 rfl) hS rfl ?_
      simp only [Act.put, List.setIfInBounds_toArray, List.set_cons_zero, List.set_cons_succ]
      refine hs_take (i := 6) (d := some 11) (v := .bool true) rfl (by kernel_rfl) (by kernel_rfl) (by kernel_rfl) (by rfl) (fun w' hw => by go_simp) hS rfl ?_
      simp only [Act.put, List.setIfInBounds_toArray, List.set_cons_zero, List.set_cons_succ]
      refine hs_take (i := 7) (d := some 12) (v := ?_) rfl (by kernel_rfl) (by kernel_rfl) (by kernel_rfl) (by rfl) ?_ hS rfl ?_
      rotate_left
      · intro w' hw
        go_simp
        try with_reducible rfl
      simp only [Act.put, List.setIfInBounds_toArray, List.set_cons_zero, List.set_cons_succ]
      refine hs_take (i := 8) (d := some 13) (v := ?_) rfl (by kernel_rfl) (by kernel_rfl) (by kernel_rfl) (by rfl) ?_ hS rfl ?_
      rotate_left
      · intro w' hw
        go_simp
        try with_reducible rfl
      simp only [Act.put, List.setIfInBounds_toArray, List.set_cons_zero, List.set_cons_succ]
      refine hs_skip (i := 9) (d := some 14) rfl (by kernel_rfl) (by kernel_rfl) (by kernel_rfl) (by rfl) hS rfl ?_
      simp only [Act.put, List.setIfInBounds_toArray, List.set_cons_zero, List.set_cons_succ]
      refine hs_skip (i := 10) (d := some 15) rfl (by kernel_rfl) (by kernel_rfl) (by kernel_rfl) (by rfl) hS rfl ?_
      simp only [Act.put, List.setIfInBounds_toArray, List.set_cons_zero, List.set_cons_succ]
      refine hs_skip (i := 11) (d := some 16) rfl (by kernel_rfl) (by kernel_rfl) (by kernel_rfl) (by rfl) hS rfl ?_
      simp only [Act.put, List.setIfInBounds_toArray, List.set_cons_zero, List.set_cons_succ]
      refine hs_skip (i := 12) (d := some 17) rfl (by kernel_rfl) (by kernel_rfl) (by kernel_rfl) (by rfl) hS rfl ?_
      simp only [Act.put, List.setIfInBounds_toArray, List.set_cons_zero, List.set_cons_succ]
      refine hs_skip (i := 13) (d := some 18) rfl (by kernel_rfl) (by kernel_rfl) (by kernel_rfl) (by rfl) hS rfl ?_
      simp only [Act.put, List.setIfInBounds_toArray, List.set_cons_zero, List.set_cons_succ]
      refine hs_take (i := 14) (d := some 19) (v := ?_) rfl (by kernel_rfl) (by kernel_rfl) (by kernel_rfl) (by rfl) ?_ hS rfl ?_
      rotate_left
      · intro w' hw
        go_simp
        try with_reducible rfl
      simp only [Act.put, List.setIfInBounds_toArray, List.set_cons_zero, List.set_cons_succ]
      refine hs_done (by kernel_rfl) ?_
      go_wp2_with fail
      go_ret
      exact ⟨by rw [HG.out]; rfl, hB8⟩
    · have HG0 : Hid (G = (Mg.B m m.bare && m.may)) := hide (by rw [← hG.out]; unfold Mg.good; rw [decide_eq_true ⟨h1, h8⟩, Bool.true_and])
      obtain ⟨sb, hsb⟩ : ∃ b, Mg.B m m.bare = b := ⟨_, rfl⟩
      rw [hsb] at HG0
      simp only [hsb] at csm1
      clear hsb
      have hk1' : decide (m.k < 1) = false := decide_eq_false (by omega)
      have hk8' : decide (8 < m.k) = false := decide_eq_false (by omega)
      cases sb
      · have HG : Hid (G = false) := HG0
        clear hat
        go_enter Tryz.func10, Tryz.ntmps10
        go_upto_region 1 with fail
        refine hs_begin (S := (Below (w.alloc (.cells q.toArray 37)).drew.heap.size (w.alloc (.cells q.toArray 37)).drew)) 15 rfl (by kernel_rfl) ?_
        have hR8 := (World.rangeAt_drew _ _ _ _).2 hR1
        have hB8 := hB1.drew
        have hs8 : w.heap.size < (w.alloc (.cells q.toArray 37)).drew.heap.size := hs1
        replace ck : (w.alloc (.cells q.toArray 37)).drew.cell? ⟨w.heap.size, 0, none⟩ = some (.int .i64 m.k) := ck
        obtain ⟨w8, hw8⟩ : ∃ W, (w.alloc (.cells q.toArray 37)).drew = W := ⟨_, rfl⟩
        rw [hw8] at hR8 hB8 hs8 ck ⊢
        clear hw8 hR1 hB1 hs1
        have hS : (Below w8.heap.size w8) w8 := Below.refl _ _
        have con : ∀ w0, Calls Tryz.prog 21 #[.agg q.toArray] w0 (BareOk w0 qb) := con1 h1 h8
        have csm := fun w0 (h0 : Below w8.heap.size w8 w0) => csm1 h1 h8 w0 (hB8.trans (h0.mono hB8.size))
        refine hs_take (i := 0) (d := some 5) (v := ?_) rfl (by kernel_rfl) (by kernel_rfl) (by kernel_rfl) (by rfl) ?_ hS rfl ?_
        rotate_left
        · intro w' hw
          go_simp
          try with_reducible rfl
        simp only [Act.put, List.setIfInBounds_toArray, List.set_cons_zero, List.set_cons_succ]
        refine hs_take (i := 1) (d := some 6) (v := .int .i64 m.k) rfl (by kernel_rfl) (by kernel_rfl) (by kernel_rfl) (by rfl) (fun w' hw => pl_one rfl rfl ((hw.cell (p := ⟨w.heap.size, 0, none⟩) hs8).trans ck) Tryz.underlying3 rfl) hS rfl ?_
        simp only [Act.put, List.setIfInBounds_toArray, List.set_cons_zero, List.set_cons_succ]
        refine hs_take (i := 2) (d := some 7) (v := .bool false) rfl (by kernel_rfl) (by kernel_rfl) (by kernel_rfl) (by rfl) (fun w' hw => by go_simp) hS rfl ?_
        simp only [Act.put, List.setIfInBounds_toArray, List.set_cons_zero, List.set_cons_succ]
        refine hs_take (i := 3) (d := some 8) (v := ?_) rfl (by kernel_rfl) (by kernel_rfl) (by kernel_rfl) (by rfl) ?_ hS rfl ?_
        rotate_left
        · intro w' hw
          go_simp
          try with_reducible rfl
        simp only [Act.put, List.setIfInBounds_toArray, List.set_cons_zero, List.set_cons_succ]
        refine hs_take (i := 4) (d := some 9) (v := ?_) rfl (by kernel_rfl) (by kernel_rfl) (by kernel_rfl) (by rfl) ?_ hS rfl ?_
        rotate_left
        · intro w' hw
          go_simp
          try with_reducible rfl
        simp only [Act.put, List.setIfInBounds_toArray, List.set_cons_zero, List.set_cons_succ]
        refine hs_take (i := 5) (d := some 10) (v := .int .i64 m.k) rfl (by kernel_rfl) (by kernel_rfl) (by kernel_rfl) (by rfl) (fun w' hw => pl_one rfl rfl ((hw.cell (p := ⟨w.heap.size, 0, none⟩) hs8).trans ck) Tryz.underlying3 rfl) hS rfl ?_
        simp only [Act.put, List.setIfInBounds_toArray, List.set_cons_zero, List.set_cons_succ]
        refine hs_take (i := 6) (d := some 11) (v := .bool false) rfl (by kernel_rfl) (by kernel_rfl) (by kernel_rfl) (by rfl) (fun w' hw => by go_simp) hS rfl ?_
        simp only [Act.put, List.setIfInBounds_toArray, List.set_cons_zero, List.set_cons_succ]
        refine hs_take (i := 7) (d := some 12) (v := ?_) rfl (by kernel_rfl) (by kernel_rfl) (by kernel_rfl) (by rfl) ?_ hS rfl ?_
        rotate_left
        · intro w' hw
          go_simp
          try with_reducible rfl
        simp only [Act.put, List.setIfInBounds_toArray, List.set_cons_zero, List.set_cons_succ]
        refine hs_take (i := 8) (d := some 13) (v := ?_) rfl (by kernel_rfl) (by kernel_rfl) (by kernel_rfl) (by rfl) ?_ hS rfl ?_
        rotate_left
        · intro w' hw
          go_simp
          try with_reducible rfl
        simp only [Act.put, List.setIfInBounds_toArray, List.set_cons_zero, List.set_cons_succ]
        refine hs_take (i := 9) (d := some 14) (v := .agg q.toArray) rfl (by kernel_rfl) (by kernel_rfl) (by kernel_rfl) (by rfl) (fun w' hw => ex_mid rfl rfl (range_below hR8 hw hs8) Tryz.underlying37 rfl iq) hS rfl ?_
        simp only [Act.put, List.setIfInBounds_toArray, List.set_cons_zero, List.set_cons_succ]
        refine hs_take (i := 10) (d := some 15) (v := .agg q.toArray) rfl (by kernel_rfl) (by kernel_rfl) (by kernel_rfl) (by rfl) (fun w' hw => ex_mid rfl rfl (range_below hR8 hw hs8) Tryz.underlying37 rfl iq) hS rfl ?_
        simp only [Act.put, List.setIfInBounds_toArray, List.set_cons_zero, List.set_cons_succ]
        refine hs_call (i := 11) (d := some 16) rfl (by kernel_rfl) (by rfl) (by go_simp; first | done | exact ⟨rfl, rfl⟩ | with_reducible rfl) rfl ?_
        refine (con w8).mono ?_
        rintro _ w9 ⟨rfl, hb9⟩
        have hS : (Below w8.heap.size w8) w9 := hb9
        refine ⟨_, rfl, hS, ?_⟩
        simp only [Act.put, List.setIfInBounds_toArray, List.set_cons_zero, List.set_cons_succ]
        refine hs_call (i := 12) (d := some 17) rfl (by kernel_rfl) (by rfl) (by go_simp; first | done | exact ⟨rfl, rfl⟩ | with_reducible rfl) rfl ?_
        refine (csm w9 hS).mono ?_
        rintro _ w10 ⟨rfl, hb10⟩
        have hS : (Below w8.heap.size w8) w10 := hS.trans (hb10.mono hS.size)
        refine ⟨_, rfl, hS, ?_⟩
        simp only [Act.put, List.setIfInBounds_toArray, List.set_cons_zero, List.set_cons_succ]
        refine hs_take (i := 13) (d := some 18) (v := ?_) rfl (by kernel_rfl) (by kernel_rfl) (by kernel_rfl) (by rfl) ?_ hS rfl ?_
        rotate_left
        · intro w' hw
          go_simp
          try with_reducible rfl
        simp only [Act.put, List.setIfInBounds_toArray, List.set_cons_zero, List.set_cons_succ]
        refine hs_take (i := 14) (d := some 19) (v := ?_) rfl (by kernel_rfl) (by kernel_rfl) (by kernel_rfl) (by rfl) ?_ hS rfl ?_
        rotate_left
        · intro w' hw
          go_simp
          try with_reducible rfl
        simp only [Act.put, List.setIfInBounds_toArray, List.set_cons_zero, List.set_cons_succ]
        refine hs_done (by kernel_rfl) ?_
        go_wp2_with fail
        go_ret
        exact ⟨by rw [HG.out]; rfl, hB8.trans (hS.mono hB8.size)⟩
      · have HG : Hid (G = m.may) := HG0
        obtain ⟨be, gE, hbe⟩ : ∃ b, (∀ w0, Calls Tryz.prog 22 #[.int .i64 m.e, .int .i64 1048576] w0 fun e w' => e = .returned (.bool b) ∧ w' = w0) ∧ Hid (inB m.e 1048576 = b) := ⟨_, fun w0 => upto_any _ _ w0, hide rfl⟩
        obtain ⟨bs, gS, hbs⟩ : ∃ b, (∀ w0, Calls Tryz.prog 22 #[.int .i64 m.s, .int .i64 1099511627776] w0 fun e w' => e = .returned (.bool b) ∧ w' = w0) ∧ Hid (inB m.s 1099511627776 = b) := ⟨_, fun w0 => upto_any _ _ w0, hide rfl⟩
        obtain ⟨bv, gV, hbv⟩ : ∃ b, (∀ w0, Calls Tryz.prog 22 #[.int .i64 m.v, .int .i64 1099511627776] w0 fun e w' => e = .returned (.bool b) ∧ w' = w0) ∧ Hid (inB m.v 1099511627776 = b) := ⟨_, fun w0 => upto_any _ _ w0, hide rfl⟩
        obtain ⟨bl, gL, hbl⟩ : ∃ b, (∀ w0, Calls Tryz.prog 22 #[.int .i64 m.l, .int .i64 64] w0 fun e w' => e = .returned (.bool b) ∧ w' = w0) ∧ Hid (inB m.l 64 = b) := ⟨_, fun w0 => upto_any _ _ w0, hide rfl⟩
        obtain ⟨b1, gCe, hb1⟩ : ∃ b, (∀ w0, Calls Tryz.prog 22 #[.int .i64 m.ce, .int .i64 1048576] w0 fun e w' => e = .returned (.bool b) ∧ w' = w0) ∧ Hid (inB m.ce 1048576 = b) := ⟨_, fun w0 => upto_any _ _ w0, hide rfl⟩
        obtain ⟨b2, gCv, hb2⟩ : ∃ b, (∀ w0, Calls Tryz.prog 22 #[.int .i64 m.cv, .int .i64 1099511627776] w0 fun e w' => e = .returned (.bool b) ∧ w' = w0) ∧ Hid (inB m.cv 1099511627776 = b) := ⟨_, fun w0 => upto_any _ _ w0, hide rfl⟩
        obtain ⟨b3, gCl, hb3⟩ : ∃ b, (∀ w0, Calls Tryz.prog 22 #[.int .i64 m.cl, .int .i64 64] w0 fun e w' => e = .returned (.bool b) ∧ w' = w0) ∧ Hid (inB m.cl 64 = b) := ⟨_, fun w0 => upto_any _ _ w0, hide rfl⟩
        obtain ⟨b4, gH, hb4⟩ : ∃ b, (∀ w0, Below w.heap.size w w0 → Calls Tryz.prog 23 #[m.he.val] w0 fun e w' => e = .returned (.bool b) ∧ Below w0.heap.size w0 w') ∧ Hid (mayL 4 Hd.may m.he.xs = b) := ⟨_, fun w0 h0 => xheld_any m.he w0 (am.he.below h0), hide rfl⟩
        obtain ⟨b5, gB, hb5⟩ : ∃ b, (∀ w0, Below w.heap.size w w0 → Calls Tryz.prog 24 #[.agg #[.bool m.q, m.rs.val]] w0 fun e w' => e = .returned (.bool b) ∧ Below w0.heap.size w0 w') ∧ Hid (batMay m.q m.rs = b) := ⟨_, fun w0 h0 => plain_any m.q m.rs w0 (am.rs.below h0), hide rfl⟩
        obtain ⟨b6, gNn, hb6⟩ : ∃ b, (∀ w0, Below w.heap.size w w0 → Calls Tryz.prog 25 #[m.ne.val] w0 fun e w' => e = .returned (.bool b) ∧ w' = w0) ∧ Hid (mayL 64 Ev.may m.ne.xs = b) := ⟨_, fun w0 h0 => xnews_any m.ne w0 (am.ne.below h0), hide rfl⟩
        obtain ⟨b7, gGg, hb7⟩ : ∃ b, (∀ w0, Below w.heap.size w w0 → Calls Tryz.prog 26 #[m.sg.val] w0 fun e w' => e = .returned (.bool b) ∧ w' = w0) ∧ Hid (sgsMay m.sg = b) := ⟨_, fun w0 h0 => xsigns_any m.sg w0 (am.sg.below h0), hide rfl⟩
        obtain ⟨b8, hb8⟩ : ∃ b, Hid (decide ((m.st.size : Int) ≤ 4194304) = b) := ⟨_, hide rfl⟩
        obtain ⟨B3, HB3⟩ : ∃ b, Hid ((((be && bs) && bv) && bl) = b) := ⟨_, hide rfl⟩
        obtain ⟨B5, HB5⟩ : ∃ b, Hid (((((B3 && b1) && b2) && b3) && b4) = b) := ⟨_, hide rfl⟩
        obtain ⟨B6, HB6⟩ : ∃ b, Hid (((((B5 && b5) && b6) && b7) && b8) = b) := ⟨_, hide rfl⟩
        have HM : Hid (m.may = ((if m.k = 2 then m.vt.may else true) && ((if m.k = 7 then certMay m.ct m.cs else true) && B6))) := hide (by
          rw [← HB6.out, ← HB5.out, ← HB3.out, ← hbe.out, ← hbs.out, ← hbv.out, ← hbl.out, ← hb1.out, ← hb2.out, ← hb3.out, ← hb4.out, ← hb5.out, ← hb6.out, ← hb7.out, ← hb8.out]
          unfold Mg.may Mg.mayL chgMay
          ac_rfl)
        rw [HM.out] at HG
        clear HM hbe hbs hbv hbl hb1 hb2 hb3 hb4 hb5 hb6 hb7
        obtain ⟨zc, hzl, hzc⟩ : ∃ z : List Value, z.length = 4 ∧ ∀ w' : World, (zeroValue 31).run Tryz.prog w' = .ok (.agg z.toArray) w' := ⟨_, rfl, zeroCh⟩
        have hix : (Tryz.prog.info? 28).map (·.size) = some m.vt.cells.length := by rw [om.vt.len]; exact iszVo
        have hic : (Tryz.prog.info? 35).map (·.size) = some (certL m.ct m.cs).length := by rw [show (certL m.ct m.cs).length = 37 by simp [certL, om.ct.len]]; exact iszCe
        go_enter Tryz.func10, Tryz.ntmps10
        go_upto_region 1 with fail
        refine hs_begin (S := (Below (w.alloc (.cells q.toArray 37)).drew.heap.size (w.alloc (.cells q.toArray 37)).drew)) 15 rfl (by kernel_rfl) ?_
        have hR8 := (World.rangeAt_drew _ _ _ _).2 hR1
        have hB8 := hB1.drew
        have hs8 : w.heap.size < (w.alloc (.cells q.toArray 37)).drew.heap.size := hs1
        replace ck : (w.alloc (.cells q.toArray 37)).drew.cell? ⟨w.heap.size, 0, none⟩ = some (.int .i64 m.k) := ck
        obtain ⟨w8, hw8⟩ : ∃ W, (w.alloc (.cells q.toArray 37)).drew = W := ⟨_, rfl⟩
        rw [hw8] at hR8 hB8 hs8 ck ⊢
        clear hw8 hR1 hB1 hs1
        have hS : (Below w8.heap.size w8) w8 := Below.refl _ _
        have con : ∀ w0, Calls Tryz.prog 21 #[.agg q.toArray] w0 (BareOk w0 qb) := con1 h1 h8
        have csm := fun w0 (h0 : Below w8.heap.size w8 w0) => csm1 h1 h8 w0 (hB8.trans (h0.mono hB8.size))
        refine hs_take (i := 0) (d := some 5) (v := ?_) rfl (by kernel_rfl) (by kernel_rfl) (by kernel_rfl) (by rfl) ?_ hS rfl ?_
        rotate_left
        · intro w' hw
          go_simp
          try with_reducible rfl
        simp only [Act.put, List.setIfInBounds_toArray, List.set_cons_zero, List.set_cons_succ]
        refine hs_take (i := 1) (d := some 6) (v := .int .i64 m.k) rfl (by kernel_rfl) (by kernel_rfl) (by kernel_rfl) (by rfl) (fun w' hw => pl_one rfl rfl ((hw.cell (p := ⟨w.heap.size, 0, none⟩) hs8).trans ck) Tryz.underlying3 rfl) hS rfl ?_
        simp only [Act.put, List.setIfInBounds_toArray, List.set_cons_zero, List.set_cons_succ]
        refine hs_take (i := 2) (d := some 7) (v := .bool false) rfl (by kernel_rfl) (by kernel_rfl) (by kernel_rfl) (by rfl) (fun w' hw => by go_simp) hS rfl ?_
        simp only [Act.put, List.setIfInBounds_toArray, List.set_cons_zero, List.set_cons_succ]
        refine hs_take (i := 3) (d := some 8) (v := ?_) rfl (by kernel_rfl) (by kernel_rfl) (by kernel_rfl) (by rfl) ?_ hS rfl ?_
        rotate_left
        · intro w' hw
          go_simp
          try with_reducible rfl
        simp only [Act.put, List.setIfInBounds_toArray, List.set_cons_zero, List.set_cons_succ]
        refine hs_take (i := 4) (d := some 9) (v := ?_) rfl (by kernel_rfl) (by kernel_rfl) (by kernel_rfl) (by rfl) ?_ hS rfl ?_
        rotate_left
        · intro w' hw
          go_simp
          try with_reducible rfl
        simp only [Act.put, List.setIfInBounds_toArray, List.set_cons_zero, List.set_cons_succ]
        refine hs_take (i := 5) (d := some 10) (v := .int .i64 m.k) rfl (by kernel_rfl) (by kernel_rfl) (by kernel_rfl) (by rfl) (fun w' hw => pl_one rfl rfl ((hw.cell (p := ⟨w.heap.size, 0, none⟩) hs8).trans ck) Tryz.underlying3 rfl) hS rfl ?_
        simp only [Act.put, List.setIfInBounds_toArray, List.set_cons_zero, List.set_cons_succ]
        refine hs_take (i := 6) (d := some 11) (v := .bool false) rfl (by kernel_rfl) (by kernel_rfl) (by kernel_rfl) (by rfl) (fun w' hw => by go_simp) hS rfl ?_
        simp only [Act.put, List.setIfInBounds_toArray, List.set_cons_zero, List.set_cons_succ]
        refine hs_take (i := 7) (d := some 12) (v := ?_) rfl (by kernel_rfl) (by kernel_rfl) (by kernel_rfl) (by rfl) ?_ hS rfl ?_
        rotate_left
        · intro w' hw
          go_simp
          try with_reducible rfl
        simp only [Act.put, List.setIfInBounds_toArray, List.set_cons_zero, List.set_cons_succ]
        refine hs_take (i := 8) (d := some 13) (v := ?_) rfl (by kernel_rfl) (by kernel_rfl) (by kernel_rfl) (by rfl) ?_ hS rfl ?_
        rotate_left
        · intro w' hw
          go_simp
          try with_reducible rfl
        simp only [Act.put, List.setIfInBounds_toArray, List.set_cons_zero, List.set_cons_succ]
        refine hs_take (i := 9) (d := some 14) (v := .agg q.toArray) rfl (by kernel_rfl) (by kernel_rfl) (by kernel_rfl) (by rfl) (fun w' hw => ex_mid rfl rfl (range_below hR8 hw hs8) Tryz.underlying37 rfl iq) hS rfl ?_
        simp only [Act.put, List.setIfInBounds_toArray, List.set_cons_zero, List.set_cons_succ]
        refine hs_take (i := 10) (d := some 15) (v := .agg q.toArray) rfl (by kernel_rfl) (by kernel_rfl) (by kernel_rfl) (by rfl) (fun w' hw => ex_mid rfl rfl (range_below hR8 hw hs8) Tryz.underlying37 rfl iq) hS rfl ?_
        simp only [Act.put, List.setIfInBounds_toArray, List.set_cons_zero, List.set_cons_succ]
        refine hs_call (i := 11) (d := some 16) rfl (by kernel_rfl) (by rfl) (by go_simp; first | done | exact ⟨rfl, rfl⟩ | with_reducible rfl) rfl ?_
        refine (con w8).mono ?_
        rintro _ w9 ⟨rfl, hb9⟩
        have hS : (Below w8.heap.size w8) w9 := hb9
        refine ⟨_, rfl, hS, ?_⟩
        simp only [Act.put, List.setIfInBounds_toArray, List.set_cons_zero, List.set_cons_succ]
        refine hs_call (i := 12) (d := some 17) rfl (by kernel_rfl) (by rfl) (by go_simp; first | done | exact ⟨rfl, rfl⟩ | with_reducible rfl) rfl ?_
        refine (csm w9 hS).mono ?_
        rintro _ w10 ⟨rfl, hb10⟩
        have hS : (Below w8.heap.size w8) w10 := hS.trans (hb10.mono hS.size)
        refine ⟨_, rfl, hS, ?_⟩
        simp only [Act.put, List.setIfInBounds_toArray, List.set_cons_zero, List.set_cons_succ]
        refine hs_take (i := 13) (d := some 18) (v := ?_) rfl (by kernel_rfl) (by kernel_rfl) (by kernel_rfl) (by rfl) ?_ hS rfl ?_
        rotate_left
        · intro w' hw
          go_simp
          try with_reducible rfl
        simp only [Act.put, List.setIfInBounds_toArray, List.set_cons_zero, List.set_cons_succ]
        refine hs_take (i := 14) (d := some 19) (v := ?_) rfl (by kernel_rfl) (by kernel_rfl) (by kernel_rfl) (by rfl) ?_ hS rfl ?_
        rotate_left
        · intro w' hw
          go_simp
          try with_reducible rfl
        simp only [Act.put, List.setIfInBounds_toArray, List.set_cons_zero, List.set_cons_succ]
        refine hs_done (by kernel_rfl) ?_
        have hB : Below w.heap.size w w10 := hB8.trans (hS.mono hB8.size)
        have hR := range_below hR8 hS hs8
        have hs : w.heap.size < w10.heap.size := Nat.lt_of_lt_of_le hs8 hS.size
        obtain ⟨W, hWW⟩ : ∃ W, w10 = W := ⟨_, rfl⟩
        rw [hWW] at hB hR hs ⊢
        clear hWW hb10 hS hb9 csm con hR8 hB8 hs8 ck
        have MA := hat hR
        have ce := MA.e
        have cs := MA.s
        have cv := MA.v
        have cl := MA.l
        go_upto_region 3 with fail
        go_cut [3] (fun v wx => v = .bool B3 ∧ wx = W)
        case first =>
          try simp only [Act.put]
          refine pl_begin ?_
          refine pl_take (d := some 20) (v := ?_) (by rfl) ?_ rfl ?_
          rotate_left
          · go_simp
            try with_reducible rfl
          simp only [Act.put, List.setIfInBounds_toArray, List.set_cons_zero, List.set_cons_succ]
          refine pl_take (d := some 21) (v := .int .i64 m.e) (by rfl) (pl_one rfl rfl ce Tryz.underlying3 rfl) rfl ?_
          simp only [Act.put, List.setIfInBounds_toArray, List.set_cons_zero, List.set_cons_succ]
          refine pl_call (d := some 22) (by rfl) (by go_simp; first | done | exact ⟨rfl, rfl⟩ | with_reducible rfl) rfl ?_
          refine (gE _).mono ?_
          rintro _ w9 ⟨rfl, hx⟩
          obtain rfl := hx.symm
          clear hx
          refine ⟨_, rfl, ?_⟩
          simp only [Act.put, List.setIfInBounds_toArray, List.set_cons_zero, List.set_cons_succ]
          cases be
          · refine pl_take (d := some 23) (v := ?_) (by rfl) ?_ rfl ?_
            rotate_left
            · go_simp
              try with_reducible rfl
            simp only [Act.put, List.setIfInBounds_toArray, List.set_cons_zero, List.set_cons_succ]
            refine pl_skip (d := some 24) (by rfl) rfl ?_
            simp only [Act.put, List.setIfInBounds_toArray, List.set_cons_zero, List.set_cons_succ]
            refine pl_skip (d := some 25) (by rfl) rfl ?_
            simp only [Act.put, List.setIfInBounds_toArray, List.set_cons_zero, List.set_cons_succ]
            refine pl_skip (d := some 26) (by rfl) rfl ?_
            simp only [Act.put, List.setIfInBounds_toArray, List.set_cons_zero, List.set_cons_succ]
            refine pl_take (d := some 27) (v := ?_) (by rfl) ?_ rfl ?_
            rotate_left
            · go_simp
              try with_reducible rfl
            simp only [Act.put, List.setIfInBounds_toArray, List.set_cons_zero, List.set_cons_succ]
            refine pl_take (d := some 28) (v := ?_) (by rfl) ?_ rfl ?_
            rotate_left
            · go_simp
              try with_reducible rfl
            simp only [Act.put, List.setIfInBounds_toArray, List.set_cons_zero, List.set_cons_succ]
            refine pl_skip (d := some 29) (by rfl) rfl ?_
            simp only [Act.put, List.setIfInBounds_toArray, List.set_cons_zero, List.set_cons_succ]
            refine pl_skip (d := some 30) (by rfl) rfl ?_
            simp only [Act.put, List.setIfInBounds_toArray, List.set_cons_zero, List.set_cons_succ]
            refine pl_skip (d := some 31) (by rfl) rfl ?_
            simp only [Act.put, List.setIfInBounds_toArray, List.set_cons_zero, List.set_cons_succ]
            refine pl_take (d := some 32) (v := ?_) (by rfl) ?_ rfl ?_
            rotate_left
            · go_simp
              try with_reducible rfl
            simp only [Act.put, List.setIfInBounds_toArray, List.set_cons_zero, List.set_cons_succ]
            refine pl_take (d := some 33) (v := ?_) (by rfl) ?_ rfl ?_
            rotate_left
            · go_simp
              try with_reducible rfl
            simp only [Act.put, List.setIfInBounds_toArray, List.set_cons_zero, List.set_cons_succ]
            refine pl_skip (d := some 34) (by rfl) rfl ?_
            simp only [Act.put, List.setIfInBounds_toArray, List.set_cons_zero, List.set_cons_succ]
            refine pl_skip (d := some 35) (by rfl) rfl ?_
            simp only [Act.put, List.setIfInBounds_toArray, List.set_cons_zero, List.set_cons_succ]
            refine pl_skip (d := some 36) (by rfl) rfl ?_
            simp only [Act.put, List.setIfInBounds_toArray, List.set_cons_zero, List.set_cons_succ]
            refine pl_take (d := some 37) (v := ?_) (by rfl) ?_ rfl ?_
            rotate_left
            · go_simp
              try with_reducible rfl
            simp only [Act.put, List.setIfInBounds_toArray, List.set_cons_zero, List.set_cons_succ]
            refine pl_take (d := some 3) (v := ?_) (by rfl) ?_ rfl ?_
            rotate_left
            · go_simp
              try with_reducible rfl
            simp only [Act.put, List.setIfInBounds_toArray, List.set_cons_zero, List.set_cons_succ]
            refine pl_nil ?_
            go_wp2_with fail
            go_meet
            exact ⟨congrArg Value.bool (by have := HB3.out; simpa using this), rfl⟩
          · refine pl_take (d := some 23) (v := ?_) (by rfl) ?_ rfl ?_
            rotate_left
            · go_simp
              try with_reducible rfl
            simp only [Act.put, List.setIfInBounds_toArray, List.set_cons_zero, List.set_cons_succ]
            refine pl_take (d := some 24) (v := ?_) (by rfl) ?_ rfl ?_
            rotate_left
            · go_simp
              try with_reducible rfl
            simp only [Act.put, List.setIfInBounds_toArray, List.set_cons_zero, List.set_cons_succ]
            refine pl_take (d := some 25) (v := .int .i64 m.s) (by rfl) (pl_one rfl rfl cs Tryz.underlying3 rfl) rfl ?_
            simp only [Act.put, List.setIfInBounds_toArray, List.set_cons_zero, List.set_cons_succ]
            refine pl_call (d := some 26) (by rfl) (by go_simp; first | done | exact ⟨rfl, rfl⟩ | with_reducible rfl) rfl ?_
            refine (gS _).mono ?_
            rintro _ w9 ⟨rfl, hx⟩
            obtain rfl := hx.symm
            clear hx
            refine ⟨_, rfl, ?_⟩
            simp only [Act.put, List.setIfInBounds_toArray, List.set_cons_zero, List.set_cons_succ]
            cases bs
            · refine pl_take (d := some 27) (v := ?_) (by rfl) ?_ rfl ?_
              rotate_left
              · go_simp
                try with_reducible rfl
              simp only [Act.put, List.setIfInBounds_toArray, List.set_cons_zero, List.set_cons_succ]
              refine pl_take (d := some 28) (v := ?_) (by rfl) ?_ rfl ?_
              rotate_left
              · go_simp
                try with_reducible rfl
              simp only [Act.put, List.setIfInBounds_toArray, List.set_cons_zero, List.set_cons_succ]
              refine pl_skip (d := some 29) (by rfl) rfl ?_
              simp only [Act.put, List.setIfInBounds_toArray, List.set_cons_zero, List.set_cons_succ]
              refine pl_skip (d := some 30) (by rfl) rfl ?_
              simp only [Act.put, List.setIfInBounds_toArray, List.set_cons_zero, List.set_cons_succ]
              refine pl_skip (d := some 31) (by rfl) rfl ?_
              simp only [Act.put, List.setIfInBounds_toArray, List.set_cons_zero, List.set_cons_succ]
              refine pl_take (d := some 32) (v := ?_) (by rfl) ?_ rfl ?_
              rotate_left
              · go_simp
                try with_reducible rfl
              simp only [Act.put, List.setIfInBounds_toArray, List.set_cons_zero, List.set_cons_succ]
              refine pl_take (d := some 33) (v := ?_) (by rfl) ?_ rfl ?_
              rotate_left
              · go_simp
                try with_reducible rfl
              simp only [Act.put, List.setIfInBounds_toArray, List.set_cons_zero, List.set_cons_succ]
              refine pl_skip (d := some 34) (by rfl) rfl ?_
              simp only [Act.put, List.setIfInBounds_toArray, List.set_cons_zero, List.set_cons_succ]
              refine pl_skip (d := some 35) (by rfl) rfl ?_
              simp only [Act.put, List.setIfInBounds_toArray, List.set_cons_zero, List.set_cons_succ]
              refine pl_skip (d := some 36) (by rfl) rfl ?_
              simp only [Act.put, List.setIfInBounds_toArray, List.set_cons_zero, List.set_cons_succ]
              refine pl_take (d := some 37) (v := ?_) (by rfl) ?_ rfl ?_
              rotate_left
              · go_simp
                try with_reducible rfl
              simp only [Act.put, List.setIfInBounds_toArray, List.set_cons_zero, List.set_cons_succ]
              refine pl_take (d := some 3) (v := ?_) (by rfl) ?_ rfl ?_
              rotate_left
              · go_simp
                try with_reducible rfl
              simp only [Act.put, List.setIfInBounds_toArray, List.set_cons_zero, List.set_cons_succ]
              refine pl_nil ?_
              go_wp2_with fail
              go_meet
              exact ⟨congrArg Value.bool (by have := HB3.out; simpa using this), rfl⟩
            · refine pl_take (d := some 27) (v := ?_) (by rfl) ?_ rfl ?_
              rotate_left
              · go_simp
                try with_reducible rfl
              simp only [Act.put, List.setIfInBounds_toArray, List.set_cons_zero, List.set_cons_succ]
              refine pl_take (d := some 28) (v := ?_) (by rfl) ?_ rfl ?_
              rotate_left
              · go_simp
                try with_reducible rfl
              simp only [Act.put, List.setIfInBounds_toArray, List.set_cons_zero, List.set_cons_succ]
              refine pl_take (d := some 29) (v := ?_) (by rfl) ?_ rfl ?_
              rotate_left
              · go_simp
                try with_reducible rfl
              simp only [Act.put, List.setIfInBounds_toArray, List.set_cons_zero, List.set_cons_succ]
              refine pl_take (d := some 30) (v := .int .i64 m.v) (by rfl) (pl_one rfl rfl cv Tryz.underlying3 rfl) rfl ?_
              simp only [Act.put, List.setIfInBounds_toArray, List.set_cons_zero, List.set_cons_succ]
              refine pl_call (d := some 31) (by rfl) (by go_simp; first | done | exact ⟨rfl, rfl⟩ | with_reducible rfl) rfl ?_
              refine (gV _).mono ?_
              rintro _ w9 ⟨rfl, hx⟩
              obtain rfl := hx.symm
              clear hx
              refine ⟨_, rfl, ?_⟩
              simp only [Act.put, List.setIfInBounds_toArray, List.set_cons_zero, List.set_cons_succ]
              cases bv
              · refine pl_take (d := some 32) (v := ?_) (by rfl) ?_ rfl ?_
                rotate_left
                · go_simp
                  try with_reducible rfl
                simp only [Act.put, List.setIfInBounds_toArray, List.set_cons_zero, List.set_cons_succ]
                refine pl_take (d := some 33) (v := ?_) (by rfl) ?_ rfl ?_
                rotate_left
                · go_simp
                  try with_reducible rfl
                simp only [Act.put, List.setIfInBounds_toArray, List.set_cons_zero, List.set_cons_succ]
                refine pl_skip (d := some 34) (by rfl) rfl ?_
                simp only [Act.put, List.setIfInBounds_toArray, List.set_cons_zero, List.set_cons_succ]
                refine pl_skip (d := some 35) (by rfl) rfl ?_
                simp only [Act.put, List.setIfInBounds_toArray, List.set_cons_zero, List.set_cons_succ]
                refine pl_skip (d := some 36) (by rfl) rfl ?_
                simp only [Act.put, List.setIfInBounds_toArray, List.set_cons_zero, List.set_cons_succ]
                refine pl_take (d := some 37) (v := ?_) (by rfl) ?_ rfl ?_
                rotate_left
                · go_simp
                  try with_reducible rfl
                simp only [Act.put, List.setIfInBounds_toArray, List.set_cons_zero, List.set_cons_succ]
                refine pl_take (d := some 3) (v := ?_) (by rfl) ?_ rfl ?_
                rotate_left
                · go_simp
                  try with_reducible rfl
                simp only [Act.put, List.setIfInBounds_toArray, List.set_cons_zero, List.set_cons_succ]
                refine pl_nil ?_
                go_wp2_with fail
                go_meet
                exact ⟨congrArg Value.bool (by have := HB3.out; simpa using this), rfl⟩
              · refine pl_take (d := some 32) (v := ?_) (by rfl) ?_ rfl ?_
                rotate_left
                · go_simp
                  try with_reducible rfl
                simp only [Act.put, List.setIfInBounds_toArray, List.set_cons_zero, List.set_cons_succ]
                refine pl_take (d := some 33) (v := ?_) (by rfl) ?_ rfl ?_
                rotate_left
                · go_simp
                  try with_reducible rfl
                simp only [Act.put, List.setIfInBounds_toArray, List.set_cons_zero, List.set_cons_succ]
                refine pl_take (d := some 34) (v := ?_) (by rfl) ?_ rfl ?_
                rotate_left
                · go_simp
                  try with_reducible rfl
                simp only [Act.put, List.setIfInBounds_toArray, List.set_cons_zero, List.set_cons_succ]
                refine pl_take (d := some 35) (v := .int .i64 m.l) (by rfl) (pl_one rfl rfl cl Tryz.underlying3 rfl) rfl ?_
                simp only [Act.put, List.setIfInBounds_toArray, List.set_cons_zero, List.set_cons_succ]
                refine pl_call (d := some 36) (by rfl) (by go_simp; first | done | exact ⟨rfl, rfl⟩ | with_reducible rfl) rfl ?_
                refine (gL _).mono ?_
                rintro _ w9 ⟨rfl, hx⟩
                obtain rfl := hx.symm
                clear hx
                refine ⟨_, rfl, ?_⟩
                simp only [Act.put, List.setIfInBounds_toArray, List.set_cons_zero, List.set_cons_succ]
                cases bl
                · refine pl_take (d := some 37) (v := ?_) (by rfl) ?_ rfl ?_
                  rotate_left
                  · go_simp
                    try with_reducible rfl
                  simp only [Act.put, List.setIfInBounds_toArray, List.set_cons_zero, List.set_cons_succ]
                  refine pl_take (d := some 3) (v := ?_) (by rfl) ?_ rfl ?_
                  rotate_left
                  · go_simp
                    try with_reducible rfl
                  simp only [Act.put, List.setIfInBounds_toArray, List.set_cons_zero, List.set_cons_succ]
                  refine pl_nil ?_
                  go_wp2_with fail
                  go_meet
                  exact ⟨congrArg Value.bool (by have := HB3.out; simpa using this), rfl⟩
                · refine pl_take (d := some 37) (v := ?_) (by rfl) ?_ rfl ?_
                  rotate_left
                  · go_simp
                    try with_reducible rfl
                  simp only [Act.put, List.setIfInBounds_toArray, List.set_cons_zero, List.set_cons_succ]
                  refine pl_take (d := some 3) (v := ?_) (by rfl) ?_ rfl ?_
                  rotate_left
                  · go_simp
                    try with_reducible rfl
                  simp only [Act.put, List.setIfInBounds_toArray, List.set_cons_zero, List.set_cons_succ]
                  refine pl_nil ?_
                  go_wp2_with fail
                  go_meet
                  exact ⟨congrArg Value.bool (by have := HB3.out; simpa using this), rfl⟩
        case rest =>
          obtain ⟨rfl, hx⟩ := hcut
          obtain rfl := hx.symm
          clear hx gE gS gV gL ce cs cv cl HB3
          have rch := ms_chg MA
          obtain ⟨qc, hqc⟩ : ∃ q, Hid (([.int .i64 m.ce, .int .i64 m.cl, .int .i64 m.cv, m.he.val] : List Value) = q) := ⟨_, hide rfl⟩
          rw [hqc.out] at rch
          have hqcl : qc.length = 4 := by rw [← hqc.out]; rfl
          have hqc1 : ∀ v ∈ qc, v.oneCell' = true := by
            rw [← hqc.out]
            intro v hv
            simp only [List.mem_cons, List.not_mem_nil, or_false] at hv
            rcases hv with rfl | rfl | rfl | rfl <;> rfl
          go_upto_region 4 with fail
          try simp only [Act.put]
          refine pl_begin ?_
          refine pl_take (d := some 38) (v := ?_) (by rfl) ?_ rfl ?_
          rotate_left
          · go_simp
            try with_reducible rfl
          simp only [Act.put, List.setIfInBounds_toArray, List.set_cons_zero, List.set_cons_succ]
          refine pl_take (d := some 39) (v := .agg qc.toArray) (by rfl) (ex_mid rfl rfl rch Tryz.underlying31 rfl (by rw [hqcl]; exact iszCh)) rfl ?_
          simp only [Act.put, List.setIfInBounds_toArray, List.set_cons_zero, List.set_cons_succ]
          refine pl_run (d := some 4) (v := .pointer (some ⟨W.heap.size, 0, none⟩)) (w' := W.alloc (.cells zc.toArray 31)) (by rfl) (ex_alloc rfl (hzc _)) rfl ?_
          simp only [Act.put, List.setIfInBounds_toArray, List.set_cons_zero, List.set_cons_succ]
          refine pl_store (w' := (W.alloc (.cells zc.toArray 31)).setCells W.heap.size 0 qc) (by rfl) (ex_put (cs := qc.toArray) rfl rfl rfl (there_newN _ _ _ (by simp [hzl, hqcl])) (by simpa [hqcl] using iszCh) (all_one hqc1)) rfl ?_
          refine pl_nil ?_
          obtain ⟨hF1, hB3, -, -⟩ := fresh_store W zc.toArray 31 qc (by simp [hzl, hqcl])
          obtain ⟨X, hX⟩ : ∃ X, (W.alloc (.cells zc.toArray 31)).setCells W.heap.size 0 qc = X := ⟨_, rfl⟩
          rw [hX] at hF1 hB3 ⊢
          clear hX rch hqcl hqc1
          rw [← hqc.out] at hF1
          have d0 := hF1 0 _ rfl
          have d1 := hF1 1 _ rfl
          have d2 := hF1 2 _ rfl
          have d3 : X.cell? ⟨W.heap.size, 3, none⟩ = some (.slice m.he.a m.he.xs.length m.he.cap) := hF1 3 _ rfl
          simp only [Nat.zero_add, Nat.add_zero] at d0 d1 d2
          have hBX := hB.trans (hB3.mono hB.size)
          have hRX := range_below hR hB3 hs
          have hsX := Nat.lt_of_lt_of_le hs hB3.size
          have cH := gH X hBX
          clear hqc hF1 hB3 hB hR hs MA gH hzl hzc zc
          have HS : Below X.heap.size X X := Below.refl _ _
          go_upto_region 5 with fail
          go_cut [3] (fun v wx => v = .bool B5 ∧ Hid (Below X.heap.size X wx))
          case first =>
            try simp only [Act.put]
            refine pl_begin ?_
            refine pl_take (d := some 40) (v := ?_) (by rfl) ?_ rfl ?_
            rotate_left
            · go_simp
              try with_reducible rfl
            simp only [Act.put, List.setIfInBounds_toArray, List.set_cons_zero, List.set_cons_succ]
            refine pl_take (d := some 41) (v := ?_) (by rfl) ?_ rfl ?_
            rotate_left
            · go_simp
              try with_reducible rfl
            simp only [Act.put, List.setIfInBounds_toArray, List.set_cons_zero, List.set_cons_succ]
            cases B3
            · refine pl_skip (d := some 42) (by rfl) rfl ?_
              simp only [Act.put, List.setIfInBounds_toArray, List.set_cons_zero, List.set_cons_succ]
              refine pl_skip (d := some 43) (by rfl) rfl ?_
              simp only [Act.put, List.setIfInBounds_toArray, List.set_cons_zero, List.set_cons_succ]
              refine pl_skip (d := some 44) (by rfl) rfl ?_
              simp only [Act.put, List.setIfInBounds_toArray, List.set_cons_zero, List.set_cons_succ]
              refine pl_take (d := some 45) (v := ?_) (by rfl) ?_ rfl ?_
              rotate_left
              · go_simp
                try with_reducible rfl
              simp only [Act.put, List.setIfInBounds_toArray, List.set_cons_zero, List.set_cons_succ]
              refine pl_take (d := some 46) (v := ?_) (by rfl) ?_ rfl ?_
              rotate_left
              · go_simp
                try with_reducible rfl
              simp only [Act.put, List.setIfInBounds_toArray, List.set_cons_zero, List.set_cons_succ]
              refine pl_skip (d := some 47) (by rfl) rfl ?_
              simp only [Act.put, List.setIfInBounds_toArray, List.set_cons_zero, List.set_cons_succ]
              refine pl_skip (d := some 48) (by rfl) rfl ?_
              simp only [Act.put, List.setIfInBounds_toArray, List.set_cons_zero, List.set_cons_succ]
              refine pl_skip (d := some 49) (by rfl) rfl ?_
              simp only [Act.put, List.setIfInBounds_toArray, List.set_cons_zero, List.set_cons_succ]
              refine pl_take (d := some 50) (v := ?_) (by rfl) ?_ rfl ?_
              rotate_left
              · go_simp
                try with_reducible rfl
              simp only [Act.put, List.setIfInBounds_toArray, List.set_cons_zero, List.set_cons_succ]
              refine pl_take (d := some 51) (v := ?_) (by rfl) ?_ rfl ?_
              rotate_left
              · go_simp
                try with_reducible rfl
              simp only [Act.put, List.setIfInBounds_toArray, List.set_cons_zero, List.set_cons_succ]
              refine pl_skip (d := some 52) (by rfl) rfl ?_
              simp only [Act.put, List.setIfInBounds_toArray, List.set_cons_zero, List.set_cons_succ]
              refine pl_skip (d := some 53) (by rfl) rfl ?_
              simp only [Act.put, List.setIfInBounds_toArray, List.set_cons_zero, List.set_cons_succ]
              refine pl_skip (d := some 54) (by rfl) rfl ?_
              simp only [Act.put, List.setIfInBounds_toArray, List.set_cons_zero, List.set_cons_succ]
              refine pl_take (d := some 55) (v := ?_) (by rfl) ?_ rfl ?_
              rotate_left
              · go_simp
                try with_reducible rfl
              simp only [Act.put, List.setIfInBounds_toArray, List.set_cons_zero, List.set_cons_succ]
              refine pl_take (d := some 56) (v := ?_) (by rfl) ?_ rfl ?_
              rotate_left
              · go_simp
                try with_reducible rfl
              simp only [Act.put, List.setIfInBounds_toArray, List.set_cons_zero, List.set_cons_succ]
              refine pl_skip (d := some 57) (by rfl) rfl ?_
              simp only [Act.put, List.setIfInBounds_toArray, List.set_cons_zero, List.set_cons_succ]
              refine pl_skip (d := some 58) (by rfl) rfl ?_
              simp only [Act.put, List.setIfInBounds_toArray, List.set_cons_zero, List.set_cons_succ]
              refine pl_skip (d := some 59) (by rfl) rfl ?_
              simp only [Act.put, List.setIfInBounds_toArray, List.set_cons_zero, List.set_cons_succ]
              refine pl_take (d := some 60) (v := ?_) (by rfl) ?_ rfl ?_
              rotate_left
              · go_simp
                try with_reducible rfl
              simp only [Act.put, List.setIfInBounds_toArray, List.set_cons_zero, List.set_cons_succ]
              refine pl_take (d := some 3) (v := ?_) (by rfl) ?_ rfl ?_
              rotate_left
              · go_simp
                try with_reducible rfl
              simp only [Act.put, List.setIfInBounds_toArray, List.set_cons_zero, List.set_cons_succ]
              refine pl_nil ?_
              go_wp2_with fail
              go_meet
              exact ⟨congrArg Value.bool (by have := HB5.out; simpa using this), hide HS⟩
            · refine pl_take (d := some 42) (v := ?_) (by rfl) ?_ rfl ?_
              rotate_left
              · go_simp
                try with_reducible rfl
              simp only [Act.put, List.setIfInBounds_toArray, List.set_cons_zero, List.set_cons_succ]
              refine pl_take (d := some 43) (v := .int .i64 m.ce) (by rfl) (pl_one rfl rfl d0 Tryz.underlying3 rfl) rfl ?_
              simp only [Act.put, List.setIfInBounds_toArray, List.set_cons_zero, List.set_cons_succ]
              refine pl_call (d := some 44) (by rfl) (by go_simp; first | done | exact ⟨rfl, rfl⟩ | with_reducible rfl) rfl ?_
              refine (gCe _).mono ?_
              rintro _ w9 ⟨rfl, hx⟩
              obtain rfl := hx.symm
              clear hx
              refine ⟨_, rfl, ?_⟩
              simp only [Act.put, List.setIfInBounds_toArray, List.set_cons_zero, List.set_cons_succ]
              cases b1
              · refine pl_take (d := some 45) (v := ?_) (by rfl) ?_ rfl ?_
                rotate_left
                · go_simp
                  try with_reducible rfl
                simp only [Act.put, List.setIfInBounds_toArray, List.set_cons_zero, List.set_cons_succ]
                refine pl_take (d := some 46) (v := ?_) (by rfl) ?_ rfl ?_
                rotate_left
                · go_simp
                  try with_reducible rfl
                simp only [Act.put, List.setIfInBounds_toArray, List.set_cons_zero, List.set_cons_succ]
                refine pl_skip (d := some 47) (by rfl) rfl ?_
                simp only [Act.put, List.setIfInBounds_toArray, List.set_cons_zero, List.set_cons_succ]
                refine pl_skip (d := some 48) (by rfl) rfl ?_
                simp only [Act.put, List.setIfInBounds_toArray, List.set_cons_zero, List.set_cons_succ]
                refine pl_skip (d := some 49) (by rfl) rfl ?_
                simp only [Act.put, List.setIfInBounds_toArray, List.set_cons_zero, List.set_cons_succ]
                refine pl_take (d := some 50) (v := ?_) (by rfl) ?_ rfl ?_
                rotate_left
                · go_simp
                  try with_reducible rfl
                simp only [Act.put, List.setIfInBounds_toArray, List.set_cons_zero, List.set_cons_succ]
                refine pl_take (d := some 51) (v := ?_) (by rfl) ?_ rfl ?_
                rotate_left
                · go_simp
                  try with_reducible rfl
                simp only [Act.put, List.setIfInBounds_toArray, List.set_cons_zero, List.set_cons_succ]
                refine pl_skip (d := some 52) (by rfl) rfl ?_
                simp only [Act.put, List.setIfInBounds_toArray, List.set_cons_zero, List.set_cons_succ]
                refine pl_skip (d := some 53) (by rfl) rfl ?_
                simp only [Act.put, List.setIfInBounds_toArray, List.set_cons_zero, List.set_cons_succ]
                refine pl_skip (d := some 54) (by rfl) rfl ?_
                simp only [Act.put, List.setIfInBounds_toArray, List.set_cons_zero, List.set_cons_succ]
                refine pl_take (d := some 55) (v := ?_) (by rfl) ?_ rfl ?_
                rotate_left
                · go_simp
                  try with_reducible rfl
                simp only [Act.put, List.setIfInBounds_toArray, List.set_cons_zero, List.set_cons_succ]
                refine pl_take (d := some 56) (v := ?_) (by rfl) ?_ rfl ?_
                rotate_left
                · go_simp
                  try with_reducible rfl
                simp only [Act.put, List.setIfInBounds_toArray, List.set_cons_zero, List.set_cons_succ]
                refine pl_skip (d := some 57) (by rfl) rfl ?_
                simp only [Act.put, List.setIfInBounds_toArray, List.set_cons_zero, List.set_cons_succ]
                refine pl_skip (d := some 58) (by rfl) rfl ?_
                simp only [Act.put, List.setIfInBounds_toArray, List.set_cons_zero, List.set_cons_succ]
                refine pl_skip (d := some 59) (by rfl) rfl ?_
                simp only [Act.put, List.setIfInBounds_toArray, List.set_cons_zero, List.set_cons_succ]
                refine pl_take (d := some 60) (v := ?_) (by rfl) ?_ rfl ?_
                rotate_left
                · go_simp
                  try with_reducible rfl
                simp only [Act.put, List.setIfInBounds_toArray, List.set_cons_zero, List.set_cons_succ]
                refine pl_take (d := some 3) (v := ?_) (by rfl) ?_ rfl ?_
                rotate_left
                · go_simp
                  try with_reducible rfl
                simp only [Act.put, List.setIfInBounds_toArray, List.set_cons_zero, List.set_cons_succ]
                refine pl_nil ?_
                go_wp2_with fail
                go_meet
                exact ⟨congrArg Value.bool (by have := HB5.out; simpa using this), hide HS⟩
              · refine pl_take (d := some 45) (v := ?_) (by rfl) ?_ rfl ?_
                rotate_left
                · go_simp
                  try with_reducible rfl
                simp only [Act.put, List.setIfInBounds_toArray, List.set_cons_zero, List.set_cons_succ]
                refine pl_take (d := some 46) (v := ?_) (by rfl) ?_ rfl ?_
                rotate_left
                · go_simp
                  try with_reducible rfl
                simp only [Act.put, List.setIfInBounds_toArray, List.set_cons_zero, List.set_cons_succ]
                refine pl_take (d := some 47) (v := ?_) (by rfl) ?_ rfl ?_
                rotate_left
                · go_simp
                  try with_reducible rfl
                simp only [Act.put, List.setIfInBounds_toArray, List.set_cons_zero, List.set_cons_succ]
                refine pl_take (d := some 48) (v := .int .i64 m.cv) (by rfl) (pl_one rfl rfl d2 Tryz.underlying3 rfl) rfl ?_
                simp only [Act.put, List.setIfInBounds_toArray, List.set_cons_zero, List.set_cons_succ]
                refine pl_call (d := some 49) (by rfl) (by go_simp; first | done | exact ⟨rfl, rfl⟩ | with_reducible rfl) rfl ?_
                refine (gCv _).mono ?_
                rintro _ w9 ⟨rfl, hx⟩
                obtain rfl := hx.symm
                clear hx
                refine ⟨_, rfl, ?_⟩
                simp only [Act.put, List.setIfInBounds_toArray, List.set_cons_zero, List.set_cons_succ]
                cases b2
                · refine pl_take (d := some 50) (v := ?_) (by rfl) ?_ rfl ?_
                  rotate_left
                  · go_simp
                    try with_reducible rfl
                  simp only [Act.put, List.setIfInBounds_toArray, List.set_cons_zero, List.set_cons_succ]
                  refine pl_take (d := some 51) (v := ?_) (by rfl) ?_ rfl ?_
                  rotate_left
                  · go_simp
                    try with_reducible rfl
                  simp only [Act.put, List.setIfInBounds_toArray, List.set_cons_zero, List.set_cons_succ]
                  refine pl_skip (d := some 52) (by rfl) rfl ?_
                  simp only [Act.put, List.setIfInBounds_toArray, List.set_cons_zero, List.set_cons_succ]
                  refine pl_skip (d := some 53) (by rfl) rfl ?_
                  simp only [Act.put, List.setIfInBounds_toArray, List.set_cons_zero, List.set_cons_succ]
                  refine pl_skip (d := some 54) (by rfl) rfl ?_
                  simp only [Act.put, List.setIfInBounds_toArray, List.set_cons_zero, List.set_cons_succ]
                  refine pl_take (d := some 55) (v := ?_) (by rfl) ?_ rfl ?_
                  rotate_left
                  · go_simp
                    try with_reducible rfl
                  simp only [Act.put, List.setIfInBounds_toArray, List.set_cons_zero, List.set_cons_succ]
                  refine pl_take (d := some 56) (v := ?_) (by rfl) ?_ rfl ?_
                  rotate_left
                  · go_simp
                    try with_reducible rfl
                  simp only [Act.put, List.setIfInBounds_toArray, List.set_cons_zero, List.set_cons_succ]
                  refine pl_skip (d := some 57) (by rfl) rfl ?_
                  simp only [Act.put, List.setIfInBounds_toArray, List.set_cons_zero, List.set_cons_succ]
                  refine pl_skip (d := some 58) (by rfl) rfl ?_
                  simp only [Act.put, List.setIfInBounds_toArray, List.set_cons_zero, List.set_cons_succ]
                  refine pl_skip (d := some 59) (by rfl) rfl ?_
                  simp only [Act.put, List.setIfInBounds_toArray, List.set_cons_zero, List.set_cons_succ]
                  refine pl_take (d := some 60) (v := ?_) (by rfl) ?_ rfl ?_
                  rotate_left
                  · go_simp
                    try with_reducible rfl
                  simp only [Act.put, List.setIfInBounds_toArray, List.set_cons_zero, List.set_cons_succ]
                  refine pl_take (d := some 3) (v := ?_) (by rfl) ?_ rfl ?_
                  rotate_left
                  · go_simp
                    try with_reducible rfl
                  simp only [Act.put, List.setIfInBounds_toArray, List.set_cons_zero, List.set_cons_succ]
                  refine pl_nil ?_
                  go_wp2_with fail
                  go_meet
                  exact ⟨congrArg Value.bool (by have := HB5.out; simpa using this), hide HS⟩
                · refine pl_take (d := some 50) (v := ?_) (by rfl) ?_ rfl ?_
                  rotate_left
                  · go_simp
                    try with_reducible rfl
                  simp only [Act.put, List.setIfInBounds_toArray, List.set_cons_zero, List.set_cons_succ]
                  refine pl_take (d := some 51) (v := ?_) (by rfl) ?_ rfl ?_
                  rotate_left
                  · go_simp
                    try with_reducible rfl
                  simp only [Act.put, List.setIfInBounds_toArray, List.set_cons_zero, List.set_cons_succ]
                  refine pl_take (d := some 52) (v := ?_) (by rfl) ?_ rfl ?_
                  rotate_left
                  · go_simp
                    try with_reducible rfl
                  simp only [Act.put, List.setIfInBounds_toArray, List.set_cons_zero, List.set_cons_succ]
                  refine pl_take (d := some 53) (v := .int .i64 m.cl) (by rfl) (pl_one rfl rfl d1 Tryz.underlying3 rfl) rfl ?_
                  simp only [Act.put, List.setIfInBounds_toArray, List.set_cons_zero, List.set_cons_succ]
                  refine pl_call (d := some 54) (by rfl) (by go_simp; first | done | exact ⟨rfl, rfl⟩ | with_reducible rfl) rfl ?_
                  refine (gCl _).mono ?_
                  rintro _ w9 ⟨rfl, hx⟩
                  obtain rfl := hx.symm
                  clear hx
                  refine ⟨_, rfl, ?_⟩
                  simp only [Act.put, List.setIfInBounds_toArray, List.set_cons_zero, List.set_cons_succ]
                  cases b3
                  · refine pl_take (d := some 55) (v := ?_) (by rfl) ?_ rfl ?_
                    rotate_left
                    · go_simp
                      try with_reducible rfl
                    simp only [Act.put, List.setIfInBounds_toArray, List.set_cons_zero, List.set_cons_succ]
                    refine pl_take (d := some 56) (v := ?_) (by rfl) ?_ rfl ?_
                    rotate_left
                    · go_simp
                      try with_reducible rfl
                    simp only [Act.put, List.setIfInBounds_toArray, List.set_cons_zero, List.set_cons_succ]
                    refine pl_skip (d := some 57) (by rfl) rfl ?_
                    simp only [Act.put, List.setIfInBounds_toArray, List.set_cons_zero, List.set_cons_succ]
                    refine pl_skip (d := some 58) (by rfl) rfl ?_
                    simp only [Act.put, List.setIfInBounds_toArray, List.set_cons_zero, List.set_cons_succ]
                    refine pl_skip (d := some 59) (by rfl) rfl ?_
                    simp only [Act.put, List.setIfInBounds_toArray, List.set_cons_zero, List.set_cons_succ]
                    refine pl_take (d := some 60) (v := ?_) (by rfl) ?_ rfl ?_
                    rotate_left
                    · go_simp
                      try with_reducible rfl
                    simp only [Act.put, List.setIfInBounds_toArray, List.set_cons_zero, List.set_cons_succ]
                    refine pl_take (d := some 3) (v := ?_) (by rfl) ?_ rfl ?_
                    rotate_left
                    · go_simp
                      try with_reducible rfl
                    simp only [Act.put, List.setIfInBounds_toArray, List.set_cons_zero, List.set_cons_succ]
                    refine pl_nil ?_
                    go_wp2_with fail
                    go_meet
                    exact ⟨congrArg Value.bool (by have := HB5.out; simpa using this), hide HS⟩
                  · refine pl_take (d := some 55) (v := ?_) (by rfl) ?_ rfl ?_
                    rotate_left
                    · go_simp
                      try with_reducible rfl
                    simp only [Act.put, List.setIfInBounds_toArray, List.set_cons_zero, List.set_cons_succ]
                    refine pl_take (d := some 56) (v := ?_) (by rfl) ?_ rfl ?_
                    rotate_left
                    · go_simp
                      try with_reducible rfl
                    simp only [Act.put, List.setIfInBounds_toArray, List.set_cons_zero, List.set_cons_succ]
                    refine pl_take (d := some 57) (v := ?_) (by rfl) ?_ rfl ?_
                    rotate_left
                    · go_simp
                      try with_reducible rfl
                    simp only [Act.put, List.setIfInBounds_toArray, List.set_cons_zero, List.set_cons_succ]
                    refine pl_take (d := some 58) (v := .slice m.he.a m.he.xs.length m.he.cap) (by rfl) (pl_one rfl rfl d3 Tryz.underlying29 rfl) rfl ?_
                    simp only [Act.put, List.setIfInBounds_toArray, List.set_cons_zero, List.set_cons_succ]
                    refine pl_call (d := some 59) (by rfl) (by go_simp; first | done | exact ⟨rfl, rfl⟩ | with_reducible rfl) rfl ?_
                    refine (cH).mono ?_
                    rintro _ w9 ⟨rfl, hb9⟩
                    replace HS := HS.trans (hb9.mono HS.size)
                    clear hb9
                    refine ⟨_, rfl, ?_⟩
                    simp only [Act.put, List.setIfInBounds_toArray, List.set_cons_zero, List.set_cons_succ]
                    cases b4
                    · refine pl_take (d := some 60) (v := ?_) (by rfl) ?_ rfl ?_
                      rotate_left
                      · go_simp
                        try with_reducible rfl
                      simp only [Act.put, List.setIfInBounds_toArray, List.set_cons_zero, List.set_cons_succ]
                      refine pl_take (d := some 3) (v := ?_) (by rfl) ?_ rfl ?_
                      rotate_left
                      · go_simp
                        try with_reducible rfl
                      simp only [Act.put, List.setIfInBounds_toArray, List.set_cons_zero, List.set_cons_succ]
                      refine pl_nil ?_
                      go_wp2_with fail
                      go_meet
                      exact ⟨congrArg Value.bool (by have := HB5.out; simpa using this), hide HS⟩
                    · refine pl_take (d := some 60) (v := ?_) (by rfl) ?_ rfl ?_
                      rotate_left
                      · go_simp
                        try with_reducible rfl
                      simp only [Act.put, List.setIfInBounds_toArray, List.set_cons_zero, List.set_cons_succ]
                      refine pl_take (d := some 3) (v := ?_) (by rfl) ?_ rfl ?_
                      rotate_left
                      · go_simp
                        try with_reducible rfl
                      simp only [Act.put, List.setIfInBounds_toArray, List.set_cons_zero, List.set_cons_succ]
                      refine pl_nil ?_
                      go_wp2_with fail
                      go_meet
                      exact ⟨congrArg Value.bool (by have := HB5.out; simpa using this), hide HS⟩
          case rest =>
            obtain ⟨rfl, HY⟩ := hcut
            obtain ⟨Y, hYY⟩ : ∃ Y, wc = Y := ⟨_, rfl⟩
            rw [hYY] at HY ⊢
            clear hYY gCe gCv gCl d0 d1 d2 d3 cH HB5
            have hBY := hBX.trans (HY.out.mono hBX.size)
            have hRY := range_below hRX HY.out hsX
            have hsY := Nat.lt_of_lt_of_le hsX HY.out.size
            have MA := hat hRY
            have rB := ms_bat MA
            have cN : Y.cell? ⟨w.heap.size, 47, none⟩ = some m.ne.val := MA.ne
            have cG : Y.cell? ⟨w.heap.size, 118, none⟩ = some m.sg.val := MA.sg
            have cT : Y.cell? ⟨w.heap.size, 117, none⟩ = some (.string m.st) := MA.st
            have cB := gB Y hBY
            have gN := fun w0 (h0 : Below Y.heap.size Y w0) => gNn w0 (hBY.trans (h0.mono hBY.size))
            have gG := fun w0 (h0 : Below Y.heap.size Y w0) => gGg w0 (hBY.trans (h0.mono hBY.size))
            clear MA HY HS hBX hRX hsX gB gNn gGg
            have HS : Below Y.heap.size Y Y := Below.refl _ _
            go_upto_region 6 with fail
            go_cut [3] (fun v wx => v = .bool B6 ∧ Hid (Below Y.heap.size Y wx))
            case first =>
              try simp only [Act.put]
              refine pl_begin ?_
              refine pl_take (d := some 61) (v := ?_) (by rfl) ?_ rfl ?_
              rotate_left
              · go_simp
                try with_reducible rfl
              simp only [Act.put, List.setIfInBounds_toArray, List.set_cons_zero, List.set_cons_succ]
              refine pl_take (d := some 62) (v := ?_) (by rfl) ?_ rfl ?_
              rotate_left
              · go_simp
                try with_reducible rfl
              simp only [Act.put, List.setIfInBounds_toArray, List.set_cons_zero, List.set_cons_succ]
              cases B5
              · refine pl_skip (d := some 63) (by rfl) rfl ?_
                simp only [Act.put, List.setIfInBounds_toArray, List.set_cons_zero, List.set_cons_succ]
                refine pl_skip (d := some 64) (by rfl) rfl ?_
                simp only [Act.put, List.setIfInBounds_toArray, List.set_cons_zero, List.set_cons_succ]
                refine pl_skip (d := some 65) (by rfl) rfl ?_
                simp only [Act.put, List.setIfInBounds_toArray, List.set_cons_zero, List.set_cons_succ]
                refine pl_take (d := some 66) (v := ?_) (by rfl) ?_ rfl ?_
                rotate_left
                · go_simp
                  try with_reducible rfl
                simp only [Act.put, List.setIfInBounds_toArray, List.set_cons_zero, List.set_cons_succ]
                refine pl_take (d := some 67) (v := ?_) (by rfl) ?_ rfl ?_
                rotate_left
                · go_simp
                  try with_reducible rfl
                simp only [Act.put, List.setIfInBounds_toArray, List.set_cons_zero, List.set_cons_succ]
                refine pl_skip (d := some 68) (by rfl) rfl ?_
                simp only [Act.put, List.setIfInBounds_toArray, List.set_cons_zero, List.set_cons_succ]
                refine pl_skip (d := some 69) (by rfl) rfl ?_
                simp only [Act.put, List.setIfInBounds_toArray, List.set_cons_zero, List.set_cons_succ]
                refine pl_skip (d := some 70) (by rfl) rfl ?_
                simp only [Act.put, List.setIfInBounds_toArray, List.set_cons_zero, List.set_cons_succ]
                refine pl_take (d := some 71) (v := ?_) (by rfl) ?_ rfl ?_
                rotate_left
                · go_simp
                  try with_reducible rfl
                simp only [Act.put, List.setIfInBounds_toArray, List.set_cons_zero, List.set_cons_succ]
                refine pl_take (d := some 72) (v := ?_) (by rfl) ?_ rfl ?_
                rotate_left
                · go_simp
                  try with_reducible rfl
                simp only [Act.put, List.setIfInBounds_toArray, List.set_cons_zero, List.set_cons_succ]
                refine pl_skip (d := some 73) (by rfl) rfl ?_
                simp only [Act.put, List.setIfInBounds_toArray, List.set_cons_zero, List.set_cons_succ]
                refine pl_skip (d := some 74) (by rfl) rfl ?_
                simp only [Act.put, List.setIfInBounds_toArray, List.set_cons_zero, List.set_cons_succ]
                refine pl_skip (d := some 75) (by rfl) rfl ?_
                simp only [Act.put, List.setIfInBounds_toArray, List.set_cons_zero, List.set_cons_succ]
                refine pl_take (d := some 76) (v := ?_) (by rfl) ?_ rfl ?_
                rotate_left
                · go_simp
                  try with_reducible rfl
                simp only [Act.put, List.setIfInBounds_toArray, List.set_cons_zero, List.set_cons_succ]
                refine pl_take (d := some 77) (v := ?_) (by rfl) ?_ rfl ?_
                rotate_left
                · go_simp
                  try with_reducible rfl
                simp only [Act.put, List.setIfInBounds_toArray, List.set_cons_zero, List.set_cons_succ]
                refine pl_skip (d := some 78) (by rfl) rfl ?_
                simp only [Act.put, List.setIfInBounds_toArray, List.set_cons_zero, List.set_cons_succ]
                refine pl_skip (d := some 79) (by rfl) rfl ?_
                simp only [Act.put, List.setIfInBounds_toArray, List.set_cons_zero, List.set_cons_succ]
                refine pl_skip (d := some 80) (by rfl) rfl ?_
                simp only [Act.put, List.setIfInBounds_toArray, List.set_cons_zero, List.set_cons_succ]
                refine pl_skip (d := some 81) (by rfl) rfl ?_
                simp only [Act.put, List.setIfInBounds_toArray, List.set_cons_zero, List.set_cons_succ]
                refine pl_take (d := some 82) (v := ?_) (by rfl) ?_ rfl ?_
                rotate_left
                · go_simp
                  try with_reducible rfl
                simp only [Act.put, List.setIfInBounds_toArray, List.set_cons_zero, List.set_cons_succ]
                refine pl_take (d := some 3) (v := ?_) (by rfl) ?_ rfl ?_
                rotate_left
                · go_simp
                  try with_reducible rfl
                simp only [Act.put, List.setIfInBounds_toArray, List.set_cons_zero, List.set_cons_succ]
                refine pl_nil ?_
                go_wp2_with fail
                go_meet
                exact ⟨congrArg Value.bool (by have := HB6.out; simpa using this), hide HS⟩
              · refine pl_take (d := some 63) (v := ?_) (by rfl) ?_ rfl ?_
                rotate_left
                · go_simp
                  try with_reducible rfl
                simp only [Act.put, List.setIfInBounds_toArray, List.set_cons_zero, List.set_cons_succ]
                refine pl_take (d := some 64) (v := .agg ([.bool m.q, m.rs.val] : List Value).toArray) (by rfl) (ex_mid rfl rfl rB Tryz.underlying24 rfl iszBa) rfl ?_
                simp only [Act.put, List.setIfInBounds_toArray, List.set_cons_zero, List.set_cons_succ]
                refine pl_call (d := some 65) (by rfl) (by go_simp; first | done | exact ⟨rfl, rfl⟩ | with_reducible rfl) rfl ?_
                refine (cB).mono ?_
                rintro _ w9 ⟨rfl, hb9⟩
                replace HS := HS.trans (hb9.mono HS.size)
                clear hb9
                refine ⟨_, rfl, ?_⟩
                simp only [Act.put, List.setIfInBounds_toArray, List.set_cons_zero, List.set_cons_succ]
                cases b5
                · refine pl_take (d := some 66) (v := ?_) (by rfl) ?_ rfl ?_
                  rotate_left
                  · go_simp
                    try with_reducible rfl
                  simp only [Act.put, List.setIfInBounds_toArray, List.set_cons_zero, List.set_cons_succ]
                  refine pl_take (d := some 67) (v := ?_) (by rfl) ?_ rfl ?_
                  rotate_left
                  · go_simp
                    try with_reducible rfl
                  simp only [Act.put, List.setIfInBounds_toArray, List.set_cons_zero, List.set_cons_succ]
                  refine pl_skip (d := some 68) (by rfl) rfl ?_
                  simp only [Act.put, List.setIfInBounds_toArray, List.set_cons_zero, List.set_cons_succ]
                  refine pl_skip (d := some 69) (by rfl) rfl ?_
                  simp only [Act.put, List.setIfInBounds_toArray, List.set_cons_zero, List.set_cons_succ]
                  refine pl_skip (d := some 70) (by rfl) rfl ?_
                  simp only [Act.put, List.setIfInBounds_toArray, List.set_cons_zero, List.set_cons_succ]
                  refine pl_take (d := some 71) (v := ?_) (by rfl) ?_ rfl ?_
                  rotate_left
                  · go_simp
                    try with_reducible rfl
                  simp only [Act.put, List.setIfInBounds_toArray, List.set_cons_zero, List.set_cons_succ]
                  refine pl_take (d := some 72) (v := ?_) (by rfl) ?_ rfl ?_
                  rotate_left
                  · go_simp
                    try with_reducible rfl
                  simp only [Act.put, List.setIfInBounds_toArray, List.set_cons_zero, List.set_cons_succ]
                  refine pl_skip (d := some 73) (by rfl) rfl ?_
                  simp only [Act.put, List.setIfInBounds_toArray, List.set_cons_zero, List.set_cons_succ]
                  refine pl_skip (d := some 74) (by rfl) rfl ?_
                  simp only [Act.put, List.setIfInBounds_toArray, List.set_cons_zero, List.set_cons_succ]
                  refine pl_skip (d := some 75) (by rfl) rfl ?_
                  simp only [Act.put, List.setIfInBounds_toArray, List.set_cons_zero, List.set_cons_succ]
                  refine pl_take (d := some 76) (v := ?_) (by rfl) ?_ rfl ?_
                  rotate_left
                  · go_simp
                    try with_reducible rfl
                  simp only [Act.put, List.setIfInBounds_toArray, List.set_cons_zero, List.set_cons_succ]
                  refine pl_take (d := some 77) (v := ?_) (by rfl) ?_ rfl ?_
                  rotate_left
                  · go_simp
                    try with_reducible rfl
                  simp only [Act.put, List.setIfInBounds_toArray, List.set_cons_zero, List.set_cons_succ]
                  refine pl_skip (d := some 78) (by rfl) rfl ?_
                  simp only [Act.put, List.setIfInBounds_toArray, List.set_cons_zero, List.set_cons_succ]
                  refine pl_skip (d := some 79) (by rfl) rfl ?_
                  simp only [Act.put, List.setIfInBounds_toArray, List.set_cons_zero, List.set_cons_succ]
                  refine pl_skip (d := some 80) (by rfl) rfl ?_
                  simp only [Act.put, List.setIfInBounds_toArray, List.set_cons_zero, List.set_cons_succ]
                  refine pl_skip (d := some 81) (by rfl) rfl ?_
                  simp only [Act.put, List.setIfInBounds_toArray, List.set_cons_zero, List.set_cons_succ]
                  refine pl_take (d := some 82) (v := ?_) (by rfl) ?_ rfl ?_
                  rotate_left
                  · go_simp
                    try with_reducible rfl
                  simp only [Act.put, List.setIfInBounds_toArray, List.set_cons_zero, List.set_cons_succ]
                  refine pl_take (d := some 3) (v := ?_) (by rfl) ?_ rfl ?_
                  rotate_left
                  · go_simp
                    try with_reducible rfl
                  simp only [Act.put, List.setIfInBounds_toArray, List.set_cons_zero, List.set_cons_succ]
                  refine pl_nil ?_
                  go_wp2_with fail
                  go_meet
                  exact ⟨congrArg Value.bool (by have := HB6.out; simpa using this), hide HS⟩
                · refine pl_take (d := some 66) (v := ?_) (by rfl) ?_ rfl ?_
                  rotate_left
                  · go_simp
                    try with_reducible rfl
                  simp only [Act.put, List.setIfInBounds_toArray, List.set_cons_zero, List.set_cons_succ]
                  refine pl_take (d := some 67) (v := ?_) (by rfl) ?_ rfl ?_
                  rotate_left
                  · go_simp
                    try with_reducible rfl
                  simp only [Act.put, List.setIfInBounds_toArray, List.set_cons_zero, List.set_cons_succ]
                  refine pl_take (d := some 68) (v := ?_) (by rfl) ?_ rfl ?_
                  rotate_left
                  · go_simp
                    try with_reducible rfl
                  simp only [Act.put, List.setIfInBounds_toArray, List.set_cons_zero, List.set_cons_succ]
                  refine pl_take (d := some 69) (v := m.ne.val) (by rfl) (pl_one rfl rfl ((HS.cell (p := ⟨w.heap.size, 47, none⟩) hsY).trans cN) Tryz.underlying32 rfl) rfl ?_
                  simp only [Act.put, List.setIfInBounds_toArray, List.set_cons_zero, List.set_cons_succ]
                  refine pl_call (d := some 70) (by rfl) (by go_simp; first | done | exact ⟨rfl, rfl⟩ | with_reducible rfl) rfl ?_
                  refine (gN w9 HS).mono ?_
                  rintro _ w10 ⟨rfl, hx⟩
                  obtain rfl := hx.symm
                  clear hx
                  refine ⟨_, rfl, ?_⟩
                  simp only [Act.put, List.setIfInBounds_toArray, List.set_cons_zero, List.set_cons_succ]
                  cases b6
                  · refine pl_take (d := some 71) (v := ?_) (by rfl) ?_ rfl ?_
                    rotate_left
                    · go_simp
                      try with_reducible rfl
                    simp only [Act.put, List.setIfInBounds_toArray, List.set_cons_zero, List.set_cons_succ]
                    refine pl_take (d := some 72) (v := ?_) (by rfl) ?_ rfl ?_
                    rotate_left
                    · go_simp
                      try with_reducible rfl
                    simp only [Act.put, List.setIfInBounds_toArray, List.set_cons_zero, List.set_cons_succ]
                    refine pl_skip (d := some 73) (by rfl) rfl ?_
                    simp only [Act.put, List.setIfInBounds_toArray, List.set_cons_zero, List.set_cons_succ]
                    refine pl_skip (d := some 74) (by rfl) rfl ?_
                    simp only [Act.put, List.setIfInBounds_toArray, List.set_cons_zero, List.set_cons_succ]
                    refine pl_skip (d := some 75) (by rfl) rfl ?_
                    simp only [Act.put, List.setIfInBounds_toArray, List.set_cons_zero, List.set_cons_succ]
                    refine pl_take (d := some 76) (v := ?_) (by rfl) ?_ rfl ?_
                    rotate_left
                    · go_simp
                      try with_reducible rfl
                    simp only [Act.put, List.setIfInBounds_toArray, List.set_cons_zero, List.set_cons_succ]
                    refine pl_take (d := some 77) (v := ?_) (by rfl) ?_ rfl ?_
                    rotate_left
                    · go_simp
                      try with_reducible rfl
                    simp only [Act.put, List.setIfInBounds_toArray, List.set_cons_zero, List.set_cons_succ]
                    refine pl_skip (d := some 78) (by rfl) rfl ?_
                    simp only [Act.put, List.setIfInBounds_toArray, List.set_cons_zero, List.set_cons_succ]
                    refine pl_skip (d := some 79) (by rfl) rfl ?_
                    simp only [Act.put, List.setIfInBounds_toArray, List.set_cons_zero, List.set_cons_succ]
                    refine pl_skip (d := some 80) (by rfl) rfl ?_
                    simp only [Act.put, List.setIfInBounds_toArray, List.set_cons_zero, List.set_cons_succ]
                    refine pl_skip (d := some 81) (by rfl) rfl ?_
                    simp only [Act.put, List.setIfInBounds_toArray, List.set_cons_zero, List.set_cons_succ]
                    refine pl_take (d := some 82) (v := ?_) (by rfl) ?_ rfl ?_
                    rotate_left
                    · go_simp
                      try with_reducible rfl
                    simp only [Act.put, List.setIfInBounds_toArray, List.set_cons_zero, List.set_cons_succ]
                    refine pl_take (d := some 3) (v := ?_) (by rfl) ?_ rfl ?_
                    rotate_left
                    · go_simp
                      try with_reducible rfl
                    simp only [Act.put, List.setIfInBounds_toArray, List.set_cons_zero, List.set_cons_succ]
                    refine pl_nil ?_
                    go_wp2_with fail
                    go_meet
                    exact ⟨congrArg Value.bool (by have := HB6.out; simpa using this), hide HS⟩
                  · refine pl_take (d := some 71) (v := ?_) (by rfl) ?_ rfl ?_
                    rotate_left
                    · go_simp
                      try with_reducible rfl
                    simp only [Act.put, List.setIfInBounds_toArray, List.set_cons_zero, List.set_cons_succ]
                    refine pl_take (d := some 72) (v := ?_) (by rfl) ?_ rfl ?_
                    rotate_left
                    · go_simp
                      try with_reducible rfl
                    simp only [Act.put, List.setIfInBounds_toArray, List.set_cons_zero, List.set_cons_succ]
                    refine pl_take (d := some 73) (v := ?_) (by rfl) ?_ rfl ?_
                    rotate_left
                    · go_simp
                      try with_reducible rfl
                    simp only [Act.put, List.setIfInBounds_toArray, List.set_cons_zero, List.set_cons_succ]
                    refine pl_take (d := some 74) (v := m.sg.val) (by rfl) (pl_one rfl rfl ((HS.cell (p := ⟨w.heap.size, 118, none⟩) hsY).trans cG) Tryz.underlying33 rfl) rfl ?_
                    simp only [Act.put, List.setIfInBounds_toArray, List.set_cons_zero, List.set_cons_succ]
                    refine pl_call (d := some 75) (by rfl) (by go_simp; first | done | exact ⟨rfl, rfl⟩ | with_reducible rfl) rfl ?_
                    refine (gG w9 HS).mono ?_
                    rintro _ w10 ⟨rfl, hx⟩
                    obtain rfl := hx.symm
                    clear hx
                    refine ⟨_, rfl, ?_⟩
                    simp only [Act.put, List.setIfInBounds_toArray, List.set_cons_zero, List.set_cons_succ]
                    cases b7
                    · refine pl_take (d := some 76) (v := ?_) (by rfl) ?_ rfl ?_
                      rotate_left
                      · go_simp
                        try with_reducible rfl
                      simp only [Act.put, List.setIfInBounds_toArray, List.set_cons_zero, List.set_cons_succ]
                      refine pl_take (d := some 77) (v := ?_) (by rfl) ?_ rfl ?_
                      rotate_left
                      · go_simp
                        try with_reducible rfl
                      simp only [Act.put, List.setIfInBounds_toArray, List.set_cons_zero, List.set_cons_succ]
                      refine pl_skip (d := some 78) (by rfl) rfl ?_
                      simp only [Act.put, List.setIfInBounds_toArray, List.set_cons_zero, List.set_cons_succ]
                      refine pl_skip (d := some 79) (by rfl) rfl ?_
                      simp only [Act.put, List.setIfInBounds_toArray, List.set_cons_zero, List.set_cons_succ]
                      refine pl_skip (d := some 80) (by rfl) rfl ?_
                      simp only [Act.put, List.setIfInBounds_toArray, List.set_cons_zero, List.set_cons_succ]
                      refine pl_skip (d := some 81) (by rfl) rfl ?_
                      simp only [Act.put, List.setIfInBounds_toArray, List.set_cons_zero, List.set_cons_succ]
                      refine pl_take (d := some 82) (v := ?_) (by rfl) ?_ rfl ?_
                      rotate_left
                      · go_simp
                        try with_reducible rfl
                      simp only [Act.put, List.setIfInBounds_toArray, List.set_cons_zero, List.set_cons_succ]
                      refine pl_take (d := some 3) (v := ?_) (by rfl) ?_ rfl ?_
                      rotate_left
                      · go_simp
                        try with_reducible rfl
                      simp only [Act.put, List.setIfInBounds_toArray, List.set_cons_zero, List.set_cons_succ]
                      refine pl_nil ?_
                      go_wp2_with fail
                      go_meet
                      exact ⟨congrArg Value.bool (by have := HB6.out; simpa using this), hide HS⟩
                    · refine pl_take (d := some 76) (v := ?_) (by rfl) ?_ rfl ?_
                      rotate_left
                      · go_simp
                        try with_reducible rfl
                      simp only [Act.put, List.setIfInBounds_toArray, List.set_cons_zero, List.set_cons_succ]
                      refine pl_take (d := some 77) (v := ?_) (by rfl) ?_ rfl ?_
                      rotate_left
                      · go_simp
                        try with_reducible rfl
                      simp only [Act.put, List.setIfInBounds_toArray, List.set_cons_zero, List.set_cons_succ]
                      refine pl_take (d := some 78) (v := ?_) (by rfl) ?_ rfl ?_
                      rotate_left
                      · go_simp
                        try with_reducible rfl
                      simp only [Act.put, List.setIfInBounds_toArray, List.set_cons_zero, List.set_cons_succ]
                      refine pl_take (d := some 79) (v := .string m.st) (by rfl) (pl_one rfl rfl ((HS.cell (p := ⟨w.heap.size, 117, none⟩) hsY).trans cT) Tryz.underlying9 rfl) rfl ?_
                      simp only [Act.put, List.setIfInBounds_toArray, List.set_cons_zero, List.set_cons_succ]
                      refine pl_take (d := some 80) (v := ?_) (by rfl) ?_ rfl ?_
                      rotate_left
                      · go_simp
                        try with_reducible rfl
                      simp only [Act.put, List.setIfInBounds_toArray, List.set_cons_zero, List.set_cons_succ]
                      refine pl_take (d := some 81) (v := .bool b8) (by rfl) (by rw [← hb8.out]; go_simp) rfl ?_
                      simp only [Act.put, List.setIfInBounds_toArray, List.set_cons_zero, List.set_cons_succ]
                      cases b8
                      · refine pl_take (d := some 82) (v := ?_) (by rfl) ?_ rfl ?_
                        rotate_left
                        · go_simp
                          try with_reducible rfl
                        simp only [Act.put, List.setIfInBounds_toArray, List.set_cons_zero, List.set_cons_succ]
                        refine pl_take (d := some 3) (v := ?_) (by rfl) ?_ rfl ?_
                        rotate_left
                        · go_simp
                          try with_reducible rfl
                        simp only [Act.put, List.setIfInBounds_toArray, List.set_cons_zero, List.set_cons_succ]
                        refine pl_nil ?_
                        go_wp2_with fail
                        go_meet
                        exact ⟨congrArg Value.bool (by have := HB6.out; simpa using this), hide HS⟩
                      · refine pl_take (d := some 82) (v := ?_) (by rfl) ?_ rfl ?_
                        rotate_left
                        · go_simp
                          try with_reducible rfl
                        simp only [Act.put, List.setIfInBounds_toArray, List.set_cons_zero, List.set_cons_succ]
                        refine pl_take (d := some 3) (v := ?_) (by rfl) ?_ rfl ?_
                        rotate_left
                        · go_simp
                          try with_reducible rfl
                        simp only [Act.put, List.setIfInBounds_toArray, List.set_cons_zero, List.set_cons_succ]
                        refine pl_nil ?_
                        go_wp2_with fail
                        go_meet
                        exact ⟨congrArg Value.bool (by have := HB6.out; simpa using this), hide HS⟩
            case rest =>
              obtain ⟨rfl, HZ⟩ := hcut
              obtain ⟨Z, hZZ⟩ : ∃ Z, wc = Z := ⟨_, rfl⟩
              rw [hZZ] at HZ ⊢
              clear hZZ rB cN cG cT cB gN gG HS HB6 hb8
              have hBZ := hBY.trans (HZ.out.mono hBY.size)
              have hRZ := range_below hRY HZ.out hsY
              clear HZ hBY hRY hsY
              have MA := hat hRZ
              have ck := MA.k
              have hkk : m.ms.k = m.k := rfl
              rw [hkk] at ck
              have HS : Below Z.heap.size Z Z := Below.refl _ _
              by_cases h2 : m.k = 2
              · have h7 : m.k ≠ 7 := by omega
                rw [if_pos h2, if_neg h7] at HG
                rw [h2] at ck
                have gX := fun w0 => xvote_any m.vt w0
                obtain ⟨bx, hbx⟩ : ∃ b, m.vt.may = b := ⟨_, rfl⟩
                rw [hbx] at HG
                simp only [hbx] at gX
                have HG2 := HG
                have rV : Z.rangeAt w.heap.size 7 m.vt.cells := MA.vt
                clear HG hbx MA h2 h7 h1 h8 hkk hG
                go_upto_region 8 with fail
                try simp only [Act.put]
                refine pl_begin ?_
                refine pl_take (d := some 86) (v := ?_) (by rfl) ?_ rfl ?_
                rotate_left
                · go_simp
                  try with_reducible rfl
                simp only [Act.put, List.setIfInBounds_toArray, List.set_cons_zero, List.set_cons_succ]
                refine pl_take (d := some 87) (v := ?_) (by rfl) ?_ rfl ?_
                rotate_left
                · go_simp
                  try with_reducible rfl
                simp only [Act.put, List.setIfInBounds_toArray, List.set_cons_zero, List.set_cons_succ]
                cases B6
                · refine pl_skip (d := some 88) (by rfl) rfl ?_
                  simp only [Act.put, List.setIfInBounds_toArray, List.set_cons_zero, List.set_cons_succ]
                  refine pl_skip (d := some 89) (by rfl) rfl ?_
                  simp only [Act.put, List.setIfInBounds_toArray, List.set_cons_zero, List.set_cons_succ]
                  refine pl_skip (d := some 90) (by rfl) rfl ?_
                  simp only [Act.put, List.setIfInBounds_toArray, List.set_cons_zero, List.set_cons_succ]
                  refine pl_take (d := some 91) (v := ?_) (by rfl) ?_ rfl ?_
                  rotate_left
                  · go_simp
                    try with_reducible rfl
                  simp only [Act.put, List.setIfInBounds_toArray, List.set_cons_zero, List.set_cons_succ]
                  refine pl_take (d := some 2) (v := ?_) (by rfl) ?_ rfl ?_
                  rotate_left
                  · go_simp
                    try with_reducible rfl
                  simp only [Act.put, List.setIfInBounds_toArray, List.set_cons_zero, List.set_cons_succ]
                  refine pl_nil ?_
                  go_wp2_with fail
                  go_ret
                  exact ⟨by have := HG2.out; simp at this; subst this; rfl, hBZ.trans (HS.mono hBZ.size)⟩
                · refine pl_take (d := some 88) (v := ?_) (by rfl) ?_ rfl ?_
                  rotate_left
                  · go_simp
                    try with_reducible rfl
                  simp only [Act.put, List.setIfInBounds_toArray, List.set_cons_zero, List.set_cons_succ]
                  refine pl_take (d := some 89) (v := .agg m.vt.cells.toArray) (by rfl) (ex_mid rfl rfl rV Tryz.underlying28 rfl hix) rfl ?_
                  simp only [Act.put, List.setIfInBounds_toArray, List.set_cons_zero, List.set_cons_succ]
                  refine pl_call (d := some 90) (by rfl) (by go_simp; first | done | exact ⟨rfl, rfl⟩ | with_reducible rfl) rfl ?_
                  refine (gX Z).mono ?_
                  rintro _ w9 ⟨rfl, hb9⟩
                  replace HS := HS.trans (hb9.mono HS.size)
                  clear hb9
                  refine ⟨_, rfl, ?_⟩
                  simp only [Act.put, List.setIfInBounds_toArray, List.set_cons_zero, List.set_cons_succ]
                  cases bx
                  · refine pl_take (d := some 91) (v := ?_) (by rfl) ?_ rfl ?_
                    rotate_left
                    · go_simp
                      try with_reducible rfl
                    simp only [Act.put, List.setIfInBounds_toArray, List.set_cons_zero, List.set_cons_succ]
                    refine pl_take (d := some 2) (v := ?_) (by rfl) ?_ rfl ?_
                    rotate_left
                    · go_simp
                      try with_reducible rfl
                    simp only [Act.put, List.setIfInBounds_toArray, List.set_cons_zero, List.set_cons_succ]
                    refine pl_nil ?_
                    go_wp2_with fail
                    go_ret
                    exact ⟨by have := HG2.out; simp at this; subst this; rfl, hBZ.trans (HS.mono hBZ.size)⟩
                  · refine pl_take (d := some 91) (v := ?_) (by rfl) ?_ rfl ?_
                    rotate_left
                    · go_simp
                      try with_reducible rfl
                    simp only [Act.put, List.setIfInBounds_toArray, List.set_cons_zero, List.set_cons_succ]
                    refine pl_take (d := some 2) (v := ?_) (by rfl) ?_ rfl ?_
                    rotate_left
                    · go_simp
                      try with_reducible rfl
                    simp only [Act.put, List.setIfInBounds_toArray, List.set_cons_zero, List.set_cons_succ]
                    refine pl_nil ?_
                    go_wp2_with fail
                    go_ret
                    exact ⟨by have := HG2.out; simp at this; subst this; rfl, hBZ.trans (HS.mono hBZ.size)⟩
              · by_cases h7 : m.k = 7
                · rw [if_neg h2, if_pos h7] at HG
                  rw [h7] at ck
                  have gT := fun w0 h0 => xcertMay_any m.ct m.cs w0 om.ct (am.cs.below (w' := w0) h0)
                  obtain ⟨bx, hbx⟩ : ∃ b, certMay m.ct m.cs = b := ⟨_, rfl⟩
                  rw [hbx] at HG
                  simp only [hbx] at gT
                  have HG2 := HG
                  have rC : Z.rangeAt w.heap.size 80 (certL m.ct m.cs) := MA.ct
                  clear HG hbx MA h2 h7 h1 h8 hkk hG
                  go_upto_region 10 with fail
                  try simp only [Act.put]
                  refine pl_begin ?_
                  refine pl_take (d := some 95) (v := ?_) (by rfl) ?_ rfl ?_
                  rotate_left
                  · go_simp
                    try with_reducible rfl
                  simp only [Act.put, List.setIfInBounds_toArray, List.set_cons_zero, List.set_cons_succ]
                  refine pl_take (d := some 96) (v := ?_) (by rfl) ?_ rfl ?_
                  rotate_left
                  · go_simp
                    try with_reducible rfl
                  simp only [Act.put, List.setIfInBounds_toArray, List.set_cons_zero, List.set_cons_succ]
                  cases B6
                  · refine pl_skip (d := some 97) (by rfl) rfl ?_
                    simp only [Act.put, List.setIfInBounds_toArray, List.set_cons_zero, List.set_cons_succ]
                    refine pl_skip (d := some 98) (by rfl) rfl ?_
                    simp only [Act.put, List.setIfInBounds_toArray, List.set_cons_zero, List.set_cons_succ]
                    refine pl_skip (d := some 99) (by rfl) rfl ?_
                    simp only [Act.put, List.setIfInBounds_toArray, List.set_cons_zero, List.set_cons_succ]
                    refine pl_take (d := some 100) (v := ?_) (by rfl) ?_ rfl ?_
                    rotate_left
                    · go_simp
                      try with_reducible rfl
                    simp only [Act.put, List.setIfInBounds_toArray, List.set_cons_zero, List.set_cons_succ]
                    refine pl_take (d := some 2) (v := ?_) (by rfl) ?_ rfl ?_
                    rotate_left
                    · go_simp
                      try with_reducible rfl
                    simp only [Act.put, List.setIfInBounds_toArray, List.set_cons_zero, List.set_cons_succ]
                    refine pl_nil ?_
                    go_wp2_with fail
                    go_ret
                    exact ⟨by have := HG2.out; simp at this; subst this; rfl, hBZ.trans (HS.mono hBZ.size)⟩
                  · refine pl_take (d := some 97) (v := ?_) (by rfl) ?_ rfl ?_
                    rotate_left
                    · go_simp
                      try with_reducible rfl
                    simp only [Act.put, List.setIfInBounds_toArray, List.set_cons_zero, List.set_cons_succ]
                    refine pl_take (d := some 98) (v := .agg (certL m.ct m.cs).toArray) (by rfl) (ex_mid rfl rfl rC Tryz.underlying35 rfl hic) rfl ?_
                    simp only [Act.put, List.setIfInBounds_toArray, List.set_cons_zero, List.set_cons_succ]
                    refine pl_call (d := some 99) (by rfl) (by go_simp; first | done | exact ⟨rfl, rfl⟩ | with_reducible rfl) rfl ?_
                    refine (gT Z hBZ).mono ?_
                    rintro _ w9 ⟨rfl, hb9⟩
                    replace HS := HS.trans (hb9.mono HS.size)
                    clear hb9
                    refine ⟨_, rfl, ?_⟩
                    simp only [Act.put, List.setIfInBounds_toArray, List.set_cons_zero, List.set_cons_succ]
                    cases bx
                    · refine pl_take (d := some 100) (v := ?_) (by rfl) ?_ rfl ?_
                      rotate_left
                      · go_simp
                        try with_reducible rfl
                      simp only [Act.put, List.setIfInBounds_toArray, List.set_cons_zero, List.set_cons_succ]
                      refine pl_take (d := some 2) (v := ?_) (by rfl) ?_ rfl ?_
                      rotate_left
                      · go_simp
                        try with_reducible rfl
                      simp only [Act.put, List.setIfInBounds_toArray, List.set_cons_zero, List.set_cons_succ]
                      refine pl_nil ?_
                      go_wp2_with fail
                      go_ret
                      exact ⟨by have := HG2.out; simp at this; subst this; rfl, hBZ.trans (HS.mono hBZ.size)⟩
                    · refine pl_take (d := some 100) (v := ?_) (by rfl) ?_ rfl ?_
                      rotate_left
                      · go_simp
                        try with_reducible rfl
                      simp only [Act.put, List.setIfInBounds_toArray, List.set_cons_zero, List.set_cons_succ]
                      refine pl_take (d := some 2) (v := ?_) (by rfl) ?_ rfl ?_
                      rotate_left
                      · go_simp
                        try with_reducible rfl
                      simp only [Act.put, List.setIfInBounds_toArray, List.set_cons_zero, List.set_cons_succ]
                      refine pl_nil ?_
                      go_wp2_with fail
                      go_ret
                      exact ⟨by have := HG2.out; simp at this; subst this; rfl, hBZ.trans (HS.mono hBZ.size)⟩
                · rw [if_neg h2, if_neg h7] at HG
                  have n2 : (m.k == 2) = false := beq_eq_false_iff_ne.2 h2
                  have n7 : (m.k == 7) = false := beq_eq_false_iff_ne.2 h7
                  have hgb : G = B6 := by have := HG.out; simp at this; exact this
                  subst hgb
                  clear HG MA h1 h8 hkk hG
                  go_wp2
                  go_ret
                  exact ⟨rfl, hBZ⟩
end Go.Proofs.YtgjalkbianpibaaGreat
