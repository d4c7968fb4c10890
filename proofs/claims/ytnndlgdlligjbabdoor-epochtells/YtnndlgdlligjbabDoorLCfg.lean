/- leaders' Good, mayBe and the document's: contracts. -/
import Derived.Test.YtnndlgdlligjbabDoorLGood
namespace Go.Proofs.YtnndlgdlligjbabDoor.Ld
open Go.RowKit
theorem errC_yes {c : Cfg} (h : goodC c = true) : errC c = 0 := by simp [errC, h]
theorem errC_no {c : Cfg} (h : goodC c = false) : errC c = 110 := by simp [errC, h]
theorem errC_fits {c : Cfg} {x : Int} {b : Bool} (h : goodC c = b) (hx : x = if b then 0 else 110) : errC c = x := by rw [errC, h, hx]
set_option maxRecDepth 100000 in
set_option maxHeartbeats 4000000 in
theorem lgood_any (c : Cfg) (w : World) : Calls Tryd.prog 24 #[(.agg #[.int .i64 c.n, .int .i64 c.cl, .int .i64 c.wi, .int .i64 c.bu, .int .i64 c.ca, .int .i64 c.sl, .int .i64 c.rq, .int .i64 c.ti, .int .i64 c.pe, .int .i64 c.la])] w fun e w' => e = .returned (.int .i64 (errC c)) ∧ Below w.heap.size w w' := by
  have hb : Below w.heap.size w (w.alloc (.cells #[.int .i64 c.n, .int .i64 c.cl, .int .i64 c.wi, .int .i64 c.bu, .int .i64 c.ca, .int .i64 c.sl, .int .i64 c.rq, .int .i64 c.ti, .int .i64 c.pe, .int .i64 c.la] 23)) := (Below.refl _ _).alloc (Nat.le_refl _) _
  have c1 := fun w => good_any c.n w
  have c2 := fun x l m w => within_any x l m w
  have HG : Hid (goodC c = (goodB c.n && inB c.cl 1 8 && inB c.wi 1 64 && inB c.bu 1 c.n && inB c.ca 1 16 && inB c.sl 1 4 && inB c.rq 1 4 && inB c.ti 12 64 && inB c.pe 0 8 && inB c.la 1 1048576)) := hide rfl
  generalize goodB c.n = g0 at *
  go_enter Tryd.func24, Tryd.ntmps24
  go_wp2_with (first | (go_at_call 39; refine (c1 _).mono ?_; rintro e w1 ⟨rfl, hx⟩; obtain rfl := hx.symm; clear hx) | (go_at_call 40; refine (c2 _ _ _ _).mono ?_; rintro e w1 ⟨rfl, hx⟩; obtain rfl := hx.symm; clear hx))
  all_goals go_ret
  all_goals refine ⟨ret_int ?_, hb⟩
  all_goals (symm; refine errC_fits HG.out ?_; simp_all)
set_option maxRecDepth 100000 in
set_option maxHeartbeats 4000000 in
theorem mayBe_any (c : Cfg) (x : Int) (w : World) : Calls Tryd.prog 44 #[(.agg #[.int .i64 c.n, .int .i64 c.cl, .int .i64 c.wi, .int .i64 c.bu, .int .i64 c.ca, .int .i64 c.sl, .int .i64 c.rq, .int .i64 c.ti, .int .i64 c.pe, .int .i64 c.la]), .int .i64 x] w fun e w' => e = .returned (.bool (mayC c x)) ∧ Below w.heap.size w w' := by
  have hb : Below w.heap.size w (w.alloc (.cells #[.int .i64 c.n, .int .i64 c.cl, .int .i64 c.wi, .int .i64 c.bu, .int .i64 c.ca, .int .i64 c.sl, .int .i64 c.rq, .int .i64 c.ti, .int .i64 c.pe, .int .i64 c.la] 23)) := (Below.refl _ _).alloc (Nat.le_refl _) _
  have c1 := fun w => lgood_any c w
  have c2 := fun w => within_any x 1 1048576 w
  have HM : Hid (mayC c x = (goodC c && inB x 1 1048576)) := hide rfl
  generalize inB x 1 1048576 = g at *
  cases hg : goodC c
  · simp only [errC_no hg] at c1
    rw [hg, Bool.false_and] at HM
    clear hg
    go_enter Tryd.func44, Tryd.ntmps44
    go_wp2_with (first | (go_at_call 24; refine (c1 _).mono ?_; rintro e w1 ⟨rfl, hb1⟩) | (go_at_call 40; refine (c2 _).mono ?_; rintro e w1 ⟨rfl, hx⟩; obtain rfl := hx.symm; clear hx))
    go_ret
    exact ⟨ret_bool (by rw [HM.out]), hb.trans (hb1.mono hb.size)⟩
  · simp only [errC_yes hg] at c1
    rw [hg, Bool.true_and] at HM
    clear hg
    go_enter Tryd.func44, Tryd.ntmps44
    go_wp2_with (first | (go_at_call 24; refine (c1 _).mono ?_; rintro e w1 ⟨rfl, hb1⟩) | (go_at_call 40; refine (c2 _).mono ?_; rintro e w1 ⟨rfl, hx⟩; obtain rfl := hx.symm; clear hx))
    go_ret
    exact ⟨ret_bool (by rw [HM.out]), hb.trans (hb1.mono hb.size)⟩
set_option maxRecDepth 100000 in
set_option maxHeartbeats 4000000 in
theorem rlgood_any (c : Cfg) (w : World) : Calls Tryd.prog 27 #[(.agg #[.int .i64 c.n, .int .i64 c.cl, .int .i64 c.wi, .int .i64 c.bu, .int .i64 c.ca, .int .i64 c.sl, .int .i64 c.rq, .int .i64 c.ti, .int .i64 c.pe, .int .i64 c.la])] w fun e w' => e = .returned (.int .i64 (errC c)) ∧ Below w.heap.size w w' := by
  have hb : Below w.heap.size w (w.alloc (.cells #[.int .i64 c.n, .int .i64 c.cl, .int .i64 c.wi, .int .i64 c.bu, .int .i64 c.ca, .int .i64 c.sl, .int .i64 c.rq, .int .i64 c.ti, .int .i64 c.pe, .int .i64 c.la] 23)) := (Below.refl _ _).alloc (Nat.le_refl _) _
  have c1 := fun w => refGood_any c.n w
  have c2 := fun x l m w => rwithin_any x l m w
  have HG : Hid (goodC c = (goodB c.n && inB c.cl 1 8 && inB c.wi 1 64 && inB c.bu 1 c.n && inB c.ca 1 16 && inB c.sl 1 4 && inB c.rq 1 4 && inB c.ti 12 64 && inB c.pe 0 8 && inB c.la 1 1048576)) := hide rfl
  generalize goodB c.n = g0 at *
  go_enter Tryd.func27, Tryd.ntmps27
  go_wp2_with (first | (go_at_call 41; refine (c1 _).mono ?_; rintro e w1 ⟨rfl, hx⟩; obtain rfl := hx.symm; clear hx) | (go_at_call 42; refine (c2 _ _ _ _).mono ?_; rintro e w1 ⟨rfl, hx⟩; obtain rfl := hx.symm; clear hx))
  all_goals go_ret
  all_goals refine ⟨ret_int ?_, hb⟩
  all_goals (symm; refine errC_fits HG.out ?_; simp_all)
set_option maxRecDepth 100000 in
set_option maxHeartbeats 4000000 in
theorem rmay_any (c : Cfg) (x : Int) (w : World) : Calls Tryd.prog 51 #[(.agg #[.int .i64 c.n, .int .i64 c.cl, .int .i64 c.wi, .int .i64 c.bu, .int .i64 c.ca, .int .i64 c.sl, .int .i64 c.rq, .int .i64 c.ti, .int .i64 c.pe, .int .i64 c.la]), .int .i64 x] w fun e w' => e = .returned (.bool (mayC c x)) ∧ Below w.heap.size w w' := by
  have hb : Below w.heap.size w (w.alloc (.cells #[.int .i64 c.n, .int .i64 c.cl, .int .i64 c.wi, .int .i64 c.bu, .int .i64 c.ca, .int .i64 c.sl, .int .i64 c.rq, .int .i64 c.ti, .int .i64 c.pe, .int .i64 c.la] 23)) := (Below.refl _ _).alloc (Nat.le_refl _) _
  have c1 := fun w => rlgood_any c w
  have c2 := fun w => rwithin_any x 1 1048576 w
  have HM : Hid (mayC c x = (goodC c && inB x 1 1048576)) := hide rfl
  generalize inB x 1 1048576 = g at *
  cases hg : goodC c
  · simp only [errC_no hg] at c1
    rw [hg, Bool.false_and] at HM
    clear hg
    go_enter Tryd.func51, Tryd.ntmps51
    go_wp2_with (first | (go_at_call 27; refine (c1 _).mono ?_; rintro e w1 ⟨rfl, hb1⟩) | (go_at_call 42; refine (c2 _).mono ?_; rintro e w1 ⟨rfl, hx⟩; obtain rfl := hx.symm; clear hx))
    go_ret
    exact ⟨ret_bool (by rw [HM.out]), hb.trans (hb1.mono hb.size)⟩
  · simp only [errC_yes hg] at c1
    rw [hg, Bool.true_and] at HM
    clear hg
    go_enter Tryd.func51, Tryd.ntmps51
    go_wp2_with (first | (go_at_call 27; refine (c1 _).mono ?_; rintro e w1 ⟨rfl, hb1⟩) | (go_at_call 42; refine (c2 _).mono ?_; rintro e w1 ⟨rfl, hx⟩; obtain rfl := hx.symm; clear hx))
    go_ret
    exact ⟨ret_bool (by rw [HM.out]), hb.trans (hb1.mono hb.size)⟩
end Go.Proofs.YtnndlgdlligjbabDoor.Ld
