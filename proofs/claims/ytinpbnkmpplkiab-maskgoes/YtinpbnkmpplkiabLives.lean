/- raddlelaw08.lives: the chapter's example holds. -/
import Derived.Test.YtinpbnkmpplkiabRefs
namespace Go.Proofs.Ytinpbnkmpplkiab
open Go.RowKit
theorem lives_row (w : World) : RowI (w.alloc (.cells #[.int .i64 0, .int .i64 1, .int .i64 3] 3)) (some ⟨w.heap.size, 0, none⟩) [0, 1, 3] := by
  refine ⟨by decide, .inr ⟨w.heap.size, 0, rfl, by simp, fun j hj => ?_⟩⟩
  have hc : (w.alloc (.cells #[.int .i64 0, .int .i64 1, .int .i64 3] 3)).heap[w.heap.size]? = some (.cells #[.int .i64 0, .int .i64 1, .int .i64 3] 3 (0, 0)) := World.alloc_heap_new w _
  generalize w.alloc (.cells #[.int .i64 0, .int .i64 1, .int .i64 3] 3) = w1 at hc
  match j, hj with
  | 0, _ => simp only [World.cell?, hc]; rfl
  | 1, _ => simp only [World.cell?, hc]; rfl
  | 2, _ => simp only [World.cell?, hc]; rfl
  | j + 3, h => exact absurd h (by simp)
theorem ex_of : ofN 0 [0, 1, 3] = 11 := by decide
theorem ex_ones : onesN 11 = 2 := by decide
theorem ex_many : (setN 11).length = 3 := by decide
theorem ex_down : downN 11 1 = 5 := by decide
theorem ex_has : hasN 11 3 = true := by decide
set_option maxHeartbeats 1000000 in
theorem lives_any (w : World) : Calls Try.prog 18 #[] w fun e w' => e = .returned (.bool true) ∧ Below w.heap.size w w' := by
  have c1 := of_any (some ⟨w.heap.size, 0, none⟩) 3 [0, 1, 3] _ (lives_row w) (by decide)
  have hb0 : Below w.heap.size w (w.alloc (.cells #[.int .i64 0, .int .i64 1, .int .i64 3] 3)) := (Below.refl _ _).alloc (Nat.le_refl _) _
  have c2 := fun w => ones_any 11 (by decide) w
  have c3 := fun w => many_any 11 (by decide) w
  have c4 := fun w => down_any 11 (by decide) 1 w
  have c5 := fun w => has_any 11 (by decide) 3 w
  rw [ex_of] at c1
  simp only [ex_ones] at c2
  simp only [ex_many] at c3
  simp only [ex_down] at c4
  simp only [ex_has] at c5
  go_enter Try.func18, Try.ntmps18
  go_wp2_with fail
  refine c1.mono ?_
  rintro e w1 ⟨rfl, hw1⟩
  have hb1 := hb0.trans (hw1.mono hb0.size)
  clear c1 hb0 hw1
  go_wp2_with fail
  refine (c2 w1).mono ?_
  rintro e w2 ⟨rfl, hw2⟩
  have hb2 := hb1.trans (hw2.mono hb1.size)
  go_wp2_with fail
  refine (c3 w2).mono ?_
  rintro e w3 ⟨rfl, hw3⟩
  have hb3 := hb2.trans (hw3.mono hb2.size)
  go_wp2_with (first | (go_at_call 12; refine (c4 _).mono ?_; rintro e w4 ⟨rfl, hx⟩; obtain rfl := hx.symm; clear hx) | (go_at_call 8; refine (c5 _).mono ?_; rintro e w4 ⟨rfl, hx⟩; obtain rfl := hx.symm; clear hx))
  go_ret
  exact ⟨rfl, hb3⟩
end Go.Proofs.Ytinpbnkmpplkiab
