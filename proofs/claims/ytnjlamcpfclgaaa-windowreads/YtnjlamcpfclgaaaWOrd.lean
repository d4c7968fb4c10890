/- raddlelaw09.lives and marked: contracts; numbers marked one behind the other. -/
import Derived.Test.YtnjlamcpfclgaaaWA3
namespace Go.Proofs.Ytnjlamcpfclgaaa
open Go.RowKit
def marks : Int → Nat → List Int → Int × Nat × Bool
  | B, m, [] => (B, m, true)
  | B, m, n :: l => if askW B m 64 n = 0 then marks (setB B (mkM B m n)) (setM (mkM B m n)) l else (B, m, false)
theorem marks_lt : ∀ (l : List Int) (B : Int) (m : Nat), m < 2 ^ 64 → (marks B m l).2.1 < 2 ^ 64 := by
  intro l
  induction l with
  | nil => intro B m hm; exact hm
  | cons n l ih =>
    intro B m hm
    unfold marks
    split
    · exact ih _ _ (setM_lt (withN_lt hm _))
    · exact hm
theorem marks_good : ∀ (l : List Int) (B : Int) (m : Nat), m < 2 ^ 64 → goodW B m = true → (marks B m l).2.2 = true → goodW (marks B m l).1 (marks B m l).2.1 = true ∧ ∀ x, inW (marks B m l).1 (marks B m l).2.1 x = (inW B m x || decide (x ∈ l)) := by
  intro l
  induction l with
  | nil => intro B m hm hg _; exact ⟨hg, fun x => by simp [marks]⟩
  | cons n l ih =>
    intro B m hm hg h
    unfold marks at h ⊢
    split at h
    · rename_i ha
      rw [if_pos ha]
      obtain ⟨h1, h2⟩ := ih (setB B (mkM B m n)) (setM (mkM B m n)) (setM_lt (withN_lt hm _)) (mark_good hm ha) h
      refine ⟨h1, fun x => ?_⟩
      rw [h2 x, mark_in hm ha x, Bool.or_assoc]
      congr 1
      rw [← Bool.decide_or]
      apply decide_eq_decide.2
      rw [List.mem_cons]
    · cases h
theorem marks_first {B : Int} {m : Nat} {l : List Int} (h : (marks B m l).2.2 = true) (hl : l ≠ []) : goodW B m = true := by
  cases l with
  | nil => exact absurd rfl hl
  | cons n l =>
    unfold marks at h
    split at h
    · rename_i ha; exact (ask_ok ha).1
    · cases h
/-- whatever the order, the window is the same -/
theorem marks_same {B : Int} {m : Nat} (hm : m < 2 ^ 64) (l r : List Int) (hlr : ∀ x, x ∈ l ↔ x ∈ r) (h1 : (marks B m l).2.2 = true) (h2 : (marks B m r).2.2 = true) : (marks B m l).1 = (marks B m r).1 ∧ (marks B m l).2.1 = (marks B m r).2.1 := by
  by_cases hl : l = []
  · subst hl
    have hr : r = [] := by
      cases r with
      | nil => rfl
      | cons y r => exact absurd ((hlr y).2 (by simp)) (by simp)
    subst hr
    exact ⟨rfl, rfl⟩
  · have hg := marks_first h1 hl
    obtain ⟨a1, a2⟩ := marks_good l B m hm hg h1
    obtain ⟨b1, b2⟩ := marks_good r B m hm hg h2
    refine window_ext (marks_lt l B m hm) (marks_lt r B m hm) a1 b1 fun x _ => ?_
    rw [a2 x, b2 x]
    congr 1
    exact decide_eq_decide.2 (hlr x)
theorem ex1a : askW 1 0 64 2 = 0 := by decide
theorem ex1b : markB 1 0 2 = 1 := by decide
theorem ex1c : markM 1 0 2 = 2 := by decide
theorem ex2a : askW 1 2 64 1 = 0 := by decide
theorem ex2b : markB 1 2 1 = 3 := by decide
theorem ex2c : markM 1 2 1 = 0 := by decide
set_option maxHeartbeats 1000000 in
theorem lives_any (w : World) : Calls Try.prog 19 #[] w fun e w' => e = .returned (.bool true) ∧ Below w.heap.size w w' := by
  have c1 := fun w => mark_any 1 0 (by decide) 2 (by decide) w
  have c2 := fun w => mark_any 1 2 (by decide) 1 (by decide) w
  simp only [ex1a, ex1b, ex1c] at c1
  simp only [ex2a, ex2b, ex2c] at c2
  go_enter Try.func19, Try.ntmps19
  go_wp2_with fail
  refine (new_any _).mono ?_
  rintro e w1 ⟨rfl, hb1⟩
  go_wp2_with fail
  refine (c1 _).mono ?_
  rintro e w2 ⟨rfl, hb2⟩
  have hB2 := hb1.trans (hb2.mono hb1.size)
  clear hb1 hb2 c1
  go_wp2_with fail
  refine (c2 _).mono ?_
  rintro e w3 ⟨rfl, hb3⟩
  obtain ⟨hA, hB3', hz⟩ := one_box hb3
  have hB3 := hB2.trans (hB3'.mono hB2.size)
  clear hb3 hB2 hB3' c2
  have hs := hB3.size
  have hB4 : Below w.heap.size w (w3.alloc (.cells #[.int .i64 3, .int .u64 0] 24)) := hB3.alloc hs _
  have q0 : w3.cell? ⟨w2.heap.size, 0, none⟩ = some (.int .i64 1) := hA 0 _ rfl
  have q1 : w3.cell? ⟨w2.heap.size, 1, none⟩ = some (.int .u64 2) := hA 1 _ rfl
  go_wp2_with fail
  go_ret
  exact ⟨rfl, hB4⟩
end Go.Proofs.Ytnjlamcpfclgaaa
