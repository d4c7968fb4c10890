/- quorum.Good, Faults, Some, Most and the document's: contracts. -/
import Derived.Test.YtogmkcabndgllaaV3
import Derived.WalkKit
import Derived.WalkSpells
import Derived.WalkLawsBesides
import Derived.Below
namespace Go.Proofs.Ytogmkcabndgllaa
open Go.RowKit
def goodB (n : Int) : Bool := decide (4 ≤ n ∧ n ≤ 64 ∧ n % 3 = 1)
theorem goodB_true {n : Int} (h : goodB n = true) : 4 ≤ n ∧ n ≤ 64 ∧ n % 3 = 1 := by simpa [goodB] using h
theorem goodB_false {n : Int} (h : goodB n = false) : ¬ (4 ≤ n ∧ n ≤ 64 ∧ n % 3 = 1) := by simpa [goodB] using h
theorem goodB_mk {n : Int} (h : 4 ≤ n ∧ n ≤ 64 ∧ n % 3 = 1) : goodB n = true := by simpa [goodB] using h
theorem goodB_no {n : Int} (h : ¬ (4 ≤ n ∧ n ≤ 64 ∧ n % 3 = 1)) : goodB n = false := by simpa [goodB] using h
theorem ret_bool {a b : Bool} (h : a = b) : Ending.returned (.bool a) = .returned (.bool b) := by rw [h]
theorem ret_int {k : IntKind} {a b : Int} (h : a = b) : Ending.returned (.int k a) = .returned (.int k b) := by rw [h]
set_option maxHeartbeats 400000 in
theorem good_any (n : Int) (w : World) : Calls Try.prog 21 #[.int .i64 n] w fun e w' => e = .returned (.bool (goodB n)) ∧ w' = w := by
  by_cases h1 : 4 ≤ n
  · by_cases h2 : n ≤ 64
    · go_enter Try.func21, Try.ntmps21
      go_wp2
      go_ret
      refine ⟨ret_bool ?_, rfl⟩
      by_cases h3 : n % 3 = 1
      · rw [goodB_mk ⟨h1, h2, h3⟩]; simpa using h3
      · rw [goodB_no (by omega)]; simpa using h3
    · go_enter Try.func21, Try.ntmps21
      go_wp2
      go_ret
      exact ⟨ret_bool (by rw [goodB_no (by omega)]), rfl⟩
  · go_enter Try.func21, Try.ntmps21
    go_wp2
    go_ret
    exact ⟨ret_bool (by rw [goodB_no (by omega)]), rfl⟩
set_option maxHeartbeats 400000 in
theorem refGood_any (n : Int) (w : World) : Calls Try.prog 22 #[.int .i64 n] w fun e w' => e = .returned (.bool (goodB n)) ∧ w' = w := by
  by_cases h1 : 4 ≤ n
  · by_cases h2 : n ≤ 64
    · go_enter Try.func22, Try.ntmps22
      go_wp2
      go_ret
      refine ⟨ret_bool ?_, rfl⟩
      by_cases h3 : n % 3 = 1
      · rw [goodB_mk ⟨h1, h2, h3⟩]; simpa using h3
      · rw [goodB_no (by omega)]; simpa using h3
    · go_enter Try.func22, Try.ntmps22
      go_wp2
      go_ret
      exact ⟨ret_bool (by rw [goodB_no (by omega)]), rfl⟩
  · go_enter Try.func22, Try.ntmps22
    go_wp2
    go_ret
    exact ⟨ret_bool (by rw [goodB_no (by omega)]), rfl⟩
end Go.Proofs.Ytogmkcabndgllaa
