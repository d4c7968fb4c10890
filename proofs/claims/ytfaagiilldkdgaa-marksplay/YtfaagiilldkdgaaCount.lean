/- quorum.Good, Faults, Some, Most and the document's: contracts. -/
import Derived.Test.YtfaagiilldkdgaaProg
import Derived.WalkKit
import Derived.WalkSpells
import Derived.WalkLawsBesides
import Derived.Below
namespace Go.Proofs.Ytfaagiilldkdgaa.Nq
open Go.RowKit
def goodB (n : Int) : Bool := decide (4 ≤ n ∧ n ≤ 64 ∧ n % 3 = 1)
theorem goodB_true {n : Int} (h : goodB n = true) : 4 ≤ n ∧ n ≤ 64 ∧ n % 3 = 1 := by simpa [goodB] using h
theorem goodB_false {n : Int} (h : goodB n = false) : ¬ (4 ≤ n ∧ n ≤ 64 ∧ n % 3 = 1) := by simpa [goodB] using h
theorem goodB_mk {n : Int} (h : 4 ≤ n ∧ n ≤ 64 ∧ n % 3 = 1) : goodB n = true := by simpa [goodB] using h
theorem goodB_no {n : Int} (h : ¬ (4 ≤ n ∧ n ≤ 64 ∧ n % 3 = 1)) : goodB n = false := by simpa [goodB] using h
theorem hide {p : Prop} (h : p) : Hid p := h
theorem ret_bool {a b : Bool} (h : a = b) : Ending.returned (.bool a) = .returned (.bool b) := by rw [h]
theorem ret_int {k : IntKind} {a b : Int} (h : a = b) : Ending.returned (.int k a) = .returned (.int k b) := by rw [h]
set_option maxHeartbeats 400000 in
theorem good_any (n : Int) (w : World) : Calls Try.prog 17 #[.int .i64 n] w fun e w' => e = .returned (.bool (goodB n)) ∧ w' = w := by
  by_cases h1 : 4 ≤ n
  · by_cases h2 : n ≤ 64
    · go_enter Try.func17, Try.ntmps17
      go_wp2
      go_ret
      refine ⟨ret_bool ?_, rfl⟩
      by_cases h3 : n % 3 = 1
      · rw [goodB_mk ⟨h1, h2, h3⟩]; simpa using h3
      · rw [goodB_no (by omega)]; simpa using h3
    · go_enter Try.func17, Try.ntmps17
      go_wp2
      go_ret
      exact ⟨ret_bool (by rw [goodB_no (by omega)]), rfl⟩
  · go_enter Try.func17, Try.ntmps17
    go_wp2
    go_ret
    exact ⟨ret_bool (by rw [goodB_no (by omega)]), rfl⟩
set_option maxHeartbeats 400000 in
theorem refGood_any (n : Int) (w : World) : Calls Try.prog 18 #[.int .i64 n] w fun e w' => e = .returned (.bool (goodB n)) ∧ w' = w := by
  by_cases h1 : 4 ≤ n
  · by_cases h2 : n ≤ 64
    · go_enter Try.func18, Try.ntmps18
      go_wp2
      go_ret
      refine ⟨ret_bool ?_, rfl⟩
      by_cases h3 : n % 3 = 1
      · rw [goodB_mk ⟨h1, h2, h3⟩]; simpa using h3
      · rw [goodB_no (by omega)]; simpa using h3
    · go_enter Try.func18, Try.ntmps18
      go_wp2
      go_ret
      exact ⟨ret_bool (by rw [goodB_no (by omega)]), rfl⟩
  · go_enter Try.func18, Try.ntmps18
    go_wp2
    go_ret
    exact ⟨ret_bool (by rw [goodB_no (by omega)]), rfl⟩
def faultsI (n : Int) : Int := if goodB n then n / 3 else 0
def someI (n : Int) : Int := if goodB n then n / 3 + 1 else 0
def mostI (n : Int) : Int := if goodB n then 2 * (n / 3) + 1 else 0
theorem faultsI_g {n : Int} (h : goodB n = true) : faultsI n = n / 3 := by simp [faultsI, h]
theorem someI_g {n : Int} (h : goodB n = true) : someI n = n / 3 + 1 := by simp [someI, h]
theorem mostI_g {n : Int} (h : goodB n = true) : mostI n = 2 * (n / 3) + 1 := by simp [mostI, h]
theorem faultsI_b {n : Int} (h : goodB n = false) : faultsI n = 0 := by simp [faultsI, h]
theorem someI_b {n : Int} (h : goodB n = false) : someI n = 0 := by simp [someI, h]
theorem mostI_b {n : Int} (h : goodB n = false) : mostI n = 0 := by simp [mostI, h]
theorem good_true {n : Int} (h : goodB n = true) (w : World) : Calls Try.prog 17 #[.int .i64 n] w fun e w' => e = .returned (.bool true) ∧ w' = w := by
  have := good_any n w; rwa [h] at this
theorem good_false {n : Int} (h : goodB n = false) (w : World) : Calls Try.prog 17 #[.int .i64 n] w fun e w' => e = .returned (.bool false) ∧ w' = w := by
  have := good_any n w; rwa [h] at this
theorem refGood_true {n : Int} (h : goodB n = true) (w : World) : Calls Try.prog 18 #[.int .i64 n] w fun e w' => e = .returned (.bool true) ∧ w' = w := by
  have := refGood_any n w; rwa [h] at this
theorem refGood_false {n : Int} (h : goodB n = false) (w : World) : Calls Try.prog 18 #[.int .i64 n] w fun e w' => e = .returned (.bool false) ∧ w' = w := by
  have := refGood_any n w; rwa [h] at this
end Go.Proofs.Ytfaagiilldkdgaa.Nq
