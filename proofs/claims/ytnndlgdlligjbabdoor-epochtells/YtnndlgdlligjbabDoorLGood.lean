/- quorum's Good, Faults, Some; leaders' within, Good, mayBe and the document's: contracts. -/
import Derived.Test.YtnndlgdlligjbabDoorLArgs
namespace Go.Proofs.YtnndlgdlligjbabDoor.Ld
open Go.RowKit
set_option maxHeartbeats 400000 in
theorem good_any (n : Int) (w : World) : Calls Tryd.prog 39 #[.int .i64 n] w fun e w' => e = .returned (.bool (goodB n)) ∧ w' = w := by
  by_cases h1 : 4 ≤ n
  · by_cases h2 : n ≤ 64
    · go_enter Tryd.func39, Tryd.ntmps39
      go_wp2
      go_ret
      refine ⟨ret_bool ?_, rfl⟩
      by_cases h3 : n % 3 = 1
      · rw [goodB_mk ⟨h1, h2, h3⟩]; simpa using h3
      · rw [goodB_no (by omega)]; simpa using h3
    · go_enter Tryd.func39, Tryd.ntmps39
      go_wp2
      go_ret
      exact ⟨ret_bool (by rw [goodB_no (by omega)]), rfl⟩
  · go_enter Tryd.func39, Tryd.ntmps39
    go_wp2
    go_ret
    exact ⟨ret_bool (by rw [goodB_no (by omega)]), rfl⟩
set_option maxHeartbeats 400000 in
theorem refGood_any (n : Int) (w : World) : Calls Tryd.prog 41 #[.int .i64 n] w fun e w' => e = .returned (.bool (goodB n)) ∧ w' = w := by
  by_cases h1 : 4 ≤ n
  · by_cases h2 : n ≤ 64
    · go_enter Tryd.func41, Tryd.ntmps41
      go_wp2
      go_ret
      refine ⟨ret_bool ?_, rfl⟩
      by_cases h3 : n % 3 = 1
      · rw [goodB_mk ⟨h1, h2, h3⟩]; simpa using h3
      · rw [goodB_no (by omega)]; simpa using h3
    · go_enter Tryd.func41, Tryd.ntmps41
      go_wp2
      go_ret
      exact ⟨ret_bool (by rw [goodB_no (by omega)]), rfl⟩
  · go_enter Tryd.func41, Tryd.ntmps41
    go_wp2
    go_ret
    exact ⟨ret_bool (by rw [goodB_no (by omega)]), rfl⟩
theorem good_true {n : Int} (h : goodB n = true) (w : World) : Calls Tryd.prog 39 #[.int .i64 n] w fun e w' => e = .returned (.bool true) ∧ w' = w := by
  have := good_any n w; rwa [h] at this
theorem good_false {n : Int} (h : goodB n = false) (w : World) : Calls Tryd.prog 39 #[.int .i64 n] w fun e w' => e = .returned (.bool false) ∧ w' = w := by
  have := good_any n w; rwa [h] at this
theorem refGood_true {n : Int} (h : goodB n = true) (w : World) : Calls Tryd.prog 41 #[.int .i64 n] w fun e w' => e = .returned (.bool true) ∧ w' = w := by
  have := refGood_any n w; rwa [h] at this
theorem refGood_false {n : Int} (h : goodB n = false) (w : World) : Calls Tryd.prog 41 #[.int .i64 n] w fun e w' => e = .returned (.bool false) ∧ w' = w := by
  have := refGood_any n w; rwa [h] at this
set_option maxHeartbeats 400000 in
theorem faults_any (n : Int) (w : World) : Calls Tryd.prog 71 #[.int .i64 n] w fun e w' => e = .returned (.int .i64 (faultsI n)) ∧ w' = w := by
  cases h : goodB n
  · have HH := hide h
    have c := good_false h w
    clear h
    go_enter Tryd.func71, Tryd.ntmps71
    go_wp2_with (go_at_call 39; refine c.mono ?_; rintro e w1 ⟨rfl, rfl⟩)
    go_ret
    exact ⟨ret_int (by rw [faultsI_b HH.out]), rfl⟩
  · have HH := hide h
    have c := good_true h w
    obtain ⟨h1, h2, h3⟩ := goodB_true h
    have H3 := hide h3
    clear h h3
    go_enter Tryd.func71, Tryd.ntmps71
    go_wp2_with (go_at_call 39; refine c.mono ?_; rintro e w1 ⟨rfl, rfl⟩)
    go_ret
    exact ⟨ret_int (by rw [faultsI_g HH.out]; have := H3.out; omega), rfl⟩
set_option maxHeartbeats 400000 in
theorem some_any (n : Int) (w : World) : Calls Tryd.prog 58 #[.int .i64 n] w fun e w' => e = .returned (.int .i64 (someI n)) ∧ w' = w := by
  cases h : goodB n
  · have HH := hide h
    have c := good_false h w
    clear h
    go_enter Tryd.func58, Tryd.ntmps58
    go_wp2_with (go_at_call 39; refine c.mono ?_; rintro e w1 ⟨rfl, rfl⟩)
    go_ret
    exact ⟨ret_int (by rw [someI_b HH.out]), rfl⟩
  · have HH := hide h
    have c := good_true h w
    have d := faults_any n w
    rw [faultsI_g h] at d
    obtain ⟨h1, h2, h3⟩ := goodB_true h
    have b0 : 0 ≤ n / 3 := by omega
    have b1 : n / 3 ≤ 21 := by omega
    clear h h3
    generalize hq : n / 3 = q at *
    have HQ := hide hq
    clear hq
    go_enter Tryd.func58, Tryd.ntmps58
    go_wp2_with (first | (go_at_call 39; refine c.mono ?_; rintro e w1 ⟨rfl, rfl⟩) | (go_at_call 71; refine d.mono ?_; rintro e w1 ⟨rfl, rfl⟩))
    go_ret
    exact ⟨ret_int (by rw [someI_g HH.out, HQ.out]), rfl⟩
theorem within_any (x l m : Int) (w : World) : Calls Tryd.prog 40 #[.int .i64 x, .int .i64 l, .int .i64 m] w fun e w' => e = .returned (.bool (inB x l m)) ∧ w' = w := by
  by_cases h1 : l ≤ x
  · go_enter Tryd.func40, Tryd.ntmps40
    go_wp2
    go_ret
    refine ⟨ret_bool ?_, rfl⟩
    by_cases h2 : x ≤ m
    · rw [inB_mk ⟨h1, h2⟩]; simp [h2]
    · rw [inB_no (by omega)]; simp [h2]
  · go_enter Tryd.func40, Tryd.ntmps40
    go_wp2
    go_ret
    exact ⟨ret_bool (by rw [inB_no (by omega)]; try simp [h1]), rfl⟩
theorem rwithin_any (x l m : Int) (w : World) : Calls Tryd.prog 42 #[.int .i64 x, .int .i64 l, .int .i64 m] w fun e w' => e = .returned (.bool (inB x l m)) ∧ w' = w := by
  by_cases h1 : l ≤ x
  · go_enter Tryd.func42, Tryd.ntmps42
    go_wp2
    go_ret
    refine ⟨ret_bool ?_, rfl⟩
    by_cases h2 : x ≤ m
    · rw [inB_mk ⟨h1, h2⟩]; simp [h2]
    · rw [inB_no (by omega)]; simp [h2]
  · go_enter Tryd.func42, Tryd.ntmps42
    go_wp2
    go_ret
    exact ⟨ret_bool (by rw [inB_no (by omega)]; try simp [h1]), rfl⟩
end Go.Proofs.YtnndlgdlligjbabDoor.Ld
