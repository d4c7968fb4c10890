/- The order law: the walk. -/
import Derived.Test.YtiihfjoikoogfaaLives
import Derived.Deep.RegionWith
import Derived.WalkLawsBesides
import Derived.Test.YtiihfjoikoogfaaLess
namespace Go.Proofs.Ytiihfjoikoogfaa
open Go.RowKit
open Tal
set_option maxHeartbeats 1600000 in
theorem order_walk (m n : Int) (w : World) (hm0 : 0 ≤ m) (hn0 : 0 ≤ n) (hm : m ≤ 9223372036854775807) (hn : n ≤ 9223372036854775807)
   (hlt : Op.bytesLess (strOf (putL m)).toList (strOf (putL n)).toList = decide (m < n)) (heq : ((strOf (putL m)).toList == (strOf (putL n)).toList) = (m == n)) :
    Calls Try.prog 7 #[.int .i64 m, .int .i64 n] w fun e w' => e = .returned (.bool true) ∧ Below w.heap.size w w' := by
  have lm := putL_length m (by omega)
  have ln := putL_length n (by omega)
  have pm := fun w => put_any none 0 [] m w (nil_row w) (by simp) hm
  have pn := fun w => put_any none 0 [] n w (nil_row w) (by simp) hn
  simp only [List.nil_append] at pm pn
  generalize putL m = lm' at *
  generalize putL n = ln' at *
  have a1 : ¬ m < 0 := by omega
  have a2 : ¬ n < 0 := by omega
  go_enter Try.func7, Try.ntmps7
  go_wp2_with fail
  go_region_with (go_at_call 10; first
    | (have hprev := hm1; refine (pn _).mono ?_; rintro e w2 ⟨v2, rfl, hm2, hb2⟩; have s1 := (hprev.below hb2).str (by unfold maxLen; omega); have s2 := hm2.str (by unfold maxLen; omega))
    | (refine (pm _).mono ?_; rintro e w1 ⟨v1, rfl, hm1, hb1⟩; have s0 := hm1.str (by unfold maxLen; omega)))
  all_goals
    have B2 : Below w.heap.size w w2 := ((Below.refl w.heap.size w).drew.trans hb1).trans (hb2.mono ((Below.refl w.heap.size w).drew.trans hb1).size)
    clear s0
    go_wp2_with fail
    refine (lives_end w B2).mono ?_
    rintro e w4 ⟨rfl, hw4⟩
    go_wp2_with fail
    go_ret
    exact ⟨rfl, hw4⟩

set_option maxHeartbeats 400000 in
theorem order_neg (m n : Int) (w : World) (h : m < 0 ∨ n < 0) :
    Calls Try.prog 7 #[.int .i64 m, .int .i64 n] w fun e w' => e = .returned (.bool true) ∧ Below w.heap.size w w' := by
  have pn := fun w => put_any none 0 [] (-1) w (nil_row w) (by simp) (by omega)
  have e1 : ([] ++ putL (-1) : List Int) = [] := by decide
  rw [e1] at pn
  clear e1
  by_cases hm : m < 0
  · go_enter Try.func7, Try.ntmps7
    go_wp2_with fail
    refine (pn w).mono ?_
    rintro e w1 ⟨v, rfl, hm1, hb1⟩
    obtain ⟨a, cap, rfl, _, _, _⟩ := hm1.rowAt (by simp)
    go_wp2_with fail
    refine (lives_end w hb1).mono ?_
    rintro e w2 ⟨rfl, hb2⟩
    go_wp2_with fail
    go_ret
    exact ⟨rfl, hb2⟩
  · have hn : n < 0 := by omega
    go_enter Try.func7, Try.ntmps7
    go_wp2_with fail
    refine (pn w).mono ?_
    rintro e w1 ⟨v, rfl, hm1, hb1⟩
    obtain ⟨a, cap, rfl, _, _, _⟩ := hm1.rowAt (by simp)
    go_wp2_with fail
    refine (lives_end w hb1).mono ?_
    rintro e w2 ⟨rfl, hb2⟩
    go_wp2_with fail
    go_ret
    exact ⟨rfl, hb2⟩
end Go.Proofs.Ytiihfjoikoogfaa
