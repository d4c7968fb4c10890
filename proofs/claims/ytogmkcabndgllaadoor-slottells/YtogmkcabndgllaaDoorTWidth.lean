/- tally.width and Size. -/
import Derived.Test.YtogmkcabndgllaaDoorOwn
import Derived.Test.YtogmkcabndgllaaDoorTLen
import Derived.Test.YtogmkcabndgllaaDoorTDig
namespace Go.Proofs.YtogmkcabndgllaaDoor
open Go.RowKit
open Tal
theorem bitLen_le64 (x : Nat) (h : x < 2 ^ 63) : Lib.bitLen x ≤ 64 := by
  have := wid_le x h; unfold wid at this; omega
set_option maxRecDepth 20000 in
set_option maxHeartbeats 400000 in
theorem width_any (n : Int) (w : World) (h0 : 0 ≤ n) (h1 : n ≤ 9223372036854775807) :
    Calls Tryd.prog 55 #[.int .i64 n] w fun e w' => e = .returned (.int .i64 (wid n.toNat)) ∧ w' = w := by
  have hl := bitLen_le64 n.toNat (by omega)
  have HW : Hid ((wid n.toNat : Int) = ((Lib.bitLen n.toNat : Int) + 7) / 8) := by show _ = _; unfold wid; omega
  go_enter Tryd.func55, Tryd.ntmps55
  go_wp2_with fail
  refine (len64_int n _ h0 h1).mono ?_
  rintro e w1 ⟨rfl, rfl⟩
  go_wp2
  go_ret
  rw [HW.out]
  exact ⟨rfl, rfl⟩
set_option maxRecDepth 20000 in
set_option maxHeartbeats 400000 in
theorem size_any (n : Int) (w : World) (h1 : n ≤ 9223372036854775807) :
    Calls Tryd.prog 54 #[.int .i64 n] w fun e w' => e = .returned (.int .i64 ((putL n).length : Int)) ∧ w' = w := by
  by_cases h0 : n < 0
  · have HP : Hid (putL n = []) := by show _ = _; simp [putL, h0]
    go_enter Tryd.func54, Tryd.ntmps54
    go_wp2
    go_ret
    rw [HP.out]
    exact ⟨rfl, rfl⟩
  · have hw := wid_le n.toNat (by omega)
    have HP : Hid (((putL n).length : Int) = 1 + (wid n.toNat : Int)) := by show _ = _; simp only [putL, if_neg h0, numB, List.length_cons, digs_length]; omega
    go_enter Tryd.func54, Tryd.ntmps54
    go_wp2_with fail
    refine (width_any n _ (by omega) h1).mono ?_
    rintro e w1 ⟨rfl, rfl⟩
    go_wp2
    go_ret
    rw [HP.out]
    exact ⟨rfl, rfl⟩
end Go.Proofs.YtogmkcabndgllaaDoor
