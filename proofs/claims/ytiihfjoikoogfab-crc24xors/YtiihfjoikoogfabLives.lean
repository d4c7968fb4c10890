/- the chapter's example: lives -/
import Derived.Test.YtiihfjoikoogfabNext
import Derived.Lib.SlBytesConst
namespace Go.Proofs.Ytiihfjoikoogfab
open Go.RowKit
open Crc

def nine : List Int := [49, 50, 51, 52, 53, 54, 55, 56, 57]
theorem nine_row (w : World) : RowAt (w.alloc (.cells #[.int .u8 49, .int .u8 50, .int .u8 51, .int .u8 52, .int .u8 53, .int .u8 54, .int .u8 55, .int .u8 56, .int .u8 57] 5 (9, 10))) (some ⟨w.heap.size, 0, none⟩) nine := by
  refine ⟨by decide, by decide, Or.inr ⟨w.heap.size, 0, rfl, by simp, fun j hj => ?_⟩⟩
  rw [World.cell?_alloc_mark]
  simp only [nine, List.length_cons, List.length_nil] at hj
  match j, hj with
  | 0, _ => rfl
  | 1, _ => rfl
  | 2, _ => rfl
  | 3, _ => rfl
  | 4, _ => rfl
  | 5, _ => rfl
  | 6, _ => rfl
  | 7, _ => rfl
  | 8, _ => rfl
  | n + 9, h => omega
theorem nine_sum : ((crc start nine).toNat : Int) = 2215682 := by decide +kernel
set_option maxHeartbeats 400000 in
theorem lives_any (w : World) :
   Calls Try.prog 7 #[] w fun e w' => e = .returned (.bool true) ∧ Below w.heap.size w w' := by
  have kc := fun (w : World) (C : Array Value) (n c : Nat) => Lib.run_convert_bytes_const (P := Try.prog) w 22 5 C n c Try.underlying22 Try.underlying5
  have c0 := sum_any none 0 [] w ⟨by simp, by simp, Or.inl rfl⟩
  go_enter Try.func7, Try.ntmps7
  go_wp2_with fail
  refine c0.mono ?_
  rintro e w1 ⟨rfl, hw1⟩
  have e1 : ((crc start []).toNat : Int) = 11994318 := by decide
  rw [e1]
  clear e1 c0
  go_wp2_with fail
  refine (sum_any _ 9 nine _ (nine_row _)).mono ?_
  rintro e w2 ⟨rfl, hw2⟩
  rw [nine_sum]
  go_wp2
  go_ret
  exact ⟨rfl, hw1.trans ((Below.refl _ _).alloc (by have := hw1.size; omega) _ |>.trans (hw2.mono (by have := hw1.size; simp; omega)))⟩
end Go.Proofs.Ytiihfjoikoogfab
