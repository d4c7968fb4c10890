/- digests' parts: what the contracts of digests are told -/
import Derived.Test.YtkadfmbpajbkiabDoorText
import Derived.Lib.SlBytesConst
namespace Go.Proofs.YtkadfmbpajbkiabDoor
open Go.RowKit
open Sha
theorem one_part (w : World) (arr : Array Value) (p : Part) (hp : p.at w) (harr : arr = #[p.val]) : PartsAt (w.alloc (.cells arr 46)) (some ⟨w.heap.size, 0, none⟩) [p] := by
  subst harr
  have hB : Below w.heap.size w (w.alloc (.cells #[p.val] 46)) := (Below.refl _ _).alloc (Nat.le_refl _) _
  refine ⟨by unfold maxLen; simp, fun q hq => ?_, Or.inr ⟨w.heap.size, 0, rfl, by simp, range_new w #[p.val] 46⟩⟩
  obtain rfl := List.mem_singleton.1 hq
  exact hp.below hB
theorem range_mark (w : World) (arr : Array Value) (t : TypeId) (m : Nat × Nat) : (w.alloc (.cells arr t m)).rangeAt w.heap.size 0 arr.toList := fun j v hv => by
  rw [World.cell?_alloc_mark, Nat.zero_add]
  simpa using hv
theorem no_parts (w : World) : PartsAt w none [] := ⟨by unfold maxLen; simp, by simp, Or.inl rfl⟩
theorem sha_length (zs : List Int) : (sha zs).length = 32 := by unfold sha; rw [bytes_out, outb_length]; rfl
theorem sha_ok (zs : List Int) : ∀ z ∈ sha zs, 0 ≤ z ∧ z < 256 := by unfold sha; rw [bytes_out]; exact outb_ok _
theorem box_range (w : World) (d : List Int) (t : TypeId) : (w.alloc (.cells (v8 d).toArray t)).rangeAt w.heap.size 0 (v8 d) := by
  have := range_new w (v8 d).toArray t
  simpa using this
end Go.Proofs.YtkadfmbpajbkiabDoor
