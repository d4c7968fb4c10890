/- digests' parts: what the contracts of digests are told -/
import Derived.Test.YtogmkcabndgllaaDoorSum
import Derived.Lib.SlBytesConst
import Derived.WalkLawsBesides
import Derived.SliceStrings
namespace Go.Proofs.YtogmkcabndgllaaDoor
open Go.RowKit
open Sha
def strOf (zs : List Int) : ByteArray := zs.foldl (fun r n => r.push (UInt8.ofNat n.toNat)) ByteArray.empty
theorem row_str {w : World} {b off cap : Nat} {zs : List Int} (h : w.rangeAt b off (v8 zs)) : (convert 80 9 (.slice (some ⟨b, off, none⟩) zs.length cap)).run Tryd.prog w = .ok (.string (strOf zs)) w := by
  rw [run_convert_bytes_string w 80 9 5 (some ⟨b, off, none⟩) zs.length cap Tryd.underlying80 Tryd.underlying5 Tryd.underlying9]
  have := run_loadCells_list (P := Tryd.prog) w ⟨b, off, none⟩ (v8 zs) (fun j v hv => by rw [Addr.add_mid]; exact h j v hv)
  rw [v8_length] at this
  exact run_bytesToString w ⟨b, off, none⟩ zs.length cap zs this
theorem one_part (w : World) (arr : Array Value) (p : Part) (hp : p.at w) (harr : arr = #[p.val]) : PartsAt (w.alloc (.cells arr 80)) (some ⟨w.heap.size, 0, none⟩) [p] := by
  subst harr
  have hB : Below w.heap.size w (w.alloc (.cells #[p.val] 80)) := (Below.refl _ _).alloc (Nat.le_refl _) _
  refine ⟨by unfold maxLen; simp, fun q hq => ?_, Or.inr ⟨w.heap.size, 0, rfl, by simp, range_new w #[p.val] 80⟩⟩
  obtain rfl := List.mem_singleton.1 hq
  exact hp.below hB
theorem range_mark (w : World) (arr : Array Value) (t : TypeId) (m : Nat × Nat) : (w.alloc (.cells arr t m)).rangeAt w.heap.size 0 arr.toList := fun j v hv => by
  rw [World.cell?_alloc_mark, Nat.zero_add]
  simpa using hv
theorem no_parts (w : World) : PartsAt w none [] := ⟨by unfold maxLen; simp, by simp, Or.inl rfl⟩
theorem sha_length (zs : List Int) : (sha zs).length = 32 := by unfold sha; rw [bytes_out, outb_length]; rfl
theorem sha_ok (zs : List Int) : ∀ z ∈ sha zs, 0 ≤ z ∧ z < 256 := by unfold sha; rw [bytes_out]; exact outb_ok _
theorem box_range (w : World) (d : List Int) (t : TypeId) : (w.alloc (.cells (v8 d).toArray t)).rangeAt w.heap.size 0 (v8 d) := by
  have := range_new w (v8 d).toArray t
  simpa using this
end Go.Proofs.YtogmkcabndgllaaDoor
