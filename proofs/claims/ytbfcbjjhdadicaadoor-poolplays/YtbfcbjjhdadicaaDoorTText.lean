/- tally.PutText. -/
import Derived.Test.YtbfcbjjhdadicaaDoorTPut
namespace Go.Proofs.YtbfcbjjhdadicaaDoor
open Go.RowKit
open Tal
theorem nil_row (w : World) : RowAt w none [] := ⟨by simp, by simp, Or.inl rfl⟩
/-- a string's bytes as numbers -/
def strL (s : ByteArray) : List Int := s.data.toList.map fun b => (b.toNat : Int)
theorem strL_length (s : ByteArray) : (strL s).length = s.size := by unfold strL; rw [List.length_map, Array.length_toList]; rfl
theorem strL_byte (s : ByteArray) : ∀ z ∈ strL s, 0 ≤ z ∧ z < 256 := by
  intro z hz
  obtain ⟨b, _, rfl⟩ := List.mem_map.1 hz
  have := b.toNat_lt
  omega
theorem str_src (s : ByteArray) (w : World) : Src Tryd.prog 1 9 (.string s) s.size ((strL s).map (Value.int .u8)) w := by
  have := Src.ofString w (P := Tryd.prog) Tryd.underlying9 s
  have e : (strL s).map (Value.int .u8) = byteCells s := by unfold strL byteCells; rw [List.map_map]; rfl
  rw [e]; exact this
/-- what PutText lays behind -/
def textL (s : ByteArray) : List Int := putL s.size ++ strL s
end Go.Proofs.YtbfcbjjhdadicaaDoor
