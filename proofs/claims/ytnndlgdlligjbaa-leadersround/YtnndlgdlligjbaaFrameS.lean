/- a slice of slices of ints that came in -/
import Derived.Test.YtnndlgdlligjbaaLArgs
import Derived.Deep.Matrix
namespace Go.Proofs.Ytnndlgdlligjbaa
open Go.ChangeShapes Go.WideShapes Go.ChangeAt Go.RowKit Go.Deep
def IsRows (w : World) (a : Option Addr) (len : Nat) : Prop :=
  len ≤ maxLen ∧ (len = 0 ∨ ∃ b off, a = some ⟨b, off, none⟩ ∧ b < w.heap.size ∧ ∀ i, i < len → ∃ ai zi ci, w.cell? ⟨b, off + i, none⟩ = some (.slice ai (zi : List Int).length ci) ∧ RowI w ai zi)
theorem IsRows.below {w w' : World} {a : Option Addr} {len : Nat} (h : IsRows w a len) (hb : Below w.heap.size w w') : IsRows w' a len := by
  refine ⟨h.1, ?_⟩
  rcases h.2 with h | ⟨b, off, rfl, h1, h2⟩
  · exact .inl h
  · refine .inr ⟨b, off, rfl, Nat.lt_of_lt_of_le h1 hb.size, fun i hi => ?_⟩
    obtain ⟨ai, zi, ci, hc, hr⟩ := h2 i hi
    exact ⟨ai, zi, ci, (hb.cell (p := ⟨b, off + i, none⟩) h1).trans hc, hr.below hb⟩
theorem open_rows {H : Type} {enc : TypeId × Value → H} {W : World} {base : Nat} {held : Bool} {fuel : Nat} {a : Option Addr} {len cap : Nat} {x : DataW H × List MemPlace}
    (h : DataW.trod enc Try.prog W base (fun _ => true) held fuel 37 (Value.slice a len cap).cells.toList = some x) : IsRows W a len := by
  rcases open_int_rows Try.underlying37 Try.underlying24 Try.underlying3 (by kernel_rfl) (by kernel_rfl) h with ⟨hcs, _⟩ | ⟨ad, l, c, A, L, C, Z, hcs, _, hl, hm, _, hrow⟩
  · simp [Value.cells] at hcs
    obtain ⟨rfl, rfl, rfl⟩ := hcs
    exact ⟨by omega, .inl rfl⟩
  · simp [Value.cells] at hcs
    obtain ⟨rfl, rfl, rfl⟩ := hcs
    refine ⟨by omega, ?_⟩
    by_cases h0 : len = 0
    · exact .inl h0
    · right
      obtain ⟨b, off, spot⟩ := ad
      have hc := (hrow 0 (by omega)).1
      have hspot : spot = none := by simpa [Addr.add] using World.cell?_spot hc
      subst hspot
      refine ⟨b, off, rfl, ?_, fun i hi => ?_⟩
      · have := block_lt hc; simpa [Addr.add] using this
      · obtain ⟨h1, h2, h3, h4, h5, h6, h7⟩ := hrow i (by omega)
        have hrow' : IsRow .i64 W (A i) (L i) (C i) (Z i) := by
          cases ha : A i with
          | none =>
            have := h6 ha
            refine .inl ⟨rfl, by omega, this, List.eq_nil_of_length_eq_zero (by omega)⟩
          | some y => exact .inr ⟨y, rfl, h2, h3, h4, fun j hj => (h7 y ha).2 j (by omega), h5⟩
        obtain ⟨ys, hys, _, _, hr, _⟩ := hrow'.rowI
        refine ⟨A i, ys, C i, ?_, hr⟩
        rw [← hys]
        by_cases hi0 : i = 0
        · subst hi0; simpa [Addr.add] using h1
        · simpa [Addr.add, hi0] using h1
end Go.Proofs.Ytnndlgdlligjbaa
