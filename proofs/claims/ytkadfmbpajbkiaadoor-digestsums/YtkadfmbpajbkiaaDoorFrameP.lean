/- parts that came in: a slice of slices of bytes -/
import Derived.Test.YtkadfmbpajbkiaaDoorFrame
import Derived.Test.YtkadfmbpajbkiaaDoorOwn
import Derived.Deep.Matrix
namespace Go.Proofs.YtkadfmbpajbkiaaDoor
open Go.ChangeShapes Go.WideShapes Go.ChangeAt Go.RowKit Go.Deep
open Sha
theorem blk_lt {w : World} {a : Addr} {v : Value} (h : w.cell? a = some v) : a.block < w.heap.size := by
  rcases Nat.lt_or_ge a.block w.heap.size with h' | h'
  · exact h'
  · simp [World.cell?, h'] at h
theorem open_parts {H : Type} {enc : TypeId × Value → H} {W : World} {base b : Nat} {held : Bool} {fuel : Nat} {v : Value} {x : DataW H × List MemPlace} (hv : Value.okWide Tryd.prog W .any base 22 v)
    (h : DataW.trod enc Tryd.prog W b (fun _ => true) held fuel 22 v.cells.toList = some x) : ∃ a cap ps, v = .slice a (List.length ps) cap ∧ PartsAt W a ps := by
  obtain ⟨a0, len, cap, rfl⟩ := okWide_slice Tryd.underlying22 hv
  rcases open_int_rows Tryd.underlying22 Tryd.underlying27 Tryd.underlying5 (by kernel_rfl) (by kernel_rfl) h with ⟨hcs, _⟩ | ⟨a, len', cap', A, L, C, Z, hcs, _, hl, hm, _, hr⟩
  · simp [Value.cells] at hcs
    obtain ⟨rfl, rfl, rfl⟩ := hcs
    exact ⟨none, 0, [], rfl, by unfold maxLen; simp, by simp, Or.inl rfl⟩
  · simp [Value.cells] at hcs
    obtain ⟨rfl, rfl, rfl⟩ := hcs
    have key : ∀ r, ∃ p : Part, r < len → (W.cell? (a.add r) = some p.val ∧ p.at W) := by
      intro r
      by_cases hlt : r < len
      · obtain ⟨h1, h2, h3, h4, h5, h6, h7⟩ := hr r (by omega)
        have hrow : IsRow .u8 W (A r) (L r) (C r) (Z r) := by
          cases hA : A r with
          | none =>
            have hc := h6 hA
            have hl0 : L r = 0 := by omega
            have hz : Z r = [] := List.eq_nil_of_length_eq_zero (by omega)
            rw [hc, hl0, hz]
            exact .inl ⟨rfl, rfl, rfl, rfl⟩
          | some a' => exact .inr ⟨a', rfl, h2, h3, h4, fun i hi => (h7 a' hA).2 i (by omega), h5⟩
        obtain ⟨ys, hy, hc, hmx, hrow'⟩ := hrow.rowAt
        refine ⟨⟨A r, C r, ys⟩, fun _ => ⟨?_, hrow', by show ys.length ≤ C r; omega, hmx⟩⟩
        rw [h1, hy]; rfl
      · exact ⟨⟨none, 0, []⟩, fun h => absurd h hlt⟩
    obtain ⟨f, hf⟩ := Classical.axiomOfChoice key
    refine ⟨some a, cap, (List.range len).map f, by simp, by simp; omega, ?_, ?_⟩
    · intro p hp
      obtain ⟨r, hr', rfl⟩ := List.mem_map.1 hp
      exact (hf r (List.mem_range.1 hr')).2
    · by_cases h0 : len = 0
      · left; simp [h0]
      · right
        obtain ⟨b', off, spot⟩ := a
        have hc := (hf 0 (by omega)).1
        have hspot : spot = none := by simpa [Addr.add] using World.cell?_spot hc
        subst hspot
        refine ⟨b', off, rfl, by have := blk_lt hc; simpa [Addr.add] using this, fun j u hu => ?_⟩
        rw [List.getElem?_map, List.getElem?_map] at hu
        by_cases hj : j < len
        · rw [List.getElem?_range hj] at hu
          simp at hu
          subst hu
          have := (hf j hj).1
          rw [Addr.add_mid] at this
          exact this
        · rw [List.getElem?_eq_none (by simpa using hj)] at hu; simp at hu
end Go.Proofs.YtkadfmbpajbkiaaDoor
