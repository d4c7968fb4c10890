/- leaders.among, among$1: contracts. -/
import Derived.Test.YtnndlgdlligjbabLNodes
namespace Go.Proofs.Ytnndlgdlligjbab
open Go.RowKit Go.Shelf Go.Deep
/-- what among made: two boxes, and a row that tells of each node whether it stands in the list -/
def AmongAt (W : World) (s N : Nat) (p : Nat → Bool) : Prop :=
  W.cell? ⟨s, 0, none⟩ = some (.int .i64 (N : Int)) ∧ W.cell? ⟨s + 1 + 1, 0, none⟩ = some (.slice (some ⟨s + 1, 0, none⟩) N N) ∧ s + 1 + 1 < W.heap.size ∧ ∀ j, j < N → W.cell? ⟨s + 1, j, none⟩ = some (.bool (p j))
theorem AmongAt.below {W W' : World} {s N : Nat} {p : Nat → Bool} (h : AmongAt W s N p) (hb : Below W.heap.size W W') : AmongAt W' s N p := by
  obtain ⟨h1, h2, h3, h4⟩ := h
  exact ⟨(hb.cell (p := ⟨s, 0, none⟩) (by show s < _; omega)).trans h1, (hb.cell (p := ⟨s + 1 + 1, 0, none⟩) h3).trans h2, Nat.lt_of_lt_of_le h3 hb.size, fun j hj => (hb.cell (p := ⟨s + 1, j, none⟩) (by show s + 1 < _; omega)).trans (h4 j hj)⟩
theorem AmongAt.belowN {W W' : World} {s N n₀ : Nat} {p : Nat → Bool} (h : AmongAt W s N p) (hb : Below n₀ W W') (hn : s + 1 + 1 < n₀) : AmongAt W' s N p := by
  obtain ⟨h1, h2, h3, h4⟩ := h
  exact ⟨(hb.cell (p := ⟨s, 0, none⟩) (by show s < _; omega)).trans h1, (hb.cell (p := ⟨s + 1 + 1, 0, none⟩) hn).trans h2, Nat.lt_of_lt_of_le h3 hb.size, fun j hj => (hb.cell (p := ⟨s + 1, j, none⟩) (by show s + 1 < _; omega)).trans (h4 j hj)⟩
/-- the closure's caught places -/
def capsA (s : Nat) : Array Value := #[.pointer (some ⟨s, 0, none⟩), .pointer (some ⟨s + 1 + 1, 0, none⟩)]
def amB (N : Nat) (p : Nat → Bool) (x : Int) : Bool := inB x 0 ((N : Int) - 1) && p x.toNat
theorem amB_in {N : Nat} {p : Nat → Bool} {k : Nat} (h : k < N) : amB N p (k : Int) = p k := by
  unfold amB; rw [inB_mk (by omega)]; simp
theorem amB_out {N : Nat} {p : Nat → Bool} {x : Int} (h : ¬ (0 ≤ x ∧ x < N)) : amB N p x = false := by
  unfold amB; rw [inB_no (by omega)]; rfl
theorem bools_set {w : World} {b t m : Nat} {f g : Nat → Bool} (h : w.rowIs b t m fun j => .bool (f j)) (p : Nat) (hg : ∀ j, j < m → g j = if j = p then true else f j) : (w.setCell ⟨b, p, none⟩ (.bool true)).rowIs b t m fun j => .bool (g j) := by
  refine (h.set p (.bool true)).congr ?_
  intro j hj
  show (if j = p then _ else _) = _
  rw [hg j hj]
  split <;> rfl
theorem mem_take_succ {zs : List Int} {k : Nat} (h : k < zs.length) (j : Int) : (j ∈ zs.take (k + 1)) ↔ j ∈ zs.take k ∨ j = zs[k] := by
  rw [List.take_succ_eq_append_getElem h, List.mem_append, List.mem_singleton]
end Go.Proofs.Ytnndlgdlligjbab
