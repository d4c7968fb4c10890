/- What a law is told of its slices, and what the contracts want. -/
import Derived.Test.YtiihfjoikoogfabLives
import Derived.ProofKit
import Derived.OpenShut
import Derived.ShutString
import Derived.ChangeOld
namespace Go.Proofs.Ytiihfjoikoogfab
open Go.RowKit
open Crc

theorem own : ownKnob Try.prog.godebug = none := by kernel_rfl
theorem laidOut : laidOutB Try.prog = true := by kernel_rfl

/-- A slice of integers that came in: it is nil; or it leads to a row of 'cap' cells, the numbers 'zs' (the first 'len' are its elements), each fitting its kind. -/
def IsRow (k : IntKind) (w : World) (a : Option Addr) (len cap : Nat) (zs : List Int) : Prop :=
  (a = none ∧ len = 0 ∧ cap = 0 ∧ zs = []) ∨
  ∃ x, a = some x ∧ len ≤ cap ∧ cap ≤ maxLen ∧ zs.length = cap ∧ (∀ i, i < zs.length → w.cell? (x.add i) = some (.int k (zs.getD i 0))) ∧ ∀ n ∈ zs, (Lit.int k n).wf = true

/-- a slice of ints -/
def RowI (w : World) (a : Option Addr) (zs : List Int) : Prop :=
  zs.length ≤ maxLen ∧ (zs = [] ∨ ∃ b off, a = some ⟨b, off, none⟩ ∧ b < w.heap.size ∧ ∀ j, j < zs.length → w.cell? ⟨b, off + j, none⟩ = some (.int .i64 (zs.getD j 0)))

theorem block_lt {w : World} {a : Addr} {v : Value} (h : w.cell? a = some v) : a.block < w.heap.size := by
  rcases Nat.lt_or_ge a.block w.heap.size with h' | h'
  · exact h'
  · simp [World.cell?, h'] at h

theorem IsRow.cells {k : IntKind} {w : World} {a : Option Addr} {len cap : Nat} {zs : List Int} (h : IsRow k w a len cap zs) :
    len ≤ cap ∧ cap ≤ maxLen ∧ (zs.take len).length = len ∧ (∀ z ∈ zs.take len, (Lit.int k z).wf = true) ∧ (zs.take len = [] ∨ ∃ b off, a = some ⟨b, off, none⟩ ∧ b < w.heap.size ∧ ∀ j, j < (zs.take len).length → w.cell? ⟨b, off + j, none⟩ = some (.int k ((zs.take len).getD j 0))) := by
  rcases h with ⟨rfl, rfl, rfl, rfl⟩ | ⟨x, rfl, hl, hm, hz, hcell, hwz⟩
  · simp
  · refine ⟨hl, hm, by rw [List.length_take]; omega, fun z hz => hwz z (List.mem_of_mem_take hz), ?_⟩
    by_cases h0 : len = 0
    · left; simp [h0]
    · right
      obtain ⟨b, off, spot⟩ := x
      have hc := hcell 0 (by omega)
      have hspot : spot = none := by simpa [Addr.add] using World.cell?_spot hc
      subst hspot
      refine ⟨b, off, rfl, ?_, fun j hj => ?_⟩
      · have := block_lt hc; simpa [Addr.add] using this
      · rw [List.length_take] at hj
        have hcj := hcell j (by omega)
        have e1 : (zs.take len).getD j 0 = zs.getD j 0 := by
          simp only [List.getD_eq_getElem?_getD, List.getElem?_take]; rw [if_pos (by omega)]
        rw [e1]
        by_cases hj0 : j = 0
        · subst hj0; simpa [Addr.add] using hcj
        · simpa [Addr.add, hj0] using hcj

theorem IsRow.rowAt {w : World} {a : Option Addr} {len cap : Nat} {zs : List Int} (h : IsRow .u8 w a len cap zs) : ∃ ys : List Int, len = ys.length ∧ len ≤ cap ∧ cap ≤ maxLen ∧ RowAt w a ys := by
  obtain ⟨h1, h2, h3, h4, h5⟩ := h.cells
  refine ⟨zs.take len, h3.symm, h1, h2, by omega, fun z hz => ?_, h5⟩
  have := h4 z hz
  simp [Lit.wf, IntKind.min, IntKind.max, IntKind.signed, IntKind.bits] at this
  omega
theorem IsRow.rowI {w : World} {a : Option Addr} {len cap : Nat} {zs : List Int} (h : IsRow .i64 w a len cap zs) : ∃ ys : List Int, len = ys.length ∧ len ≤ cap ∧ cap ≤ maxLen ∧ RowI w a ys ∧ ∀ z ∈ ys, (Lit.int .i64 z).wf = true := by
  obtain ⟨h1, h2, h3, h4, h5⟩ := h.cells
  exact ⟨zs.take len, h3.symm, h1, h2, ⟨by omega, h5⟩, h4⟩

/-- where x[n:] begins -/
def cutA (a : Option Addr) (cap n : Nat) : Option Addr := if cap = n then a else a.map (·.add n)
theorem RowAt.take {w : World} {a : Option Addr} {zs : List Int} (h : RowAt w a zs) (n : Nat) : RowAt w a (zs.take n) := by
  obtain ⟨h1, h2, h3⟩ := h
  refine ⟨by rw [List.length_take]; omega, fun z hz => h2 z (List.mem_of_mem_take hz), ?_⟩
  rcases h3 with rfl | ⟨b, off, rfl, hb, hc⟩
  · left; simp
  · right
    refine ⟨b, off, rfl, hb, fun j hj => ?_⟩
    rw [List.length_take] at hj
    rw [hc j (by omega)]
    simp only [List.getD_eq_getElem?_getD, List.getElem?_take]
    rw [if_pos (by omega)]
theorem RowAt.drop {w : World} {a : Option Addr} {zs : List Int} (h : RowAt w a zs) (n cap : Nat) (hn : n ≤ zs.length) (hcap : zs.length ≤ cap) : RowAt w (cutA a cap n) (zs.drop n) := by
  obtain ⟨h1, h2, h3⟩ := h
  refine ⟨by rw [List.length_drop]; omega, fun z hz => h2 z (List.mem_of_mem_drop hz), ?_⟩
  by_cases he : n = zs.length
  · left; simp [he]
  · rcases h3 with rfl | ⟨b, off, rfl, hb, hc⟩
    · left; simp
    · right
      refine ⟨b, off + n, ?_, hb, fun j hj => ?_⟩
      · unfold cutA
        rw [if_neg (by omega)]
        by_cases h0 : n = 0 <;> simp [Addr.add, h0]
      · rw [List.length_drop] at hj
        rw [Nat.add_assoc, hc (n + j) (by omega)]
        simp only [List.getD_eq_getElem?_getD, List.getElem?_drop]
end Go.Proofs.Ytiihfjoikoogfab
