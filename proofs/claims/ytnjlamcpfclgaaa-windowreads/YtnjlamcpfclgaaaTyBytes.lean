/- Slices of bytes and of ints, as a law is told of them and as contracts want them; bytes of the call's own; bytes as a string. -/
import Derived.Test.YtnjlamcpfclgaaaRows
import Derived.Test.YtnjlamcpfclgaaaTyAppend
import Derived.WalkKit
import Derived.WalkSpells
import Derived.RegionTactic
import Derived.ChangeAlike
import Derived.BigRegion
import Derived.Outline
import Derived.ProofKit
import Derived.OpenShut
import Derived.ShutString
import Derived.ChangeOld
namespace Go.Proofs.Ytnjlamcpfclgaaa.Ty
open Go.RowKit

theorem own : ownKnob Try.prog.godebug = none := by kernel_rfl
theorem laidOut : laidOutB Try.prog = true := by kernel_rfl

/-- a slice of bytes whose elements are zs (nil, empty or over memory that lies there) -/
def RowAt (w : World) (a : Option Addr) (zs : List Int) : Prop :=
  zs.length ≤ maxLen ∧ (∀ z ∈ zs, 0 ≤ z ∧ z < 256) ∧ (zs = [] ∨ ∃ b off, a = some ⟨b, off, none⟩ ∧ b < w.heap.size ∧ ∀ j, j < zs.length → w.cell? ⟨b, off + j, none⟩ = some (.int .u8 (zs.getD j 0)))

theorem RowAt.below {w w' : World} {a : Option Addr} {zs : List Int} (h : RowAt w a zs) (hb : Below w.heap.size w w') : RowAt w' a zs := by
  refine ⟨h.1, h.2.1, ?_⟩
  rcases h.2.2 with h | ⟨b, off, rfl, h1, h2⟩
  · exact Or.inl h
  · refine Or.inr ⟨b, off, rfl, Nat.lt_of_lt_of_le h1 hb.size, fun j hj => (hb.cell (p := ⟨b, off + j, none⟩) h1).trans (h2 j hj)⟩

/-- A slice of integers that came in: it is nil; or it leads to a row of 'cap' cells, the numbers 'zs' (the first 'len' are its elements), each fitting its kind. -/
def IsRow (k : IntKind) (w : World) (a : Option Addr) (len cap : Nat) (zs : List Int) : Prop :=
  (a = none ∧ len = 0 ∧ cap = 0 ∧ zs = []) ∨
  ∃ x, a = some x ∧ len ≤ cap ∧ cap ≤ maxLen ∧ zs.length = cap ∧ (∀ i, i < zs.length → w.cell? (x.add i) = some (.int k (zs.getD i 0))) ∧ ∀ n ∈ zs, (Lit.int k n).wf = true

/-- a slice of ints -/
def RowI (w : World) (a : Option Addr) (zs : List Int) : Prop :=
  zs.length ≤ maxLen ∧ (zs = [] ∨ ∃ b off, a = some ⟨b, off, none⟩ ∧ b < w.heap.size ∧ ∀ j, j < zs.length → w.cell? ⟨b, off + j, none⟩ = some (.int .i64 (zs.getD j 0)))

theorem block_lt {w : World} {a : Addr} {v : Value} (h : w.cell? a = some v) : a.block < w.heap.size := by
  rcases Nat.lt_or_ge a.block w.heap.size with h' | h'
  · exact h'
  · simp [World.cell?, h'] at h

theorem IsRow.cells {k : IntKind} {w : World} {a : Option Addr} {len cap : Nat} {zs : List Int} (h : IsRow k w a len cap zs) :
    len ≤ cap ∧ cap ≤ maxLen ∧ (zs.take len).length = len ∧ (∀ z ∈ zs.take len, (Lit.int k z).wf = true) ∧ (zs.take len = [] ∨ ∃ b off, a = some ⟨b, off, none⟩ ∧ b < w.heap.size ∧ ∀ j, j < (zs.take len).length → w.cell? ⟨b, off + j, none⟩ = some (.int k ((zs.take len).getD j 0))) := by
  rcases h with ⟨rfl, rfl, rfl, rfl⟩ | ⟨x, rfl, hl, hm, hz, hcell, hwz⟩
  · simp
  · refine ⟨hl, hm, by rw [List.length_take]; omega, fun z hz => hwz z (List.mem_of_mem_take hz), ?_⟩
    by_cases h0 : len = 0
    · left; simp [h0]
    · right
      obtain ⟨b, off, spot⟩ := x
      have hc := hcell 0 (by omega)
      have hspot : spot = none := by simpa [Addr.add] using World.cell?_spot hc
      subst hspot
      refine ⟨b, off, rfl, ?_, fun j hj => ?_⟩
      · have := block_lt hc; simpa [Addr.add] using this
      · rw [List.length_take] at hj
        have hcj := hcell j (by omega)
        have e1 : (zs.take len).getD j 0 = zs.getD j 0 := by
          simp only [List.getD_eq_getElem?_getD, List.getElem?_take]; rw [if_pos (by omega)]
        rw [e1]
        by_cases hj0 : j = 0
        · subst hj0; simpa [Addr.add] using hcj
        · simpa [Addr.add, hj0] using hcj

theorem IsRow.rowAt {w : World} {a : Option Addr} {len cap : Nat} {zs : List Int} (h : IsRow .u8 w a len cap zs) : ∃ ys : List Int, len = ys.length ∧ len ≤ cap ∧ cap ≤ maxLen ∧ RowAt w a ys := by
  obtain ⟨h1, h2, h3, h4, h5⟩ := h.cells
  refine ⟨zs.take len, h3.symm, h1, h2, by omega, fun z hz => ?_, h5⟩
  have := h4 z hz
  simp [Lit.wf, IntKind.min, IntKind.max, IntKind.signed, IntKind.bits] at this
  omega
theorem IsRow.rowI {w : World} {a : Option Addr} {len cap : Nat} {zs : List Int} (h : IsRow .i64 w a len cap zs) : ∃ ys : List Int, len = ys.length ∧ len ≤ cap ∧ cap ≤ maxLen ∧ RowI w a ys ∧ ∀ z ∈ ys, (Lit.int .i64 z).wf = true := by
  obtain ⟨h1, h2, h3, h4, h5⟩ := h.cells
  exact ⟨zs.take len, h3.symm, h1, h2, ⟨by omega, h5⟩, h4⟩

/-- where x[n:] begins -/
def cutA (a : Option Addr) (cap n : Nat) : Option Addr := if cap = n then a else a.map (·.add n)
theorem RowAt.take {w : World} {a : Option Addr} {zs : List Int} (h : RowAt w a zs) (n : Nat) : RowAt w a (zs.take n) := by
  obtain ⟨h1, h2, h3⟩ := h
  refine ⟨by rw [List.length_take]; omega, fun z hz => h2 z (List.mem_of_mem_take hz), ?_⟩
  rcases h3 with rfl | ⟨b, off, rfl, hb, hc⟩
  · left; simp
  · right
    refine ⟨b, off, rfl, hb, fun j hj => ?_⟩
    rw [List.length_take] at hj
    rw [hc j (by omega)]
    simp only [List.getD_eq_getElem?_getD, List.getElem?_take]
    rw [if_pos (by omega)]
theorem RowAt.drop {w : World} {a : Option Addr} {zs : List Int} (h : RowAt w a zs) (n cap : Nat) (hn : n ≤ zs.length) (hcap : zs.length ≤ cap) : RowAt w (cutA a cap n) (zs.drop n) := by
  obtain ⟨h1, h2, h3⟩ := h
  refine ⟨by rw [List.length_drop]; omega, fun z hz => h2 z (List.mem_of_mem_drop hz), ?_⟩
  by_cases he : n = zs.length
  · left; simp [he]
  · rcases h3 with rfl | ⟨b, off, rfl, hb, hc⟩
    · left; simp
    · right
      refine ⟨b, off + n, ?_, hb, fun j hj => ?_⟩
      · unfold cutA
        rw [if_neg (by omega)]
        by_cases h0 : n = 0 <;> simp [Addr.add, h0]
      · rw [List.length_drop] at hj
        rw [Nat.add_assoc, hc (n + j) (by omega)]
        simp only [List.getD_eq_getElem?_getD, List.getElem?_drop]
theorem info5 : (Try.prog.info? 5).map (fun i => (i.zero, i.size, i.bytes)) = some (some (.int .u8 0), 1, 1) := by kernel_rfl

theorem RowAt.cellsAt {w : World} {x : Addr} {zs : List Int} (h : RowAt w (some x) zs) : ∀ j u, (zs.map (Value.int .u8))[j]? = some u → w.cell? (x.add j) = some u := by
  intro j u hu
  obtain ⟨h1, h2, rfl | ⟨b, off, hx, hb, hc⟩⟩ := h
  · simp at hu
  · simp only [Option.some.injEq] at hx
    subst hx
    rw [List.getElem?_map] at hu
    cases hz : zs[j]? with
    | none => simp [hz] at hu
    | some z =>
      simp [hz] at hu
      subst hu
      have hj : j < zs.length := by
        rcases Nat.lt_or_ge j zs.length with h | h
        · exact h
        · rw [List.getElem?_eq_none h] at hz; cases hz
      have := hc j hj
      rw [List.getD_eq_getElem?_getD, hz] at this
      by_cases h0 : j = 0
      · subst h0; simpa [Addr.add] using this
      · simpa [Addr.add, h0] using this
theorem RowAt.none_nil {w : World} {zs : List Int} (h : RowAt w none zs) : zs = [] := by
  obtain ⟨h1, h2, h | ⟨b, off, hx, hb, hc⟩⟩ := h
  · exact h
  · cases hx
theorem RowAt.src {w : World} {a : Option Addr} {zs : List Int} (h : RowAt w a zs) (cap : Nat) : Src Try.prog 1 38 (.slice a zs.length cap) zs.length (zs.map (Value.int .u8)) w := by
  cases a with
  | none => obtain rfl := h.none_nil; exact Src.ofNil w Try.underlying38 cap
  | some x =>
    refine Src.ofSlice w Try.underlying38 x zs.length cap _ (by simp) h.cellsAt (fun u hu => ?_)
    obtain ⟨z, _, rfl⟩ := List.mem_map.1 hu
    rfl
/-- bytes as a string -/
def strOf (zs : List Int) : ByteArray := zs.foldl (fun r n => r.push (UInt8.ofNat n.toNat)) ByteArray.empty
theorem RowAt.str {w : World} {a : Option Addr} {zs : List Int} (h : RowAt w a zs) (cap : Nat) : (convert 38 9 (.slice a zs.length cap)).run Try.prog w = .ok (.string (strOf zs)) w := by
  rw [run_convert_bytes_string w 38 9 5 a zs.length cap Try.underlying38 Try.underlying5 Try.underlying9]
  cases a with
  | none => obtain rfl := h.none_nil; rfl
  | some x =>
    have := run_loadCells_list (P := Try.prog) w x (zs.map (Value.int .u8)) h.cellsAt
    rw [List.length_map] at this
    exact run_bytesToString w x zs.length cap zs this

theorem own_rowAt {w : World} {base : Nat} {v : Value} {zs : List Int} (h : w.ownsRow base 5 1 v zs.length (zs.map (Value.int .u8))) (hz : ∀ z ∈ zs, 0 ≤ z ∧ z < 256) (hm : zs.length ≤ maxLen) :
    ∃ a cap, v = .slice a zs.length cap ∧ zs.length ≤ cap ∧ cap ≤ maxLen ∧ RowAt w a zs := by
  rcases h.2 with ⟨rfl, h0⟩ | ⟨g, cap, cur, rfl, hb, hg, hn, hcm, hcs, ht⟩
  · have : zs = [] := List.eq_nil_of_length_eq_zero h0
    subst this
    exact ⟨none, 0, rfl, by simp, by unfold maxLen; omega, hm, hz, Or.inl rfl⟩
  · refine ⟨_, cap, rfl, hn, hcm, hm, hz, Or.inr ⟨g, 0, rfl, (Array.getElem?_eq_some_iff.1 hg).1, fun j hj => ?_⟩⟩
    have := h.cells (g := g) rfl j (.int .u8 (zs.getD j 0)) (by rw [List.getElem?_map, List.getElem?_eq_getElem hj, List.getD_eq_getElem?_getD, List.getElem?_eq_getElem hj]; rfl)
    by_cases h0 : j = 0
    · subst h0; simpa [Addr.add] using this
    · simpa [Addr.add, h0] using this
/-- a row that may be written: block g from place 0 on -/
def RowW (w : World) (g : Nat) (ys : List Int) : Prop := g < w.heap.size ∧ (∀ j, j < ys.length → w.cell? ⟨g, j, none⟩ = some (.int .u8 (ys.getD j 0))) ∧ (∀ j, j < ys.length → w.frozen? ⟨g, j, none⟩ = false)

theorem own_rowW {w : World} {base : Nat} {v : Value} {zs : List Int} (h : w.ownsRow base 5 1 v zs.length (zs.map (Value.int .u8))) (hpos : 0 < zs.length) :
    ∃ g cap, v = .slice (some ⟨g, 0, none⟩) zs.length cap ∧ base ≤ g ∧ zs.length ≤ cap ∧ cap ≤ maxLen ∧ RowW w g zs := by
  rcases h.2 with ⟨rfl, h0⟩ | ⟨g, cap, cur, rfl, hb, hg, hn, hcm, hcs, ht⟩
  · omega
  · refine ⟨g, cap, rfl, hb, hn, hcm, (Array.getElem?_eq_some_iff.1 hg).1, fun j hj => ?_, fun j hj => ?_⟩
    · have := h.cells (g := g) rfl j (.int .u8 (zs.getD j 0)) (by rw [List.getElem?_map, List.getElem?_eq_getElem hj, List.getD_eq_getElem?_getD, List.getElem?_eq_getElem hj]; rfl)
      by_cases h0 : j = 0
      · subst h0; simpa [Addr.add] using this
      · simpa [Addr.add, h0] using this
    · simp [World.frozen?, hg]
theorem RowW.set {w : World} {g : Nat} {ys : List Int} (h : RowW w g ys) (q : Nat) (hq : q < ys.length) (z : Int) : RowW (w.setCell ⟨g, q, none⟩ (.int .u8 z)).drew g (ys.set q z) := by
  obtain ⟨h1, h2, h3⟩ := h
  refine ⟨by simpa [World.setCell] using h1, fun j hj => ?_, fun j hj => ?_⟩
  · rw [List.length_set] at hj
    show (w.setCell ⟨g, q, none⟩ (.int .u8 z)).cell? ⟨g, j, none⟩ = _
    by_cases hjq : j = q
    · subst hjq
      rw [World.cell?_setCell_same _ _ _ (h2 j hj), List.getD_eq_getElem?_getD, List.getElem?_set_self hj]
      rfl
    · rw [World.cell?_setCell_other _ _ _ _ (by simp), h2 j hj, List.getD_eq_getElem?_getD, List.getD_eq_getElem?_getD, List.getElem?_set_ne (by omega)]
  · rw [List.length_set] at hj
    exact (World.frozen?_setCell _ _ _ _).trans (h3 j hj)
theorem RowW.rowAt {w : World} {g : Nat} {ys : List Int} (h : RowW w g ys) (hm : ys.length ≤ maxLen) (hz : ∀ z ∈ ys, 0 ≤ z ∧ z < 256) : RowAt w (some ⟨g, 0, none⟩) ys :=
  ⟨hm, hz, Or.inr ⟨g, 0, rfl, h.1, fun j hj => by rw [Nat.zero_add]; exact h.2.1 j hj⟩⟩
theorem RowAt.get {w : World} {a : Option Addr} {zs : List Int} (h : RowAt w a zs) (k : Nat) (hk : k < zs.length) : ∃ b off, a = some ⟨b, off, none⟩ ∧ b < w.heap.size ∧ w.cell? ⟨b, off + k, none⟩ = some (.int .u8 (zs.getD k 0)) ∧ 0 ≤ zs.getD k 0 ∧ zs.getD k 0 < 256 := by
  obtain ⟨h1, h2, rfl | ⟨b, off, rfl, hb, hc⟩⟩ := h
  · simp at hk
  · refine ⟨b, off, rfl, hb, hc k hk, ?_⟩
    rw [List.getD_eq_getElem?_getD, List.getElem?_eq_getElem hk]; exact h2 _ (List.getElem_mem hk)
end Go.Proofs.Ytnjlamcpfclgaaa.Ty
