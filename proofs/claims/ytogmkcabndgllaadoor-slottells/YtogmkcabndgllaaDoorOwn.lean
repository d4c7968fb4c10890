/- Rows of the call's own: bytes, parts; slices that came in. -/
import Derived.Test.YtogmkcabndgllaaDoorSum
import Derived.Test.YtogmkcabndgllaaDoorAppend
import Derived.OwnWalk
namespace Go.Proofs.YtogmkcabndgllaaDoor
open Go.RowKit
open Sha
theorem info8 : (Tryd.prog.info? 5).map (fun i => (i.zero, i.size, i.bytes)) = some (some (.int .u8 0), 1, 1) := by kernel_rfl
theorem infoP : (Tryd.prog.info? 80).map (fun i => (i.zero, i.size, i.bytes)) = some (some (.slice none 0 0), 1, 24) := by kernel_rfl
theorem info_parts {e : TypeId} {z : Value} {s b : Nat} (h : (Tryd.prog.info? e).map (fun i => (i.zero, i.size, i.bytes)) = some (some z, s, b)) : ∃ i, Tryd.prog.info? e = some i ∧ i.zero = some z ∧ i.size = s ∧ i.bytes = b := by
  cases hq : Tryd.prog.info? e with
  | none => rw [hq] at h; cases h
  | some i =>
    rw [hq] at h
    simp only [Option.map_some, Option.some.injEq, Prod.mk.injEq] at h
    exact ⟨i, rfl, h.1, h.2.1, h.2.2⟩
theorem below_grown {B : Nat} {w w1 w2 : World} {e : TypeId} {v : Value} {n : Nat} {xs : List Value} (hb : Below B w w1) (hB : B ≤ w1.heap.size) (ho : w1.ownsRow B e 1 v n xs) (hg : w1.grownBy w2 v.ownBlock) : Below B w w2 :=
  hb.grown hg hB (fun k hk => (ho.lt k hk).1)
theorem owns_below {w w' : World} {B : Nat} {e : TypeId} {v : Value} {n : Nat} {xs : List Value} (h : w.ownsRow B e 1 v n xs) (hb : Below w.heap.size w w') : w'.ownsRow B e 1 v n xs := by
  refine ⟨h.1, ?_⟩
  rcases h.2 with h | ⟨g, cap, cur, hv, hg, hh, r⟩
  · exact .inl h
  · exact .inr ⟨g, cap, cur, hv, hg, by rw [hb.block g (Array.getElem?_eq_some_iff.1 hh).1]; exact hh, r⟩
/-- where a row of one's own lies -/
theorem own_range {w : World} {B : Nat} {e : TypeId} {v : Value} {n : Nat} {xs : List Value} (h : w.ownsRow B e 1 v n xs) :
    (v = .slice none 0 0 ∧ n = 0 ∧ xs = []) ∨ ∃ g cap, v = .slice (some ⟨g, 0, none⟩) n cap ∧ B ≤ g ∧ g < w.heap.size ∧ n ≤ cap ∧ cap ≤ maxLen ∧ w.rangeAt g 0 xs := by
  have hl := h.1
  rcases h.2 with ⟨rfl, h0⟩ | ⟨g, cap, cur, rfl, hb, hg, hn, hcm, hcs, ht⟩
  · left
    refine ⟨rfl, h0, List.eq_nil_of_length_eq_zero (by rw [hl, h0])⟩
  · right
    refine ⟨g, cap, rfl, hb, (Array.getElem?_eq_some_iff.1 hg).1, hn, hcm, fun j u hu => ?_⟩
    have := h.cells (g := g) rfl j u hu
    rwa [Addr.add_mid] at this
theorem own_bytes {w : World} {B : Nat} {v : Value} {zs : List Int} (h : w.ownsRow B 5 1 v zs.length (v8 zs)) (hz : ∀ z ∈ zs, 0 ≤ z ∧ z < 256) (hm : zs.length ≤ maxLen) :
    ∃ a cap, v = .slice a zs.length cap ∧ zs.length ≤ cap ∧ cap ≤ maxLen ∧ RowAt w a zs := by
  rcases own_range h with ⟨rfl, h0, _⟩ | ⟨g, cap, rfl, hb, hg, hn, hcm, hr⟩
  · have : zs = [] := List.eq_nil_of_length_eq_zero h0
    subst this
    exact ⟨none, 0, rfl, by simp, by unfold maxLen; omega, hm, hz, Or.inl rfl⟩
  · exact ⟨_, cap, rfl, hn, hcm, hm, hz, Or.inr ⟨g, 0, rfl, hg, hr⟩⟩
theorem own_parts {w : World} {B : Nat} {v : Value} {ps : List Part} (h : w.ownsRow B 80 1 v ps.length (ps.map Part.val)) (hp : ∀ p ∈ ps, p.at w) (hm : ps.length ≤ maxLen) :
    ∃ a cap, v = .slice a ps.length cap ∧ PartsAt w a ps := by
  rcases own_range h with ⟨rfl, h0, _⟩ | ⟨g, cap, rfl, hb, hg, hn, hcm, hr⟩
  · have : ps = [] := List.eq_nil_of_length_eq_zero h0
    subst this
    exact ⟨none, 0, rfl, hm, hp, Or.inl rfl⟩
  · exact ⟨_, cap, rfl, hm, hp, Or.inr ⟨g, 0, rfl, hg, hr⟩⟩
/-- a slice of bytes as what is appended -/
theorem RowAt.src {w : World} {a : Option Addr} {zs : List Int} (h : RowAt w a zs) (cap : Nat) : Src Tryd.prog 1 80 (.slice a zs.length cap) zs.length (v8 zs) w := by
  cases a with
  | none =>
    have : zs = [] := by
      rcases h.2.2 with q | ⟨b, off, hx, _⟩
      · exact q
      · cases hx
    subst this
    exact Src.ofNil w Tryd.underlying80 cap
  | some x =>
    refine Src.ofSlice w Tryd.underlying80 x zs.length cap _ (by simp) (fun j u hu => ?_) (v8_one _)
    rcases h.2.2 with rfl | ⟨b, off, hx, _, hr⟩
    · simp [v8] at hu
    · cases hx
      rw [Addr.add_mid]
      exact hr j u hu
/-- one slice, laid by itself, as what is appended -/
theorem one_src (w : World) (p : Part) : Src Tryd.prog 1 92 (.slice (some ⟨w.heap.size, 0, none⟩) 1 1) 1 [p.val] (w.alloc (.cells #[p.val] 80)) :=
  Src.ofSlice _ Tryd.underlying92 ⟨w.heap.size, 0, none⟩ 1 1 [p.val] (by simp) (fun j u hu => by rw [Addr.add_mid]; exact range_new w #[p.val] 80 j u hu) (fun u hu => by
    obtain rfl := List.mem_singleton.1 hu
    rfl)
/-- A slice of integers that came in. -/
def IsRow (k : IntKind) (w : World) (a : Option Addr) (len cap : Nat) (zs : List Int) : Prop :=
  (a = none ∧ len = 0 ∧ cap = 0 ∧ zs = []) ∨
  ∃ x, a = some x ∧ len ≤ cap ∧ cap ≤ maxLen ∧ zs.length = cap ∧ (∀ i, i < zs.length → w.cell? (x.add i) = some (.int k (zs.getD i 0))) ∧ ∀ n ∈ zs, (Lit.int k n).wf = true
theorem IsRow.cells {k : IntKind} {w : World} {a : Option Addr} {len cap : Nat} {zs : List Int} (h : IsRow k w a len cap zs) :
    len ≤ cap ∧ cap ≤ maxLen ∧ (zs.take len).length = len ∧ (∀ z ∈ zs.take len, (Lit.int k z).wf = true) ∧ (zs.take len = [] ∨ ∃ b off, a = some ⟨b, off, none⟩ ∧ b < w.heap.size ∧ w.rangeAt b off ((zs.take len).map (Value.int k))) := by
  rcases h with ⟨rfl, rfl, rfl, rfl⟩ | ⟨x, rfl, hl, hm, hz, hcell, hwz⟩
  · simp
  · refine ⟨hl, hm, by rw [List.length_take]; omega, fun z hz => hwz z (List.mem_of_mem_take hz), ?_⟩
    by_cases h0 : len = 0
    · left; simp [h0]
    · right
      obtain ⟨b, off, spot⟩ := x
      have hc := hcell 0 (by omega)
      have hspot : spot = none := by simpa [Addr.add] using World.cell?_spot hc
      subst hspot
      refine ⟨b, off, rfl, ?_, fun j v hv => ?_⟩
      · have := World.block_lt_of_cell? w _ hc; simpa [Addr.add] using this
      · have hj : j < (zs.take len).length := by
          have := (List.getElem?_eq_some_iff.1 hv).1
          simpa using this
        rw [List.length_take] at hj
        have hcj := hcell j (by omega)
        rw [Addr.add_mid] at hcj
        rw [hcj, ← hv]
        have hjz : j < zs.length := by omega
        simp only [List.getElem?_map, List.getElem?_take]
        rw [if_pos (by omega), List.getElem?_eq_getElem hjz, List.getD_eq_getElem?_getD, List.getElem?_eq_getElem hjz]
        rfl
theorem IsRow.rowAt {w : World} {a : Option Addr} {len cap : Nat} {zs : List Int} (h : IsRow .u8 w a len cap zs) : ∃ ys : List Int, len = ys.length ∧ len ≤ cap ∧ cap ≤ maxLen ∧ RowAt w a ys := by
  obtain ⟨h1, h2, h3, h4, h5⟩ := h.cells
  refine ⟨zs.take len, h3.symm, h1, h2, by omega, fun z hz => ?_, h5⟩
  have := h4 z hz
  simp [Lit.wf, IntKind.min, IntKind.max, IntKind.signed, IntKind.bits] at this
  omega
/-- a slice of ints -/
def RowI (w : World) (a : Option Addr) (zs : List Int) : Prop :=
  zs.length ≤ maxLen ∧ (∀ z ∈ zs, (Lit.int .i64 z).wf = true) ∧ (zs = [] ∨ ∃ b off, a = some ⟨b, off, none⟩ ∧ b < w.heap.size ∧ w.rangeAt b off (zs.map (Value.int .i64)))
theorem IsRow.rowI {w : World} {a : Option Addr} {len cap : Nat} {zs : List Int} (h : IsRow .i64 w a len cap zs) : ∃ ys : List Int, len = ys.length ∧ len ≤ cap ∧ cap ≤ maxLen ∧ RowI w a ys := by
  obtain ⟨h1, h2, h3, h4, h5⟩ := h.cells
  exact ⟨zs.take len, h3.symm, h1, h2, by omega, h4, h5⟩
end Go.Proofs.YtogmkcabndgllaaDoor
