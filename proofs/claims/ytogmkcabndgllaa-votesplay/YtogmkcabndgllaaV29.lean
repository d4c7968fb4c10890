/- the document's Best -/
import Derived.Test.YtogmkcabndgllaaV28
namespace Go.Proofs.Ytogmkcabndgllaa
open Go.RowKit
/-- who could be a cert among the nodes below j -/
def CandJ (st : List On) (k need : Int) (j : Nat) (v : Vt) : Prop := v.k = k ∧ (∃ x ∈ st, x.v = v ∧ x.n < j) ∧ need ≤ (countL st v : Int)
theorem candj_zero {N : Int} {st : List On} (hb : Bk N st) (k need : Int) (v : Vt) : ¬ CandJ st k need 0 v := by
  rintro ⟨_, ⟨x, hx, _, hn⟩, _⟩
  have := hb.node x hx
  omega
theorem candj_all {N : Int} {st : List On} (hb : Bk N st) (k need : Int) (v : Vt) : CandJ st k need N.toNat v ↔ Cand st k need v := by
  constructor
  · rintro ⟨h1, ⟨x, hx, h2, _⟩, h3⟩
    exact ⟨h1, ⟨x, hx, h2⟩, h3⟩
  · rintro ⟨h1, ⟨x, hx, h2⟩, h3⟩
    have := hb.node x hx
    exact ⟨h1, ⟨x, hx, h2, by omega⟩, h3⟩
theorem candj_none {st : List On} {k need : Int} {j : Nat} (hf : find st k j = none) (v : Vt) : CandJ st k need j v ↔ CandJ st k need (j + 1) v := by
  constructor
  · rintro ⟨h1, ⟨x, hx, h2, h4⟩, h3⟩
    exact ⟨h1, ⟨x, hx, h2, by omega⟩, h3⟩
  · rintro ⟨h1, ⟨x, hx, h2, h4⟩, h3⟩
    have : x.n ≠ j := fun e => find_none hf x hx ⟨by rw [h2]; exact h1, e⟩
    exact ⟨h1, ⟨x, hx, h2, by omega⟩, h3⟩
theorem candj_some {st : List On} (hu : Uniq st) {k need : Int} {j : Nat} {y : On} (hf : find st k j = some y) (hn : need ≤ (countL st y.v : Int)) (v : Vt) : (CandJ st k need j v ∨ v = y.v) ↔ CandJ st k need (j + 1) v := by
  obtain ⟨hy, hk, hyn⟩ := find_some hf
  constructor
  · rintro (⟨h1, ⟨x, hx, h2, h4⟩, h3⟩ | rfl)
    · exact ⟨h1, ⟨x, hx, h2, by omega⟩, h3⟩
    · exact ⟨hk, ⟨y, hy, rfl, by omega⟩, hn⟩
  · rintro ⟨h1, ⟨x, hx, h2, h4⟩, h3⟩
    by_cases e : x.n = j
    · right
      have := find_mem hu hx
      rw [h2, h1, e, hf] at this
      rw [← h2, Option.some.inj this]
    · exact .inl ⟨h1, ⟨x, hx, h2, by omega⟩, h3⟩
theorem candj_few {st : List On} (hu : Uniq st) {k need : Int} {j : Nat} {y : On} (hf : find st k j = some y) (hn : ¬ need ≤ (countL st y.v : Int)) (v : Vt) : CandJ st k need j v ↔ CandJ st k need (j + 1) v := by
  constructor
  · rintro ⟨h1, ⟨x, hx, h2, h4⟩, h3⟩
    exact ⟨h1, ⟨x, hx, h2, by omega⟩, h3⟩
  · rintro ⟨h1, ⟨x, hx, h2, h4⟩, h3⟩
    by_cases e : x.n = j
    · exfalso
      have := find_mem hu hx
      rw [h2, h1, e, hf] at this
      have := Option.some.inj this
      rw [this, h2] at hn
      exact hn h3
    · exact ⟨h1, ⟨x, hx, h2, by omega⟩, h3⟩
/-- the best cert so far, in its block -/
structure XB (w1 wr : World) (R Cb : Nat) (N : Int) (st : List On) (need : Int) (o : Option Vt) : Prop where
  ex : ∃ a cap, wr.rangeAt Cb 0 ((o.getD vt0).cells ++ [Value.slice a ((certOf N st (o.getD vt0) need).getD []).length cap]) ∧ SigsAt wr a ((certOf N st (o.getD vt0) need).getD []) ∧ ∀ x, a = some x → w1.heap.size ≤ x.block
  tb : wr.there Cb 0 37
  tr : wr.there R 0 37
  bl : Cb < w1.heap.size
  rl : R < w1.heap.size
  ne : R ≠ Cb
  ge : w1.heap.size ≤ wr.heap.size
theorem XB.below {w1 w w' : World} {R Cb : Nat} {N : Int} {st : List On} {need : Int} {o : Option Vt} (h : XB w1 w R Cb N st need o) (hb : Below w.heap.size w w') : XB w1 w' R Cb N st need o := by
  obtain ⟨⟨a, cap, h1, h2, h3⟩, h4, h5, h6, h7, h8, h9⟩ := h
  exact ⟨⟨a, cap, range_below h1 hb (by omega), h2.below hb, h3⟩, there_below h4 hb (by omega), there_below h5 hb (by omega), h6, h7, h8, Nat.le_trans h9 hb.size⟩
theorem XB.put {w1 w : World} {R Cb : Nat} {N : Int} {st : List On} {need : Int} {o : Option Vt} (h : XB w1 w R Cb N st need o) {v : Vt} (hv : v.ok) {a : Option Addr} {cap : Nat} (hs : SigsAt w a ((certOf N st v need).getD [])) (ha : ∀ x, a = some x → w1.heap.size ≤ x.block) :
    XB w1 (w.setCells Cb 0 (v.cells ++ [Value.slice a ((certOf N st v need).getD []).length cap])) R Cb N st need (some v) := by
  refine ⟨⟨a, cap, World.rangeAt_setCells_same _ _ _ _ (by simpa [hv.len] using h.tb), SigsAt.at hs (by rw [size_sets]; exact Nat.le_refl _) (fun x hx => set_other _ _ _ _ _ (by have := ha x hx; have := h.bl; omega)), ha⟩, World.there_setCells h.tb _ _ _, World.there_setCells h.tr _ _ _, h.bl, h.rl, h.ne, by rw [size_sets]; exact h.ge⟩
theorem top_okJ {N : Int} {st : List On} (hb : Bk N st) {k need : Int} {j : Nat} {o : Option Vt} (h : Top (CandJ st k need j) o) : (o.getD vt0).ok := by
  cases o with
  | none => exact vt0_ok
  | some b =>
    obtain ⟨y, hy, e, _⟩ := h.1.2.1
    show b.ok
    rw [← e]
    exact (hb.ok y hy).v
end Go.Proofs.Ytogmkcabndgllaa
