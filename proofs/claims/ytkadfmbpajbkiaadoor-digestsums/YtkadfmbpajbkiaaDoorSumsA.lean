/- the law of sums: the walk -/
import Derived.Test.YtkadfmbpajbkiaaDoorLight
import Derived.Test.YtkadfmbpajbkiaaDoorAppend2
import Derived.Test.YtkadfmbpajbkiaaDoorMacs
namespace Go.Proofs.YtkadfmbpajbkiaaDoor
open Go.RowKit
open Sha
theorem hide {p : Prop} (h : p) : Hid p := h
theorem own_apart {w : World} {B B' : Nat} {e e' : TypeId} {v v' : Value} {n n' : Nat} {xs xs' : List Value} (h : w.ownsRow B e 1 v n xs) (h' : w.ownsRow B' e' 1 v' n' xs') (he : e ≠ e') : v.ownBlock = none ∨ v.ownBlock ≠ v'.ownBlock := by
  rcases h.2 with ⟨rfl, _⟩ | ⟨g, cap, cur, rfl, _, hg, _⟩
  · exact .inl rfl
  · right
    rcases h'.2 with ⟨rfl, _⟩ | ⟨g', cap', cur', rfl, _, hg', _⟩
    · simp [Value.ownBlock]
    · intro hc
      have : g = g' := by simpa [Value.ownBlock] using hc
      subst this
      rw [hg] at hg'
      injection hg' with hx
      injection hx with _ h2 _
      exact he h2
/-- a part that lies apart from a block -/
def Part.off (p : Part) (row : Option Nat) : Prop := p.zs = [] ∨ ∀ x, p.a = some x → some x.block ≠ row
theorem Part.at.grown {w w' : World} {row : Option Nat} {p : Part} (h : p.at w) (hg : w.grownBy w' row) (ho : p.off row) : p.at w' := by
  refine ⟨⟨h.1.1, h.1.2.1, ?_⟩, h.2.1, h.2.2⟩
  rcases h.1.2.2 with q | ⟨b, o, hx, hb, hr⟩
  · exact .inl q
  · rcases ho with q | ho
    · exact .inl q
    · exact .inr ⟨b, o, hx, Nat.lt_of_lt_of_le hb hg.size, fun j u hu => hg.cell (hr j u hu) (ho ⟨b, o, none⟩ hx)⟩
theorem Part.at.lt {w : World} {p : Part} (h : p.at w) : p.zs = [] ∨ ∀ x, p.a = some x → x.block < w.heap.size := by
  rcases h.1.2.2 with q | ⟨b, o, hx, hb, _⟩
  · exact .inl q
  · exact .inr fun x hx' => by rw [hx] at hx'; cases hx'; exact hb
theorem Part.off_fresh {w : World} {p : Part} (h : p.at w) {row : Option Nat} (hr : ∀ g, row = some g → w.heap.size ≤ g) : p.off row := by
  rcases h.lt with q | q
  · exact .inl q
  · exact .inr fun x hx hc => by have := q x hx; have := hr _ hc.symm; omega
theorem Part.off_new {p : Part} {row row' : Option Nat} {N : Nat} {w : World} (h : p.at w) (hw : w.heap.size ≤ N) (ho : p.off row) (hr : ∀ g, row' = some g → row = some g ∨ g = N) : p.off row' := by
  rcases ho with q | ho
  · exact .inl q
  · rcases h.lt with q | q
    · exact .inl q
    · refine .inr fun x hx hc => ?_
      rcases hr _ hc.symm with e | e
      · exact ho x hx e.symm
      · have := q x hx; omega
/-- between two rounds: all bytes so far, and the copies -/
structure SumsAt (w : World) (d : List Int) (ps : List Part) (k : Nat) (v1 v2 : Value) (qs : List Part) (W : World) : Prop where
  bel : Below w.heap.size w W
  box : W.rangeAt w.heap.size 0 (v8 d)
  own1 : W.ownsRow (w.heap.size + 1) 5 1 v1 (cat (ps.take k)).length (v8 (cat (ps.take k)))
  own2 : W.ownsRow (w.heap.size + 1) 27 1 v2 k (qs.map Part.val)
  len : qs.length = k
  same : qs.map Part.zs = (ps.take k).map Part.zs
  ats : ∀ q ∈ qs, q.at W
  off1 : ∀ q ∈ qs, q.off v1.ownBlock
  off2 : ∀ q ∈ qs, q.off v2.ownBlock
theorem cat_same {ps qs : List Part} (h : qs.map Part.zs = ps.map Part.zs) : cat qs = cat ps := by
  unfold cat
  rw [List.flatMap_def, List.flatMap_def]
  have e : ∀ l : List Part, List.map (fun p => p.zs) l = l.map Part.zs := fun _ => rfl
  first | rw [h] | rw [e, e, h] | simp [h]
theorem cat_ok {w : World} {ps : List Part} (h : ∀ p ∈ ps, p.at w) : ∀ z ∈ cat ps, 0 ≤ z ∧ z < 256 := by
  intro z hz
  obtain ⟨p, hp, hz⟩ := List.mem_flatMap.1 hz
  exact (h p hp).1.2.1 z hz
end Go.Proofs.YtkadfmbpajbkiaaDoor
