/- the law of sums: what a round does to the two rows -/
import Derived.Test.YtkadfmbpajbkiaaDoorSumsA
namespace Go.Proofs.YtkadfmbpajbkiaaDoor
open Go.RowKit
open Sha
theorem own_gb {w w' : World} {B : Nat} {e : TypeId} {v : Value} {n : Nat} {xs : List Value} {row : Option Nat} (h : w.ownsRow B e 1 v n xs) (hg : w.grownBy w' row) (hr : v.ownBlock = none ∨ v.ownBlock ≠ row) : w'.ownsRow B e 1 v n xs := by
  refine ⟨h.1, ?_⟩
  rcases h.2 with q | ⟨g, cap, cur, rfl, hb, hc, r⟩
  · exact .inl q
  · refine .inr ⟨g, cap, cur, rfl, hb, ?_, r⟩
    rw [hg.block g (by
      rcases Nat.lt_or_ge g w.heap.size with h | h
      · exact h
      · rw [Array.getElem?_eq_none h] at hc; cases hc) (by
      rcases hr with hr | hr
      · simp [Value.ownBlock] at hr
      · exact hr)]
    exact hc
theorem own_lt {w : World} {B : Nat} {e : TypeId} {v : Value} {n : Nat} {xs : List Value} (h : w.ownsRow B e 1 v n xs) : ∀ g, v.ownBlock = some g → g < w.heap.size := by
  intro g hg
  rcases own_range h with ⟨rfl, _⟩ | ⟨g', cap, rfl, _, hl, _⟩
  · simp [Value.ownBlock] at hg
  · have : g' = g := by simpa [Value.ownBlock] using hg
    omega
theorem range_gb1 {w w' : World} {row : Option Nat} {b : Nat} {xs : List Value} (h : w.rangeAt b 0 xs) (hg : w.grownBy w' row) (hr : ∀ g, row = some g → b < g) : w'.rangeAt b 0 xs :=
  fun j u hu => hg.cell (h j u hu) (fun hc => by have := hr _ hc.symm; exact Nat.lt_irrefl _ this)
structure Two (w : World) (d : List Int) (v1 : Value) (zs : List Int) (v2 : Value) (qs : List Part) (W : World) : Prop where
  bel : Below w.heap.size w W
  big : w.heap.size < W.heap.size
  box : W.rangeAt w.heap.size 0 (v8 d)
  own1 : W.ownsRow (w.heap.size + 1) 5 1 v1 zs.length (v8 zs)
  own2 : W.ownsRow (w.heap.size + 1) 27 1 v2 qs.length (qs.map Part.val)
  ats : ∀ q ∈ qs, q.at W
  off1 : ∀ q ∈ qs, q.off v1.ownBlock
  off2 : ∀ q ∈ qs, q.off v2.ownBlock
theorem Two.first {w : World} {d : List Int} {v1 : Value} {zs : List Int} {v2 : Value} {qs : List Part} {W : World} (h : Two w d v1 zs v2 qs W) {W' : World} {v1' : Value} {zs' : List Int} (hg : W.grownBy W' v1.ownBlock)
    (ho : W'.ownsRow (w.heap.size + 1) 5 1 v1' zs'.length (v8 zs')) (hn : ∀ g, v1'.ownBlock = some g → v1.ownBlock = some g ∨ g = W.heap.size) : Two w d v1' zs' v2 qs W' where
  bel := h.bel.grown hg h.bel.size (fun g hg => by have := own_low h.own1 g hg; omega)
  big := Nat.lt_of_lt_of_le h.big hg.size
  box := range_gb1 h.box hg (fun g hg => by have := own_low h.own1 g hg; omega)
  own1 := ho
  own2 := own_gb h.own2 hg (own_apart h.own2 h.own1 (by decide))
  ats := fun q hq => (h.ats q hq).grown hg (h.off1 q hq)
  off1 := fun q hq => Part.off_new (h.ats q hq) (Nat.le_refl _) (h.off1 q hq) hn
  off2 := h.off2
theorem Two.grow {w : World} {d : List Int} {v1 : Value} {zs : List Int} {v2 : Value} {qs : List Part} {W : World} (h : Two w d v1 zs v2 qs W) {W' : World} (hb : Below W.heap.size W W') : Two w d v1 zs v2 qs W' where
  bel := h.bel.trans (hb.mono h.bel.size)
  big := Nat.lt_of_lt_of_le h.big hb.size
  box := range_below h.box hb h.big
  own1 := owns_below h.own1 hb
  own2 := owns_below h.own2 hb
  ats := fun q hq => (h.ats q hq).below hb
  off1 := h.off1
  off2 := h.off2
theorem Two.second {w : World} {d : List Int} {v1 : Value} {zs : List Int} {v2 : Value} {qs : List Part} {W : World} (h : Two w d v1 zs v2 qs W) {W' : World} {v2' : Value} {q : Part} (hq : q.at W) (hq1 : q.off v1.ownBlock) (hq2 : q.off v2.ownBlock) (hg : W.grownBy W' v2.ownBlock)
    (ho : W'.ownsRow (w.heap.size + 1) 27 1 v2' (qs.length + 1) (qs.map Part.val ++ [q.val])) (hn : ∀ g, v2'.ownBlock = some g → v2.ownBlock = some g ∨ g = W.heap.size) : Two w d v1 zs v2' (qs ++ [q]) W' where
  bel := h.bel.grown hg h.bel.size (fun g hg => by have := own_low h.own2 g hg; omega)
  big := Nat.lt_of_lt_of_le h.big hg.size
  box := range_gb1 h.box hg (fun g hg => by have := own_low h.own2 g hg; omega)
  own1 := own_gb h.own1 hg (own_apart h.own1 h.own2 (by decide))
  own2 := by rw [List.length_append, List.map_append]; exact ho
  ats := by
    intro p hp
    rcases List.mem_append.1 hp with hp | hp
    · exact (h.ats p hp).grown hg (h.off2 p hp)
    · rw [List.mem_singleton.1 hp]; exact hq.grown hg hq2
  off1 := by
    intro p hp
    rcases List.mem_append.1 hp with hp | hp
    · exact h.off1 p hp
    · rw [List.mem_singleton.1 hp]; exact hq1
  off2 := by
    intro p hp
    rcases List.mem_append.1 hp with hp | hp
    · exact Part.off_new (h.ats p hp) (Nat.le_refl _) (h.off2 p hp) hn
    · rw [List.mem_singleton.1 hp]; exact Part.off_new hq (Nat.le_refl _) hq2 hn
/-- a copy of one's own, made behind W -/
theorem copy_off {W W' : World} {a : Option Addr} {c n : Nat} {qz : List Int} {xs : List Value} (h : W'.ownsRow W.heap.size 5 1 (.slice a n c) n xs) {row : Option Nat} (hr : ∀ g, row = some g → g < W.heap.size) : (⟨a, c, qz⟩ : Part).off row := by
  refine .inr fun x hx hc => ?_
  have hx' : a = some x := hx
  have := own_low h x.block (by rw [hx']; rfl)
  have := hr _ hc.symm
  omega
end Go.Proofs.YtkadfmbpajbkiaaDoor
