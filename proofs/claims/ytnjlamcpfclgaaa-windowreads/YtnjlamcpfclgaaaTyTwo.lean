/- Two readers of the same bytes, side by side. -/
import Derived.Test.YtnjlamcpfclgaaaTyRefRest
namespace Go.Proofs.Ytnjlamcpfclgaaa.Ty
open Go.RowKit
open Tal
theorem hide {p : Prop} (h : p) : Hid p := h
theorem RdE.gb {w w' : World} {R : Nat} {e : Int} {r : Option Nat} (h : RdE w R e) (hg : w.grownBy w' r) (hr : some R ≠ r) : RdE w' R e :=
  h.below (hg.block R h.1 hr) hg.size
/-- a reader stays where a block beyond it turns -/
theorem St.gb {w w' : World} {R g : Nat} {rest : List Int} {e : Int} (h : St w R rest e) (hg : w.grownBy w' (some g)) (hr : R < g) : St w' R rest e := by
  refine ⟨h.1.gb hg (by intro q; injection q with q; omega), fun he => ?_⟩
  obtain ⟨a, cap, h0, hc, hm, hrow, hlt⟩ := h.2 he
  refine ⟨a, cap, (cell_block (hg.block R h.1.1 (by intro q; injection q with q; omega))).1.trans h0, hc, hm, hrow.gb hg (fun x hx => by have := hlt x hx; omega), hlt⟩
/-- the document's reader stays where a block turns that is not its own nor its bytes' -/
theorem RSt.gb {B : Nat} {w w' : World} {X g : Nat} {rest : List Int} {e : Int} (h : RSt B w X rest e) (hg : w.grownBy w' (some g)) (hr : g < B ∧ g ≠ X ∨ X < g) : RSt B w' X rest e := by
  obtain ⟨zs, p, ⟨hX, ⟨a, cap, h0, hc, hm, hrow, hlt⟩, h1, h2, f0, f1, f2, hp, hl⟩, hd⟩ := h
  have hne : some X ≠ some g := by intro q; injection q with q; omega
  have hk := fun j => @cell_block w w' X j (hg.block X hX hne)
  exact ⟨zs, p, ⟨Nat.lt_of_lt_of_le hX hg.size, ⟨a, cap, (hk 0).1.trans h0, hc, hm, hrow.gb hg (fun x hx => by have := hlt x hx; omega), hlt⟩, (hk 1).1.trans h1, (hk 2).1.trans h2, (hk 0).2.trans f0, (hk 1).2.trans f1, (hk 2).2.trans f2, hp, hl⟩, hd⟩
/-- all blocks of w but R and X lie in W as they lay -/
structure Kept (w : World) (R X : Nat) (W : World) : Prop where
  os : W.os = w.os
  tape : W.tape = w.tape
  output : W.output = w.output
  size : w.heap.size ≤ W.heap.size
  block : ∀ k, k < w.heap.size → k ≠ R → k ≠ X → W.heap[k]? = w.heap[k]?
theorem Kept.refl (w : World) (R X : Nat) : Kept w R X w := ⟨rfl, rfl, rfl, Nat.le_refl _, fun _ _ _ _ => rfl⟩
theorem Kept.gb {w W W' : World} {R X g : Nat} (h : Kept w R X W) (hg : W.grownBy W' (some g)) (hr : g = R ∨ g = X ∨ w.heap.size ≤ g) : Kept w R X W' :=
  ⟨hg.os.trans h.os, hg.tape.trans h.tape, hg.output.trans h.output, Nat.le_trans h.size hg.size, fun k hk k1 k2 => (hg.block k (Nat.lt_of_lt_of_le hk h.size) (by intro q; injection q with q; omega)).trans (h.block k hk k1 k2)⟩
theorem Kept.below {w W W' : World} {R X : Nat} (h : Kept w R X W) (hb : Below W.heap.size W W') : Kept w R X W' :=
  ⟨hb.os.trans h.os, hb.tape.trans h.tape, hb.output.trans h.output, Nat.le_trans h.size hb.size, fun k hk k1 k2 => (hb.block k (Nat.lt_of_lt_of_le hk h.size)).trans (h.block k hk k1 k2)⟩
theorem Kept.to {w0 w W : World} {R X : Nat} (h : Kept w R X W) (hb : Below w0.heap.size w0 w) (hR : w0.heap.size ≤ R) (hX : w0.heap.size ≤ X) : Below w0.heap.size w0 W :=
  ⟨h.os.trans hb.os, h.tape.trans hb.tape, h.output.trans hb.output, Nat.le_trans hb.size h.size, fun k hk => (h.block k (Nat.lt_of_lt_of_le hk hb.size) (by omega) (by omega)).trans (hb.block k hk)⟩
/-- both readers, at the same bytes with the same error -/
structure Two (B : Nat) (w : World) (R X : Nat) (W : World) (rest : List Int) (e : Int) : Prop where
  own : St W R rest e
  doc : RSt B W X rest e
  kept : Kept w R X W
theorem Two.below {B : Nat} {w W W' : World} {R X : Nat} {rest : List Int} {e : Int} (h : Two B w R X W rest e) (hb : Below W.heap.size W W') : Two B w R X W' rest e :=
  ⟨h.own.below hb, h.doc.below hb, h.kept.below hb⟩
theorem Two.gb {B : Nat} {w W W' : World} {R X g : Nat} {rest : List Int} {e : Int} (h : Two B w R X W rest e) (hg : W.grownBy W' (some g)) (h1 : R < X) (h2 : X < g) (h3 : w.heap.size ≤ g) : Two B w R X W' rest e :=
  ⟨h.own.gb hg (by omega), h.doc.gb hg (.inr h2), h.kept.gb hg (.inr (.inr h3))⟩
/-- one step of both -/
theorem Two.step {B : Nat} {w W W1 W2 : World} {R X : Nat} {rest rest' : List Int} {e e' : Int} (h : Two B w R X W rest e) (hRX : R < X) (hRB : R < B)
    (s1 : St W1 R rest' e') (g1 : W.grownBy W1 (some R)) (s2 : RSt B W1 X rest e → RSt B W2 X rest' e' ∧ W1.grownBy W2 (some X)) : Two B w R X W2 rest' e' := by
  have hd := h.doc.gb g1 (.inl ⟨hRB, by omega⟩)
  obtain ⟨d2, g2⟩ := s2 hd
  exact ⟨s1.gb g2 hRX, d2, (h.kept.gb g1 (.inl rfl)).gb g2 (.inr (.inl rfl))⟩
theorem numR_nonneg (zs : List Int) (hz : ∀ z ∈ zs, 0 ≤ z ∧ z < 256) : 0 ≤ (numR zs).1 := by
  cases zs with
  | nil => simp [numR]
  | cons k tl =>
    simp only [numR]
    split
    · simp
    · split
      · simp
      · split
        · have hb := val_bound (tl.take k.toNat) (fun z hzz => hz z (List.mem_cons_of_mem _ (List.mem_of_mem_take hzz)))
          simp only [valR]
          split
          · simp
          · exact hb.1
        · simp
theorem St.pos {w : World} {R : Nat} {rest : List Int} {e : Int} (h : St w R rest e) : 0 ≤ (numS rest e 9223372036854775807).1 := by
  unfold numS
  by_cases he : e = 0
  · rw [if_pos he]
    obtain ⟨a, cap, h0, hc, hm, hrow, hlt⟩ := h.2 he
    have := numR_nonneg rest hrow.2.1
    split
    · split
      · simp
      · exact this
    · simp
  · rw [if_neg he]; simp
end Go.Proofs.Ytnjlamcpfclgaaa.Ty
