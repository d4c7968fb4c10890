/- two rows of one's own that grow side by side; one append of one number. -/
import Derived.Test.YtnndlgdlligjbabDoorLOwner
import Derived.Test.YtnndlgdlligjbabDoorAppend2
namespace Go.Proofs.YtnndlgdlligjbabDoor.Ld
open Go.RowKit Go.Shelf
def Apart (v1 v2 : Value) : Prop := ∀ g, v1.ownBlock = some g → v2.ownBlock ≠ some g
structure Rows2 (base : Nat) (v1 : Value) (l1 : List Nat) (v2 : Value) (l2 : List Nat) (W : World) : Prop where
  own1 : W.ownsRow base 3 1 v1 l1.length (vals l1)
  own2 : W.ownsRow base 3 1 v2 l2.length (vals l2)
  apart : Apart v1 v2
theorem Rows2.swap {base : Nat} {v1 v2 : Value} {l1 l2 : List Nat} {W : World} (h : Rows2 base v1 l1 v2 l2 W) : Rows2 base v2 l2 v1 l1 W := ⟨h.own2, h.own1, fun g h1 h2 => h.apart g h2 h1⟩
theorem Rows2.grow {base : Nat} {v1 v2 : Value} {l1 l2 : List Nat} {W W' : World} (h : Rows2 base v1 l1 v2 l2 W) (hb : Below W.heap.size W W') : Rows2 base v1 l1 v2 l2 W' := ⟨ownsRow_below h.own1 hb, ownsRow_below h.own2 hb, h.apart⟩
theorem Rows2.nil (base : Nat) (W : World) : Rows2 base (.slice none 0 0) [] (.slice none 0 0) [] W := ⟨World.ownsRow_nil _ _ _ _, World.ownsRow_nil _ _ _ _, fun g h => by simp [Value.ownBlock] at h⟩
theorem Rows2.first {base : Nat} {v1 v2 v' : Value} {l1 l2 : List Nat} {W w2 : World} {tmp : Obj} {x : Nat} (h : Rows2 base v1 l1 v2 l2 W) (ho : w2.ownsRow base 3 1 v' (l1.length + 1) (vals l1 ++ [.int .i64 (x : Int)])) (hg : (W.alloc tmp).grownBy w2 v1.ownBlock)
    (hn : ∀ g, v'.ownBlock = some g → v1.ownBlock = some g ∨ g = W.heap.size + 1) : Rows2 base v' (l1 ++ [x]) v2 l2 w2 := by
  refine ⟨by rw [vals_snoc]; simpa using ho, (h.own2.alloc tmp).kept hg ?_, fun g h1 h2 => ?_⟩
  · cases h2 : v2.ownBlock with
    | none => exact .inl rfl
    | some g => exact .inr (fun e => h.apart g e.symm h2)
  · rcases hn g h1 with h3 | rfl
    · exact h.apart g h3 h2
    · have := ((h.own2.alloc tmp).lt _ h2).2
      rw [World.size_alloc] at this
      omega
theorem first_below {base : Nat} {v1 : Value} {n : Nat} {xs : List Value} {w5 W w2 : World} {tmp : Obj} (ho : W.ownsRow base 3 1 v1 n xs) (hb : Below base w5 W) (hbase : base ≤ W.heap.size) (hg : (W.alloc tmp).grownBy w2 v1.ownBlock) : Below base w5 w2 :=
  (hb.alloc hbase tmp).grown hg (by simp; omega) (fun j hj => ((ho.alloc tmp).lt j hj).1)
theorem src_one (W : World) (x : Int) : Src Tryd.prog 1 24 (.slice (some ⟨W.heap.size, 0, none⟩) 1 1) 1 [.int .i64 x] (W.alloc (.cells #[.int .i64 x] 3)) :=
  Src.ofSlice _ Tryd.underlying24 ⟨W.heap.size, 0, none⟩ 1 1 _ (by simp) (cell_one_new _ _ _) (by simp [Value.oneCell'])
end Go.Proofs.YtnndlgdlligjbabDoor.Ld
