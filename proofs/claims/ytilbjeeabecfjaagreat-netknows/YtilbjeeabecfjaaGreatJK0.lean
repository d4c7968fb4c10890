/- one name for the rules by which a row of slots is spelt out -/
import Derived.WalkKit
namespace Go.Proofs.YtilbjeeabecfjaaGreat
open Go Go.RowKit
theorem nz : (∀ (a : Act) (i : Nat) (v : Value), a.put (some i) v = ⟨a.tmps.setIfInBounds i v, a.defers⟩) ∧ (∀ (a : Act) (v : Value), a.put none v = a) ∧ (∀ (l : List Value) (i : Nat) (v : Value), l.toArray.setIfInBounds i v = (l.set i v).toArray) ∧ (∀ (a b : Value) (l : List Value), (a :: l).set 0 b = b :: l) ∧ (∀ (a b : Value) (n : Nat) (l : List Value), (a :: l).set (n + 1) b = a :: l.set n b) :=
  ⟨fun _ _ _ => rfl, fun _ _ => rfl, fun l i v => List.setIfInBounds_toArray l i v, fun _ _ _ => rfl, fun _ _ _ _ => rfl⟩
end Go.Proofs.YtilbjeeabecfjaaGreat
