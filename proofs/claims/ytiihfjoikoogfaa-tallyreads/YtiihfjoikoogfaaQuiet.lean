/- A region that draws its order and holds calls that make memory of their own: one walk in the order of the text serves every order, where each operation yields one value in every world that is as the first one was below its size. -/
import Derived.WalkKit
import Derived.BigQuiet
namespace Go.Proofs.Ytiihfjoikoogfaa
open Go Go.RowKit
/-- a world behind w: nothing that was there has turned -/
structure After (w : World) where
  val : World
  ok : Below w.heap.size w val
theorem After.some (w : World) : Nonempty (After w) := ⟨⟨w, Below.refl _ _⟩⟩
theorem wp_region_after {P : Program} {id : Nat} {Q : Exit → Act → World → Prop} {a : Act} {w : World} {l : List Oper} (hm : P.follows .mixedOrders = true) (hB : Region.lexB .any l.toArray = true)
    (h : wpQuiet P l.toArray (fun w' => ∃ u : After w, w' = u.val) (fun a' => ∀ w', (∃ u : After w, w' = u.val) → Q .normal a' w') l a) : (Code.region id l.toArray true).wp P Q a w :=
  wp_region_quiet (C := fun w' => ∃ u : After w, w' = u.val) hm hB ⟨⟨w.drew, (Below.refl _ _).drew⟩, rfl⟩ (by simpa using h)
/-- a contract that makes memory of its own alone, met in such a world -/
theorem after_call {P : Program} {f : FuncId} {args : Array Value} {w : World} {u : After w} {v : Value}
    (h : Calls P f args u.val fun e w' => e = .returned v ∧ Below u.val.heap.size u.val w') : Calls P f args u.val fun e w'' => e = .returned v ∧ ∃ u' : After w, w'' = u'.val :=
  h.mono fun _ w'' ⟨he, hb⟩ => ⟨he, ⟨w'', u.ok.trans (hb.mono u.ok.size)⟩, rfl⟩
/-- .. one that leaves the world as it is -/
theorem after_same {P : Program} {f : FuncId} {args : Array Value} {w : World} {u : After w} {v : Value}
    (h : Calls P f args u.val fun e w' => e = .returned v ∧ w' = u.val) : Calls P f args u.val fun e w'' => e = .returned v ∧ ∃ u' : After w, w'' = u'.val :=
  h.mono fun _ _ ⟨he, hb⟩ => ⟨he, u, hb⟩
end Go.Proofs.Ytiihfjoikoogfaa
