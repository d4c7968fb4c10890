/- the document's List, Penalize: contracts. -/
import Derived.Test.YtnndlgdlligjbabDoorLPen
namespace Go.Proofs.YtnndlgdlligjbabDoor.Ld
open Go.RowKit Go.Shelf
theorem freeU_yes {zs : List Int} {E : Int} {k : Nat} (h : penI zs k ≤ E) : freeU zs E (k + 1) = freeU zs E k ++ [k] := filter_yes _ _ (decide_eq_true h)
theorem freeU_no {zs : List Int} {E : Int} {k : Nat} (h : ¬ penI zs k ≤ E) : freeU zs E (k + 1) = freeU zs E k := filter_no _ _ (decide_eq_false h)
end Go.Proofs.YtnndlgdlligjbabDoor.Ld
