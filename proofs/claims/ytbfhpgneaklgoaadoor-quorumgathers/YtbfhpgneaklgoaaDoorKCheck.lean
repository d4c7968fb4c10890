/- seal.Keys: Check: the contract -/
import Derived.Test.YtbfhpgneaklgoaaDoorKeys
namespace Go.Proofs.YtbfhpgneaklgoaaDoor
open Go.RowKit
open Sha Tal
/-- a load behind a guard that says yes -/
theorem wpList_load_g {P : Program} {ops : Array Oper} {rest : List Oper} {op : Oper} {a : Act} {w : World} {Q : Exit → Act → World → Prop} (hgd : Region.wanted op (yielded ops a.tmps) = true) (ty : TypeId) (x : Operand) (ho : op.op = .load ty x)
    (b o : Nat) (hx : a.eval x = .pointer (some ⟨b, o, none⟩)) (cs : List Value) (d : TypeDesc) (hc : w.rangeAt b o cs)
    (hu : P.underlying ty = some d) (hd : d.isRow = true) (hi : (P.info? ty).map (·.size) = some cs.length)
    (h : wpList P ops Q rest (a.put op.dst (.agg cs.toArray)) w) : wpList P ops Q (op :: rest) a w :=
  wpList_step fun _ hK => by rw [if_pos hgd]; exact wp_load_mid ty x ho b o hx cs d hc hu hd hi (hK _ _ h)
/-- what Check answers -/
def checkOf (r : List Int × Int) (t : List Int) : Bool := (r.2 == 0) && (r.1 == t)
end Go.Proofs.YtbfhpgneaklgoaaDoor
