/- SlotDecides: the walk -/
import Derived.Test.YtogmkcabndgllabDoorS9a
import Derived.Test.YtogmkcabndgllabDoorS9b
namespace Go.Proofs.YtogmkcabndgllabDoor
open Go.RowKit
open Sha Tal
set_option linter.unusedVariables false
set_option maxRecDepth 100000 in
set_option maxHeartbeats 8000000 in
theorem decides_walk (s : Sl) (b o : Bat) (c : Ce) (w : World) (hG : Glob w) (hs : s.raw w) (hb : b.at w) (ho : o.at w) (hc : c.at w) : Calls Tryd.prog 4 #[.agg s.cells.toArray, .agg b.cells.toArray, .agg o.cells.toArray, .agg c.cells.toArray] w fun e w' => e = .returned (.bool true) ∧ Below w.heap.size w w' := by
  by_cases hdd : b.dig = o.dig
  · exact decides_a s b o c w hG hs hb ho hc hdd
  · exact decides_b s b o c w hG hs hb ho hc hdd
end Go.Proofs.YtogmkcabndgllabDoor
