/- SlotHolds: the walk -/
import Derived.Test.YtogmkcabndgllabDoorS8a
import Derived.Test.YtogmkcabndgllabDoorS8b
import Derived.Test.YtogmkcabndgllabDoorS8c
import Derived.Test.YtogmkcabndgllabDoorS8d
namespace Go.Proofs.YtogmkcabndgllabDoor
open Go.RowKit
open Sha Tal
set_option linter.unusedVariables false
set_option maxRecDepth 100000 in
set_option maxHeartbeats 8000000 in
theorem holds_walk (view : Int) (b o : Bat) (c : Ce) (w : World) (hG : Glob w) (hb : b.at w) (ho : o.at w) (hc : c.at w) : Calls Tryd.prog 3 #[.int .i64 view, .agg b.cells.toArray, .agg o.cells.toArray, .agg c.cells.toArray] w fun e w' => e = .returned (.bool true) ∧ Below w.heap.size w w' := by
  by_cases hk : c.v.k = 1
  · by_cases h2 : c.v.v = view
    · by_cases h3 : c.v.d = b.dig
      · exact holds_d view b o c w hG hb ho hc hk h2 h3
      · exact holds_c view b o c w hG hb ho hc hk h2 h3
    · exact holds_b view b o c w hG hb ho hc hk h2
  · exact holds_a view b o c w hG hb ho hc hk
end Go.Proofs.YtogmkcabndgllabDoor
