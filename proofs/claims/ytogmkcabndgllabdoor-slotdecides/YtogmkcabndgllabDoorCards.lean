/-
  DERIVED. GIVEN WITH THE SEED: THE CARDS: each row of YtogmkcabndgllabDoorRows.lean that lists a variable, with what it lists TIED to the program's text (the seventh form; the later family's looks); each row that meets fmt, with fmt's text TOLD by the authors' own Lean function (tested against real Go, not proved from fmt's source: count such statements apart). THE CARD IS WHAT COUNTS. Prove the row's statement (the work); the ties are given (YtogmkcabndgllabDoorTie.lean); close each card by the builder's one call (the guide's Derived/Test/ToyasCard.lean, 'card_holds'). Laid BY PROGRAM, IN A SANDBOX (cutbox-door.mjs). By AI agents, Wed Nov 11 2026. No macro, syntax, notation, axiom, sorry.
-/
import Derived.Test.YtogmkcabndgllabDoorRows
import GoSem.ClaimSeven
namespace Go.Proofs.YtogmkcabndgllabDoor
namespace Rows

/-- THE TIED CARD OF 'raddlelaw18.SlotHolds'. -/
def slotHoldsCard : Claim7 := { stood := { row := slotHoldsRow, standIns := [], harness := (true, "d3e125b1abc8729fbf51d93ba0b81538ec258c0eb713c9bc7f5e28a8202c005e"), looks := false }, kinds := [], alts := [], laidByText := true, laidKinds := [.data, .data], laidTests := true, laidLooks := .later }
def SlotHoldsCardSaid : Prop := Claim7.holds Tryd.pinned (.plain (OpenSpec.ofChange slotHoldsSpec)) slotHoldsCard

/-- THE TIED CARD OF 'raddlelaw18.SlotDecides'. -/
def slotDecidesCard : Claim7 := { stood := { row := slotDecidesRow, standIns := [], harness := (true, "d3e125b1abc8729fbf51d93ba0b81538ec258c0eb713c9bc7f5e28a8202c005e"), looks := false }, kinds := [], alts := [], laidByText := true, laidKinds := [.data, .data], laidTests := true, laidLooks := .later }
def SlotDecidesCardSaid : Prop := Claim7.holds Tryd.pinned (.plain (OpenSpec.ofChange slotDecidesSpec)) slotDecidesCard

/-- THE SECOND FORM's CARD OF 'raddlelaw18.SlotHolds'. -/
def slotHoldsUptoCard : Claim7 := { stood := { row := slotHoldsUptoRow, standIns := [], harness := (true, "d3e125b1abc8729fbf51d93ba0b81538ec258c0eb713c9bc7f5e28a8202c005e"), looks := false }, kinds := [], alts := [], laidByText := true, laidKinds := [.data, .data], laidTests := true, laidLooks := .later }
def SlotHoldsUptoCardSaid : Prop := Claim7.holds Tryd.pinned (.plain (OpenSpec.upto slotHoldsSpec)) slotHoldsUptoCard

/-- THE SECOND FORM's CARD OF 'raddlelaw18.SlotDecides'. -/
def slotDecidesUptoCard : Claim7 := { stood := { row := slotDecidesUptoRow, standIns := [], harness := (true, "d3e125b1abc8729fbf51d93ba0b81538ec258c0eb713c9bc7f5e28a8202c005e"), looks := false }, kinds := [], alts := [], laidByText := true, laidKinds := [.data, .data], laidTests := true, laidLooks := .later }
def SlotDecidesUptoCardSaid : Prop := Claim7.holds Tryd.pinned (.plain (OpenSpec.upto slotDecidesSpec)) slotDecidesUptoCard
end Rows
end Go.Proofs.YtogmkcabndgllabDoor
