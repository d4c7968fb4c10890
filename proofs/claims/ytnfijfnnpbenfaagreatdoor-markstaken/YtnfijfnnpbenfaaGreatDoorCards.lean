/-
  DERIVED. GIVEN WITH THE SEED: THE CARDS: each row of YtnfijfnnpbenfaaGreatDoorRows.lean that lists a variable, with what it lists TIED to the program's text (the seventh form; the later family's looks); each row that meets fmt, with fmt's text TOLD by the authors' own Lean function (tested against real Go, not proved from fmt's source: count such statements apart). THE CARD IS WHAT COUNTS. Prove the row's statement (the work); the ties are given (YtnfijfnnpbenfaaGreatDoorTie.lean); close each card by the builder's one call (the guide's Derived/Test/ToyasCard.lean, 'card_holds'). Laid BY PROGRAM, IN A SANDBOX (cutbox-door.mjs). By AI agents, Wed Nov 11 2026. No macro, syntax, notation, axiom, sorry.
-/
import Derived.Test.YtnfijfnnpbenfaaGreatDoorRows
import GoSem.ClaimSeven
namespace Go.Proofs.YtnfijfnnpbenfaaGreatDoor
namespace Rows

/-- THE TIED CARD OF 'raddlelaw23.MarksCheck'. -/
def marksCheckCard : Claim7 := { stood := { row := marksCheckRow, standIns := [], harness := (true, "bc6c1c11db28975c3c744163b9822c57feb0aae8a6c61f6f004e6c45b9e60295"), looks := false }, kinds := [], alts := [], laidByText := true, laidKinds := [.data, .data], laidTests := true, laidLooks := .later }
def MarksCheckCardSaid : Prop := Claim7.holds Tryz.pinned (.plain (OpenSpec.ofChange marksCheckSpec)) marksCheckCard

/-- THE TIED CARD OF 'raddlelaw23.MarksTaken'. -/
def marksTakenCard : Claim7 := { stood := { row := marksTakenRow, standIns := [], harness := (true, "bc6c1c11db28975c3c744163b9822c57feb0aae8a6c61f6f004e6c45b9e60295"), looks := false }, kinds := [], alts := [], laidByText := true, laidKinds := [.data, .data], laidTests := true, laidLooks := .later }
def MarksTakenCardSaid : Prop := Claim7.holds Tryz.pinned (.plain (OpenSpec.ofChange marksTakenSpec)) marksTakenCard

/-- THE SECOND FORM's CARD OF 'raddlelaw23.MarksCheck'. -/
def marksCheckUptoCard : Claim7 := { stood := { row := marksCheckUptoRow, standIns := [], harness := (true, "bc6c1c11db28975c3c744163b9822c57feb0aae8a6c61f6f004e6c45b9e60295"), looks := false }, kinds := [], alts := [], laidByText := true, laidKinds := [.data, .data], laidTests := true, laidLooks := .later }
def MarksCheckUptoCardSaid : Prop := Claim7.holds Tryz.pinned (.plain (OpenSpec.upto marksCheckSpec)) marksCheckUptoCard

/-- THE SECOND FORM's CARD OF 'raddlelaw23.MarksTaken'. -/
def marksTakenUptoCard : Claim7 := { stood := { row := marksTakenUptoRow, standIns := [], harness := (true, "bc6c1c11db28975c3c744163b9822c57feb0aae8a6c61f6f004e6c45b9e60295"), looks := false }, kinds := [], alts := [], laidByText := true, laidKinds := [.data, .data], laidTests := true, laidLooks := .later }
def MarksTakenUptoCardSaid : Prop := Claim7.holds Tryz.pinned (.plain (OpenSpec.upto marksTakenSpec)) marksTakenUptoCard
end Rows
end Go.Proofs.YtnfijfnnpbenfaaGreatDoor
