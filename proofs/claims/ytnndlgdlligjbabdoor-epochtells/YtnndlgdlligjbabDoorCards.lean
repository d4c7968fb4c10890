/-
  DERIVED. GIVEN WITH THE SEED: THE CARDS: each row of YtnndlgdlligjbabDoorRows.lean that lists a variable, with what it lists TIED to the program's text (the seventh form; the later family's looks); each row that meets fmt, with fmt's text TOLD by the authors' own Lean function (tested against real Go, not proved from fmt's source: count such statements apart). THE CARD IS WHAT COUNTS. Prove the row's statement (the work); the ties are given (YtnndlgdlligjbabDoorTie.lean); close each card by the builder's one call (the guide's Derived/Test/ToyasCard.lean, 'card_holds'). Laid BY PROGRAM, IN A SANDBOX (cutbox-door.mjs). By AI agents, Wed Nov 11 2026. No macro, syntax, notation, axiom, sorry.
-/
import Derived.Test.YtnndlgdlligjbabDoorRows
import GoSem.ClaimSeven
namespace Go.Proofs.YtnndlgdlligjbabDoor
namespace Rows

/-- THE TIED CARD OF 'raddlelaw12.EpochTells'. -/
def epochTellsCard : Claim7 := { stood := { row := epochTellsRow, standIns := [], harness := (true, "7ecd172e4a3a9960aac8fbbd3fdb1042380eb5820ddccd8d9b2127fb481d644c"), looks := false }, kinds := [], alts := [], laidByText := true, laidKinds := [.data, .data], laidTests := true, laidLooks := .later }
def EpochTellsCardSaid : Prop := Claim7.holds Tryd.pinned (.plain (OpenSpec.ofChange epochTellsSpec)) epochTellsCard

/-- THE TIED CARD OF 'raddlelaw12.EpochBuckets'. -/
def epochBucketsCard : Claim7 := { stood := { row := epochBucketsRow, standIns := [], harness := (true, "7ecd172e4a3a9960aac8fbbd3fdb1042380eb5820ddccd8d9b2127fb481d644c"), looks := false }, kinds := [], alts := [], laidByText := true, laidKinds := [.data, .data], laidTests := true, laidLooks := .later }
def EpochBucketsCardSaid : Prop := Claim7.holds Tryd.pinned (.plain (OpenSpec.ofChange epochBucketsSpec)) epochBucketsCard

/-- THE SECOND FORM's CARD OF 'raddlelaw12.EpochTells'. -/
def epochTellsUptoCard : Claim7 := { stood := { row := epochTellsUptoRow, standIns := [], harness := (true, "7ecd172e4a3a9960aac8fbbd3fdb1042380eb5820ddccd8d9b2127fb481d644c"), looks := false }, kinds := [], alts := [], laidByText := true, laidKinds := [.data, .data], laidTests := true, laidLooks := .later }
def EpochTellsUptoCardSaid : Prop := Claim7.holds Tryd.pinned (.plain (OpenSpec.upto epochTellsSpec)) epochTellsUptoCard

/-- THE SECOND FORM's CARD OF 'raddlelaw12.EpochBuckets'. -/
def epochBucketsUptoCard : Claim7 := { stood := { row := epochBucketsUptoRow, standIns := [], harness := (true, "7ecd172e4a3a9960aac8fbbd3fdb1042380eb5820ddccd8d9b2127fb481d644c"), looks := false }, kinds := [], alts := [], laidByText := true, laidKinds := [.data, .data], laidTests := true, laidLooks := .later }
def EpochBucketsUptoCardSaid : Prop := Claim7.holds Tryd.pinned (.plain (OpenSpec.upto epochBucketsSpec)) epochBucketsUptoCard
end Rows
end Go.Proofs.YtnndlgdlligjbabDoor
