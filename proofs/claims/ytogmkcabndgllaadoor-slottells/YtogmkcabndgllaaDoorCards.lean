/-
  DERIVED. GIVEN WITH THE SEED: THE CARDS: each row of YtogmkcabndgllaaDoorRows.lean that lists a variable, with what it lists TIED to the program's text (the seventh form; the later family's looks); each row that meets fmt, with fmt's text TOLD by the authors' own Lean function (tested against real Go, not proved from fmt's source: count such statements apart). THE CARD IS WHAT COUNTS. Prove the row's statement (the work); the ties are given (YtogmkcabndgllaaDoorTie.lean); close each card by the builder's one call (the guide's Derived/Test/ToyasCard.lean, 'card_holds'). Laid BY PROGRAM, IN A SANDBOX (cutbox-door.mjs). By AI agents, Wed Nov 11 2026. No macro, syntax, notation, axiom, sorry.
-/
import Derived.Test.YtogmkcabndgllaaDoorRows
import GoSem.ClaimSeven
namespace Go.Proofs.YtogmkcabndgllaaDoor
namespace Rows

/-- THE TIED CARD OF 'raddlelaw18.SlotTells'. -/
def slotTellsCard : Claim7 := { stood := { row := slotTellsRow, standIns := [], harness := (true, "cae3a3e66ca097fc21f2cf7f5ec6e1b5e683ba9649369e34817f6c8bcfcd9cd3"), looks := false }, kinds := [], alts := [], laidByText := true, laidKinds := [.data, .data], laidTests := true, laidLooks := .later }
def SlotTellsCardSaid : Prop := Claim7.holds Tryd.pinned (.plain (OpenSpec.ofChange slotTellsSpec)) slotTellsCard

/-- THE TIED CARD OF 'raddlelaw18.SlotOnce'. -/
def slotOnceCard : Claim7 := { stood := { row := slotOnceRow, standIns := [], harness := (true, "cae3a3e66ca097fc21f2cf7f5ec6e1b5e683ba9649369e34817f6c8bcfcd9cd3"), looks := false }, kinds := [], alts := [], laidByText := true, laidKinds := [.data, .data], laidTests := true, laidLooks := .later }
def SlotOnceCardSaid : Prop := Claim7.holds Tryd.pinned (.plain (OpenSpec.ofChange slotOnceSpec)) slotOnceCard

/-- THE SECOND FORM's CARD OF 'raddlelaw18.SlotTells'. -/
def slotTellsUptoCard : Claim7 := { stood := { row := slotTellsUptoRow, standIns := [], harness := (true, "cae3a3e66ca097fc21f2cf7f5ec6e1b5e683ba9649369e34817f6c8bcfcd9cd3"), looks := false }, kinds := [], alts := [], laidByText := true, laidKinds := [.data, .data], laidTests := true, laidLooks := .later }
def SlotTellsUptoCardSaid : Prop := Claim7.holds Tryd.pinned (.plain (OpenSpec.upto slotTellsSpec)) slotTellsUptoCard

/-- THE SECOND FORM's CARD OF 'raddlelaw18.SlotOnce'. -/
def slotOnceUptoCard : Claim7 := { stood := { row := slotOnceUptoRow, standIns := [], harness := (true, "cae3a3e66ca097fc21f2cf7f5ec6e1b5e683ba9649369e34817f6c8bcfcd9cd3"), looks := false }, kinds := [], alts := [], laidByText := true, laidKinds := [.data, .data], laidTests := true, laidLooks := .later }
def SlotOnceUptoCardSaid : Prop := Claim7.holds Tryd.pinned (.plain (OpenSpec.upto slotOnceSpec)) slotOnceUptoCard
end Rows
end Go.Proofs.YtogmkcabndgllaaDoor
