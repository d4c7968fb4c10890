/-
  DERIVED. GIVEN WITH THE SEED: THE CARDS: each row of YtinpbnkmpplkiaaDoorRows.lean that lists a variable, with what it lists TIED to the program's text (the seventh form; the later family's looks); each row that meets fmt, with fmt's text TOLD by the authors' own Lean function (tested against real Go, not proved from fmt's source: count such statements apart). THE CARD IS WHAT COUNTS. Prove the row's statement (the work); the ties are given (YtinpbnkmpplkiaaDoorTie.lean); close each card by the builder's one call (the guide's Derived/Test/ToyasCard.lean, 'card_holds'). Laid BY PROGRAM, IN A SANDBOX (cutbox-door.mjs). By AI agents, Wed Nov 11 2026. No macro, syntax, notation, axiom, sorry.
-/
import Derived.Test.YtinpbnkmpplkiaaDoorRows
import GoSem.ClaimSeven
namespace Go.Proofs.YtinpbnkmpplkiaaDoor
namespace Rows

/-- THE TIED CARD OF 'raddlelaw07.BatchChecks'. -/
def batchChecksCard : Claim7 := { stood := { row := batchChecksRow, standIns := [], harness := (true, "61a8ae4d0ddc459a7597b5b9a09190dd4627ce038268ad30758d36005a2cb3ab"), looks := false }, kinds := [], alts := [], laidByText := true, laidKinds := [.data, .data], laidTests := true, laidLooks := .later }
def BatchChecksCardSaid : Prop := Claim7.holds Tryd.pinned (.plain (OpenSpec.ofChange batchChecksSpec)) batchChecksCard

/-- THE TIED CARD OF 'raddlelaw07.BatchMeets'. -/
def batchMeetsCard : Claim7 := { stood := { row := batchMeetsRow, standIns := [], harness := (true, "61a8ae4d0ddc459a7597b5b9a09190dd4627ce038268ad30758d36005a2cb3ab"), looks := false }, kinds := [], alts := [], laidByText := true, laidKinds := [.data, .data], laidTests := true, laidLooks := .later }
def BatchMeetsCardSaid : Prop := Claim7.holds Tryd.pinned (.plain (OpenSpec.ofChange batchMeetsSpec)) batchMeetsCard

/-- THE TIED CARD OF 'raddlelaw07.BatchReads'. -/
def batchReadsCard : Claim7 := { stood := { row := batchReadsRow, standIns := [], harness := (true, "61a8ae4d0ddc459a7597b5b9a09190dd4627ce038268ad30758d36005a2cb3ab"), looks := false }, kinds := [], alts := [], laidByText := true, laidKinds := [.data, .data], laidTests := true, laidLooks := .later }
def BatchReadsCardSaid : Prop := Claim7.holds Tryd.pinned (.plain (OpenSpec.ofChange batchReadsSpec)) batchReadsCard

/-- THE TIED CARD OF 'raddlelaw07.BatchBack'. -/
def batchBackCard : Claim7 := { stood := { row := batchBackRow, standIns := [], harness := (true, "61a8ae4d0ddc459a7597b5b9a09190dd4627ce038268ad30758d36005a2cb3ab"), looks := false }, kinds := [], alts := [], laidByText := true, laidKinds := [.data, .data], laidTests := true, laidLooks := .later }
def BatchBackCardSaid : Prop := Claim7.holds Tryd.pinned (.plain (OpenSpec.ofChange batchBackSpec)) batchBackCard

/-- THE TIED CARD OF 'raddlelaw07.BatchApart'. -/
def batchApartCard : Claim7 := { stood := { row := batchApartRow, standIns := [], harness := (true, "61a8ae4d0ddc459a7597b5b9a09190dd4627ce038268ad30758d36005a2cb3ab"), looks := false }, kinds := [], alts := [], laidByText := true, laidKinds := [.data, .data], laidTests := true, laidLooks := .later }
def BatchApartCardSaid : Prop := Claim7.holds Tryd.pinned (.plain (OpenSpec.ofChange batchApartSpec)) batchApartCard

/-- THE TIED CARD OF 'raddlelaw07.BatchOnce'. -/
def batchOnceCard : Claim7 := { stood := { row := batchOnceRow, standIns := [], harness := (true, "61a8ae4d0ddc459a7597b5b9a09190dd4627ce038268ad30758d36005a2cb3ab"), looks := false }, kinds := [], alts := [], laidByText := true, laidKinds := [.data, .data], laidTests := true, laidLooks := .later }
def BatchOnceCardSaid : Prop := Claim7.holds Tryd.pinned (.plain (OpenSpec.ofChange batchOnceSpec)) batchOnceCard

/-- THE SECOND FORM's CARD OF 'raddlelaw07.BatchChecks'. -/
def batchChecksUptoCard : Claim7 := { stood := { row := batchChecksUptoRow, standIns := [], harness := (true, "61a8ae4d0ddc459a7597b5b9a09190dd4627ce038268ad30758d36005a2cb3ab"), looks := false }, kinds := [], alts := [], laidByText := true, laidKinds := [.data, .data], laidTests := true, laidLooks := .later }
def BatchChecksUptoCardSaid : Prop := Claim7.holds Tryd.pinned (.plain (OpenSpec.upto batchChecksSpec)) batchChecksUptoCard

/-- THE SECOND FORM's CARD OF 'raddlelaw07.BatchMeets'. -/
def batchMeetsUptoCard : Claim7 := { stood := { row := batchMeetsUptoRow, standIns := [], harness := (true, "61a8ae4d0ddc459a7597b5b9a09190dd4627ce038268ad30758d36005a2cb3ab"), looks := false }, kinds := [], alts := [], laidByText := true, laidKinds := [.data, .data], laidTests := true, laidLooks := .later }
def BatchMeetsUptoCardSaid : Prop := Claim7.holds Tryd.pinned (.plain (OpenSpec.upto batchMeetsSpec)) batchMeetsUptoCard

/-- THE SECOND FORM's CARD OF 'raddlelaw07.BatchReads'. -/
def batchReadsUptoCard : Claim7 := { stood := { row := batchReadsUptoRow, standIns := [], harness := (true, "61a8ae4d0ddc459a7597b5b9a09190dd4627ce038268ad30758d36005a2cb3ab"), looks := false }, kinds := [], alts := [], laidByText := true, laidKinds := [.data, .data], laidTests := true, laidLooks := .later }
def BatchReadsUptoCardSaid : Prop := Claim7.holds Tryd.pinned (.plain (OpenSpec.upto batchReadsSpec)) batchReadsUptoCard

/-- THE SECOND FORM's CARD OF 'raddlelaw07.BatchBack'. -/
def batchBackUptoCard : Claim7 := { stood := { row := batchBackUptoRow, standIns := [], harness := (true, "61a8ae4d0ddc459a7597b5b9a09190dd4627ce038268ad30758d36005a2cb3ab"), looks := false }, kinds := [], alts := [], laidByText := true, laidKinds := [.data, .data], laidTests := true, laidLooks := .later }
def BatchBackUptoCardSaid : Prop := Claim7.holds Tryd.pinned (.plain (OpenSpec.upto batchBackSpec)) batchBackUptoCard

/-- THE SECOND FORM's CARD OF 'raddlelaw07.BatchApart'. -/
def batchApartUptoCard : Claim7 := { stood := { row := batchApartUptoRow, standIns := [], harness := (true, "61a8ae4d0ddc459a7597b5b9a09190dd4627ce038268ad30758d36005a2cb3ab"), looks := false }, kinds := [], alts := [], laidByText := true, laidKinds := [.data, .data], laidTests := true, laidLooks := .later }
def BatchApartUptoCardSaid : Prop := Claim7.holds Tryd.pinned (.plain (OpenSpec.upto batchApartSpec)) batchApartUptoCard

/-- THE SECOND FORM's CARD OF 'raddlelaw07.BatchOnce'. -/
def batchOnceUptoCard : Claim7 := { stood := { row := batchOnceUptoRow, standIns := [], harness := (true, "61a8ae4d0ddc459a7597b5b9a09190dd4627ce038268ad30758d36005a2cb3ab"), looks := false }, kinds := [], alts := [], laidByText := true, laidKinds := [.data, .data], laidTests := true, laidLooks := .later }
def BatchOnceUptoCardSaid : Prop := Claim7.holds Tryd.pinned (.plain (OpenSpec.upto batchOnceSpec)) batchOnceUptoCard
end Rows
end Go.Proofs.YtinpbnkmpplkiaaDoor
