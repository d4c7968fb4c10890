/-
  DERIVED. GIVEN WITH THE SEED: THE CARDS: each row of YtbfhpgneaklgoabDoorRows.lean that lists a variable, with what it lists TIED to the program's text (the seventh form; the later family's looks); each row that meets fmt, with fmt's text TOLD by the authors' own Lean function (tested against real Go, not proved from fmt's source: count such statements apart). THE CARD IS WHAT COUNTS. Prove the row's statement (the work); the ties are given (YtbfhpgneaklgoabDoorTie.lean); close each card by the builder's one call (the guide's Derived/Test/ToyasCard.lean, 'card_holds'). Laid BY PROGRAM, IN A SANDBOX (cutbox-door.mjs). By AI agents, Wed Nov 11 2026. No macro, syntax, notation, axiom, sorry.
-/
import Derived.Test.YtbfhpgneaklgoabDoorRows
import GoSem.ClaimSeven
namespace Go.Proofs.YtbfhpgneaklgoabDoor
namespace Rows

/-- THE TIED CARD OF 'raddlelaw06.RequestMakes'. -/
def requestMakesCard : Claim7 := { stood := { row := requestMakesRow, standIns := [], harness := (true, "e8a17cfc549df2a61ef7115ce15364a0f8b0e7d95ae69533530c9a38e0cae92e"), looks := false }, kinds := [], alts := [], laidByText := true, laidKinds := [.data, .data], laidTests := true, laidLooks := .later }
def RequestMakesCardSaid : Prop := Claim7.holds Tryd.pinned (.plain (OpenSpec.ofChange requestMakesSpec)) requestMakesCard

/-- THE TIED CARD OF 'raddlelaw06.RequestChecks'. -/
def requestChecksCard : Claim7 := { stood := { row := requestChecksRow, standIns := [], harness := (true, "e8a17cfc549df2a61ef7115ce15364a0f8b0e7d95ae69533530c9a38e0cae92e"), looks := false }, kinds := [], alts := [], laidByText := true, laidKinds := [.data, .data], laidTests := true, laidLooks := .later }
def RequestChecksCardSaid : Prop := Claim7.holds Tryd.pinned (.plain (OpenSpec.ofChange requestChecksSpec)) requestChecksCard

/-- THE TIED CARD OF 'raddlelaw06.RequestReads'. -/
def requestReadsCard : Claim7 := { stood := { row := requestReadsRow, standIns := [], harness := (true, "e8a17cfc549df2a61ef7115ce15364a0f8b0e7d95ae69533530c9a38e0cae92e"), looks := false }, kinds := [], alts := [], laidByText := true, laidKinds := [.data, .data], laidTests := true, laidLooks := .later }
def RequestReadsCardSaid : Prop := Claim7.holds Tryd.pinned (.plain (OpenSpec.ofChange requestReadsSpec)) requestReadsCard

/-- THE TIED CARD OF 'raddlelaw06.RequestMade'. -/
def requestMadeCard : Claim7 := { stood := { row := requestMadeRow, standIns := [], harness := (true, "e8a17cfc549df2a61ef7115ce15364a0f8b0e7d95ae69533530c9a38e0cae92e"), looks := false }, kinds := [], alts := [], laidByText := true, laidKinds := [.data, .data], laidTests := true, laidLooks := .later }
def RequestMadeCardSaid : Prop := Claim7.holds Tryd.pinned (.plain (OpenSpec.ofChange requestMadeSpec)) requestMadeCard

/-- THE TIED CARD OF 'raddlelaw06.RequestBack'. -/
def requestBackCard : Claim7 := { stood := { row := requestBackRow, standIns := [], harness := (true, "e8a17cfc549df2a61ef7115ce15364a0f8b0e7d95ae69533530c9a38e0cae92e"), looks := false }, kinds := [], alts := [], laidByText := true, laidKinds := [.data, .data], laidTests := true, laidLooks := .later }
def RequestBackCardSaid : Prop := Claim7.holds Tryd.pinned (.plain (OpenSpec.ofChange requestBackSpec)) requestBackCard

/-- THE SECOND FORM's CARD OF 'raddlelaw06.RequestMakes'. -/
def requestMakesUptoCard : Claim7 := { stood := { row := requestMakesUptoRow, standIns := [], harness := (true, "e8a17cfc549df2a61ef7115ce15364a0f8b0e7d95ae69533530c9a38e0cae92e"), looks := false }, kinds := [], alts := [], laidByText := true, laidKinds := [.data, .data], laidTests := true, laidLooks := .later }
def RequestMakesUptoCardSaid : Prop := Claim7.holds Tryd.pinned (.plain (OpenSpec.upto requestMakesSpec)) requestMakesUptoCard

/-- THE SECOND FORM's CARD OF 'raddlelaw06.RequestChecks'. -/
def requestChecksUptoCard : Claim7 := { stood := { row := requestChecksUptoRow, standIns := [], harness := (true, "e8a17cfc549df2a61ef7115ce15364a0f8b0e7d95ae69533530c9a38e0cae92e"), looks := false }, kinds := [], alts := [], laidByText := true, laidKinds := [.data, .data], laidTests := true, laidLooks := .later }
def RequestChecksUptoCardSaid : Prop := Claim7.holds Tryd.pinned (.plain (OpenSpec.upto requestChecksSpec)) requestChecksUptoCard

/-- THE SECOND FORM's CARD OF 'raddlelaw06.RequestReads'. -/
def requestReadsUptoCard : Claim7 := { stood := { row := requestReadsUptoRow, standIns := [], harness := (true, "e8a17cfc549df2a61ef7115ce15364a0f8b0e7d95ae69533530c9a38e0cae92e"), looks := false }, kinds := [], alts := [], laidByText := true, laidKinds := [.data, .data], laidTests := true, laidLooks := .later }
def RequestReadsUptoCardSaid : Prop := Claim7.holds Tryd.pinned (.plain (OpenSpec.upto requestReadsSpec)) requestReadsUptoCard

/-- THE SECOND FORM's CARD OF 'raddlelaw06.RequestMade'. -/
def requestMadeUptoCard : Claim7 := { stood := { row := requestMadeUptoRow, standIns := [], harness := (true, "e8a17cfc549df2a61ef7115ce15364a0f8b0e7d95ae69533530c9a38e0cae92e"), looks := false }, kinds := [], alts := [], laidByText := true, laidKinds := [.data, .data], laidTests := true, laidLooks := .later }
def RequestMadeUptoCardSaid : Prop := Claim7.holds Tryd.pinned (.plain (OpenSpec.upto requestMadeSpec)) requestMadeUptoCard

/-- THE SECOND FORM's CARD OF 'raddlelaw06.RequestBack'. -/
def requestBackUptoCard : Claim7 := { stood := { row := requestBackUptoRow, standIns := [], harness := (true, "e8a17cfc549df2a61ef7115ce15364a0f8b0e7d95ae69533530c9a38e0cae92e"), looks := false }, kinds := [], alts := [], laidByText := true, laidKinds := [.data, .data], laidTests := true, laidLooks := .later }
def RequestBackUptoCardSaid : Prop := Claim7.holds Tryd.pinned (.plain (OpenSpec.upto requestBackSpec)) requestBackUptoCard
end Rows
end Go.Proofs.YtbfhpgneaklgoabDoor
