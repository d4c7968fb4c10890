/-
  DERIVED. GIVEN WITH THE SEED: THE CARDS: each row of YtbfhpgneaklgoaaDoorRows.lean that lists a variable, with what it lists TIED to the program's text (the seventh form; the later family's looks); each row that meets fmt, with fmt's text TOLD by the authors' own Lean function (tested against real Go, not proved from fmt's source: count such statements apart). THE CARD IS WHAT COUNTS. Prove the row's statement (the work); the ties are given (YtbfhpgneaklgoaaDoorTie.lean); close each card by the builder's one call (the guide's Derived/Test/ToyasCard.lean, 'card_holds'). Laid BY PROGRAM, IN A SANDBOX (cutbox-door.mjs). By AI agents, Wed Nov 11 2026. No macro, syntax, notation, axiom, sorry.
-/
import Derived.Test.YtbfhpgneaklgoaaDoorRows
import GoSem.ClaimSeven
namespace Go.Proofs.YtbfhpgneaklgoaaDoor
namespace Rows

/-- THE TIED CARD OF 'raddlelaw05.QuorumChecks'. -/
def quorumChecksCard : Claim7 := { stood := { row := quorumChecksRow, standIns := [], harness := (true, "985cf6356824b21b1c67a1f31d600c68845125c906223d7769d3dccfc3ee5910"), looks := false }, kinds := [], alts := [], laidByText := true, laidKinds := [.data, .data], laidTests := true, laidLooks := .later }
def QuorumChecksCardSaid : Prop := Claim7.holds Tryd.pinned (.plain (OpenSpec.ofChange quorumChecksSpec)) quorumChecksCard

/-- THE TIED CARD OF 'raddlelaw05.QuorumGathers'. -/
def quorumGathersCard : Claim7 := { stood := { row := quorumGathersRow, standIns := [], harness := (true, "985cf6356824b21b1c67a1f31d600c68845125c906223d7769d3dccfc3ee5910"), looks := false }, kinds := [], alts := [], laidByText := true, laidKinds := [.data, .data], laidTests := true, laidLooks := .later }
def QuorumGathersCardSaid : Prop := Claim7.holds Tryd.pinned (.plain (OpenSpec.ofChange quorumGathersSpec)) quorumGathersCard

/-- THE SECOND FORM's CARD OF 'raddlelaw05.QuorumChecks'. -/
def quorumChecksUptoCard : Claim7 := { stood := { row := quorumChecksUptoRow, standIns := [], harness := (true, "985cf6356824b21b1c67a1f31d600c68845125c906223d7769d3dccfc3ee5910"), looks := false }, kinds := [], alts := [], laidByText := true, laidKinds := [.data, .data], laidTests := true, laidLooks := .later }
def QuorumChecksUptoCardSaid : Prop := Claim7.holds Tryd.pinned (.plain (OpenSpec.upto quorumChecksSpec)) quorumChecksUptoCard

/-- THE SECOND FORM's CARD OF 'raddlelaw05.QuorumGathers'. -/
def quorumGathersUptoCard : Claim7 := { stood := { row := quorumGathersUptoRow, standIns := [], harness := (true, "985cf6356824b21b1c67a1f31d600c68845125c906223d7769d3dccfc3ee5910"), looks := false }, kinds := [], alts := [], laidByText := true, laidKinds := [.data, .data], laidTests := true, laidLooks := .later }
def QuorumGathersUptoCardSaid : Prop := Claim7.holds Tryd.pinned (.plain (OpenSpec.upto quorumGathersSpec)) quorumGathersUptoCard
end Rows
end Go.Proofs.YtbfhpgneaklgoaaDoor
