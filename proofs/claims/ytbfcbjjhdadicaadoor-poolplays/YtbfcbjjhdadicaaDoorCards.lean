/-
  DERIVED. GIVEN WITH THE SEED: THE CARDS: each row of YtbfcbjjhdadicaaDoorRows.lean that lists a variable, with what it lists TIED to the program's text (the seventh form; the later family's looks); each row that meets fmt, with fmt's text TOLD by the authors' own Lean function (tested against real Go, not proved from fmt's source: count such statements apart). THE CARD IS WHAT COUNTS. Prove the row's statement (the work); the ties are given (YtbfcbjjhdadicaaDoorTie.lean); close each card by the builder's one call (the guide's Derived/Test/ToyasCard.lean, 'card_holds'). Laid BY PROGRAM, IN A SANDBOX (cutbox-door.mjs). By AI agents, Wed Nov 11 2026. No macro, syntax, notation, axiom, sorry.
-/
import Derived.Test.YtbfcbjjhdadicaaDoorRows
import GoSem.ClaimSeven
namespace Go.Proofs.YtbfcbjjhdadicaaDoor
namespace Rows

/-- THE TIED CARD OF 'raddlelaw10.PoolPlays'. -/
def poolPlaysCard : Claim7 := { stood := { row := poolPlaysRow, standIns := [], harness := (true, "15f8242bcfff4a6da0bd0f246fb945aa82358d4233e2f1118f44094cde8f5ec3"), looks := false }, kinds := [], alts := [], laidByText := true, laidKinds := [.data, .data], laidTests := true, laidLooks := .later }
def PoolPlaysCardSaid : Prop := Claim7.holds Tryd.pinned (.plain (OpenSpec.ofChange poolPlaysSpec)) poolPlaysCard

/-- THE TIED CARD OF 'raddlelaw10.PoolFew'. -/
def poolFewCard : Claim7 := { stood := { row := poolFewRow, standIns := [], harness := (true, "15f8242bcfff4a6da0bd0f246fb945aa82358d4233e2f1118f44094cde8f5ec3"), looks := false }, kinds := [], alts := [], laidByText := true, laidKinds := [.data, .data], laidTests := true, laidLooks := .later }
def PoolFewCardSaid : Prop := Claim7.holds Tryd.pinned (.plain (OpenSpec.ofChange poolFewSpec)) poolFewCard

/-- THE TIED CARD OF 'raddlelaw10.PoolFirst'. -/
def poolFirstCard : Claim7 := { stood := { row := poolFirstRow, standIns := [], harness := (true, "15f8242bcfff4a6da0bd0f246fb945aa82358d4233e2f1118f44094cde8f5ec3"), looks := false }, kinds := [], alts := [], laidByText := true, laidKinds := [.data, .data], laidTests := true, laidLooks := .later }
def PoolFirstCardSaid : Prop := Claim7.holds Tryd.pinned (.plain (OpenSpec.ofChange poolFirstSpec)) poolFirstCard

/-- THE TIED CARD OF 'raddlelaw10.PoolNobody'. -/
def poolNobodyCard : Claim7 := { stood := { row := poolNobodyRow, standIns := [], harness := (true, "15f8242bcfff4a6da0bd0f246fb945aa82358d4233e2f1118f44094cde8f5ec3"), looks := false }, kinds := [], alts := [], laidByText := true, laidKinds := [.data, .data], laidTests := true, laidLooks := .later }
def PoolNobodyCardSaid : Prop := Claim7.holds Tryd.pinned (.plain (OpenSpec.ofChange poolNobodySpec)) poolNobodyCard

/-- THE TIED CARD OF 'raddlelaw10.PoolGone'. -/
def poolGoneCard : Claim7 := { stood := { row := poolGoneRow, standIns := [], harness := (true, "15f8242bcfff4a6da0bd0f246fb945aa82358d4233e2f1118f44094cde8f5ec3"), looks := false }, kinds := [], alts := [], laidByText := true, laidKinds := [.data, .data], laidTests := true, laidLooks := .later }
def PoolGoneCardSaid : Prop := Claim7.holds Tryd.pinned (.plain (OpenSpec.ofChange poolGoneSpec)) poolGoneCard

/-- THE SECOND FORM's CARD OF 'raddlelaw10.PoolPlays'. -/
def poolPlaysUptoCard : Claim7 := { stood := { row := poolPlaysUptoRow, standIns := [], harness := (true, "15f8242bcfff4a6da0bd0f246fb945aa82358d4233e2f1118f44094cde8f5ec3"), looks := false }, kinds := [], alts := [], laidByText := true, laidKinds := [.data, .data], laidTests := true, laidLooks := .later }
def PoolPlaysUptoCardSaid : Prop := Claim7.holds Tryd.pinned (.plain (OpenSpec.upto poolPlaysSpec)) poolPlaysUptoCard

/-- THE SECOND FORM's CARD OF 'raddlelaw10.PoolFew'. -/
def poolFewUptoCard : Claim7 := { stood := { row := poolFewUptoRow, standIns := [], harness := (true, "15f8242bcfff4a6da0bd0f246fb945aa82358d4233e2f1118f44094cde8f5ec3"), looks := false }, kinds := [], alts := [], laidByText := true, laidKinds := [.data, .data], laidTests := true, laidLooks := .later }
def PoolFewUptoCardSaid : Prop := Claim7.holds Tryd.pinned (.plain (OpenSpec.upto poolFewSpec)) poolFewUptoCard

/-- THE SECOND FORM's CARD OF 'raddlelaw10.PoolFirst'. -/
def poolFirstUptoCard : Claim7 := { stood := { row := poolFirstUptoRow, standIns := [], harness := (true, "15f8242bcfff4a6da0bd0f246fb945aa82358d4233e2f1118f44094cde8f5ec3"), looks := false }, kinds := [], alts := [], laidByText := true, laidKinds := [.data, .data], laidTests := true, laidLooks := .later }
def PoolFirstUptoCardSaid : Prop := Claim7.holds Tryd.pinned (.plain (OpenSpec.upto poolFirstSpec)) poolFirstUptoCard

/-- THE SECOND FORM's CARD OF 'raddlelaw10.PoolNobody'. -/
def poolNobodyUptoCard : Claim7 := { stood := { row := poolNobodyUptoRow, standIns := [], harness := (true, "15f8242bcfff4a6da0bd0f246fb945aa82358d4233e2f1118f44094cde8f5ec3"), looks := false }, kinds := [], alts := [], laidByText := true, laidKinds := [.data, .data], laidTests := true, laidLooks := .later }
def PoolNobodyUptoCardSaid : Prop := Claim7.holds Tryd.pinned (.plain (OpenSpec.upto poolNobodySpec)) poolNobodyUptoCard

/-- THE SECOND FORM's CARD OF 'raddlelaw10.PoolGone'. -/
def poolGoneUptoCard : Claim7 := { stood := { row := poolGoneUptoRow, standIns := [], harness := (true, "15f8242bcfff4a6da0bd0f246fb945aa82358d4233e2f1118f44094cde8f5ec3"), looks := false }, kinds := [], alts := [], laidByText := true, laidKinds := [.data, .data], laidTests := true, laidLooks := .later }
def PoolGoneUptoCardSaid : Prop := Claim7.holds Tryd.pinned (.plain (OpenSpec.upto poolGoneSpec)) poolGoneUptoCard
end Rows
end Go.Proofs.YtbfcbjjhdadicaaDoor
