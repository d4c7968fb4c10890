/-
  DERIVED. GIVEN WITH THE SEED: THE CARDS: each row of YtcbpbkefggekmaaGreatDoorRows.lean that lists a variable, with what it lists TIED to the program's text (the seventh form; the later family's looks); each row that meets fmt, with fmt's text TOLD by the authors' own Lean function (tested against real Go, not proved from fmt's source: count such statements apart). THE CARD IS WHAT COUNTS. Prove the row's statement (the work); the ties are given (YtcbpbkefggekmaaGreatDoorTie.lean); close each card by the builder's one call (the guide's Derived/Test/ToyasCard.lean, 'card_holds'). Laid BY PROGRAM, IN A SANDBOX (cutbox-door.mjs). By AI agents, Wed Nov 11 2026. No macro, syntax, notation, axiom, sorry.
-/
import Derived.Test.YtcbpbkefggekmaaGreatDoorRows
import GoSem.ClaimSeven
namespace Go.Proofs.YtcbpbkefggekmaaGreatDoor
namespace Rows

/-- THE TIED CARD OF 'raddlelaw14.EnvelopeSeals'. -/
def envelopeSealsCard : Claim7 := { stood := { row := envelopeSealsRow, standIns := [], harness := (true, "25d2a5b30884e3b71ad816cffc66fba19366bef644f7b28281847e0f0242141c"), looks := false }, kinds := [], alts := [], laidByText := true, laidKinds := [.data, .data], laidTests := true, laidLooks := .later }
def EnvelopeSealsCardSaid : Prop := Claim7.holds Tryz.pinned (.plain (OpenSpec.ofChange envelopeSealsSpec)) envelopeSealsCard

/-- THE TIED CARD OF 'raddlelaw14.EnvelopeReads'. -/
def envelopeReadsCard : Claim7 := { stood := { row := envelopeReadsRow, standIns := [], harness := (true, "25d2a5b30884e3b71ad816cffc66fba19366bef644f7b28281847e0f0242141c"), looks := false }, kinds := [], alts := [], laidByText := true, laidKinds := [.data, .data], laidTests := true, laidLooks := .later }
def EnvelopeReadsCardSaid : Prop := Claim7.holds Tryz.pinned (.plain (OpenSpec.ofChange envelopeReadsSpec)) envelopeReadsCard

/-- THE TIED CARD OF 'raddlelaw14.EnvelopeClaims'. -/
def envelopeClaimsCard : Claim7 := { stood := { row := envelopeClaimsRow, standIns := [], harness := (true, "25d2a5b30884e3b71ad816cffc66fba19366bef644f7b28281847e0f0242141c"), looks := false }, kinds := [], alts := [], laidByText := true, laidKinds := [.data, .data], laidTests := true, laidLooks := .later }
def EnvelopeClaimsCardSaid : Prop := Claim7.holds Tryz.pinned (.plain (OpenSpec.ofChange envelopeClaimsSpec)) envelopeClaimsCard

/-- THE TIED CARD OF 'raddlelaw14.EnvelopeSealed'. -/
def envelopeSealedCard : Claim7 := { stood := { row := envelopeSealedRow, standIns := [], harness := (true, "25d2a5b30884e3b71ad816cffc66fba19366bef644f7b28281847e0f0242141c"), looks := false }, kinds := [], alts := [], laidByText := true, laidKinds := [.data, .data], laidTests := true, laidLooks := .later }
def EnvelopeSealedCardSaid : Prop := Claim7.holds Tryz.pinned (.plain (OpenSpec.ofChange envelopeSealedSpec)) envelopeSealedCard

/-- THE TIED CARD OF 'raddlelaw14.EnvelopeBack'. -/
def envelopeBackCard : Claim7 := { stood := { row := envelopeBackRow, standIns := [], harness := (true, "25d2a5b30884e3b71ad816cffc66fba19366bef644f7b28281847e0f0242141c"), looks := false }, kinds := [], alts := [], laidByText := true, laidKinds := [.data, .data], laidTests := true, laidLooks := .later }
def EnvelopeBackCardSaid : Prop := Claim7.holds Tryz.pinned (.plain (OpenSpec.ofChange envelopeBackSpec)) envelopeBackCard

/-- THE SECOND FORM's CARD OF 'raddlelaw14.EnvelopeSeals'. -/
def envelopeSealsUptoCard : Claim7 := { stood := { row := envelopeSealsUptoRow, standIns := [], harness := (true, "25d2a5b30884e3b71ad816cffc66fba19366bef644f7b28281847e0f0242141c"), looks := false }, kinds := [], alts := [], laidByText := true, laidKinds := [.data, .data], laidTests := true, laidLooks := .later }
def EnvelopeSealsUptoCardSaid : Prop := Claim7.holds Tryz.pinned (.plain (OpenSpec.upto envelopeSealsSpec)) envelopeSealsUptoCard

/-- THE SECOND FORM's CARD OF 'raddlelaw14.EnvelopeReads'. -/
def envelopeReadsUptoCard : Claim7 := { stood := { row := envelopeReadsUptoRow, standIns := [], harness := (true, "25d2a5b30884e3b71ad816cffc66fba19366bef644f7b28281847e0f0242141c"), looks := false }, kinds := [], alts := [], laidByText := true, laidKinds := [.data, .data], laidTests := true, laidLooks := .later }
def EnvelopeReadsUptoCardSaid : Prop := Claim7.holds Tryz.pinned (.plain (OpenSpec.upto envelopeReadsSpec)) envelopeReadsUptoCard

/-- THE SECOND FORM's CARD OF 'raddlelaw14.EnvelopeClaims'. -/
def envelopeClaimsUptoCard : Claim7 := { stood := { row := envelopeClaimsUptoRow, standIns := [], harness := (true, "25d2a5b30884e3b71ad816cffc66fba19366bef644f7b28281847e0f0242141c"), looks := false }, kinds := [], alts := [], laidByText := true, laidKinds := [.data, .data], laidTests := true, laidLooks := .later }
def EnvelopeClaimsUptoCardSaid : Prop := Claim7.holds Tryz.pinned (.plain (OpenSpec.upto envelopeClaimsSpec)) envelopeClaimsUptoCard

/-- THE SECOND FORM's CARD OF 'raddlelaw14.EnvelopeSealed'. -/
def envelopeSealedUptoCard : Claim7 := { stood := { row := envelopeSealedUptoRow, standIns := [], harness := (true, "25d2a5b30884e3b71ad816cffc66fba19366bef644f7b28281847e0f0242141c"), looks := false }, kinds := [], alts := [], laidByText := true, laidKinds := [.data, .data], laidTests := true, laidLooks := .later }
def EnvelopeSealedUptoCardSaid : Prop := Claim7.holds Tryz.pinned (.plain (OpenSpec.upto envelopeSealedSpec)) envelopeSealedUptoCard

/-- THE SECOND FORM's CARD OF 'raddlelaw14.EnvelopeBack'. -/
def envelopeBackUptoCard : Claim7 := { stood := { row := envelopeBackUptoRow, standIns := [], harness := (true, "25d2a5b30884e3b71ad816cffc66fba19366bef644f7b28281847e0f0242141c"), looks := false }, kinds := [], alts := [], laidByText := true, laidKinds := [.data, .data], laidTests := true, laidLooks := .later }
def EnvelopeBackUptoCardSaid : Prop := Claim7.holds Tryz.pinned (.plain (OpenSpec.upto envelopeBackSpec)) envelopeBackUptoCard
end Rows
end Go.Proofs.YtcbpbkefggekmaaGreatDoor
