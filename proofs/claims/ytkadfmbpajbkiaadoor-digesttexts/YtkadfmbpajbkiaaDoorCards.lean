/-
  DERIVED. GIVEN WITH THE SEED: THE CARDS: each row of YtkadfmbpajbkiaaDoorRows.lean that lists a variable, with what it lists TIED to the program's text (the seventh form; the later family's looks); each row that meets fmt, with fmt's text TOLD by the authors' own Lean function (tested against real Go, not proved from fmt's source: count such statements apart). THE CARD IS WHAT COUNTS. Prove the row's statement (the work); the ties are given (YtkadfmbpajbkiaaDoorTie.lean); close each card by the builder's one call (the guide's Derived/Test/ToyasCard.lean, 'card_holds'). Laid BY PROGRAM, IN A SANDBOX (cutbox-door.mjs). By AI agents, Wed Nov 11 2026. No macro, syntax, notation, axiom, sorry.
-/
import Derived.Test.YtkadfmbpajbkiaaDoorRows
import GoSem.ClaimSeven
namespace Go.Proofs.YtkadfmbpajbkiaaDoor
namespace Rows

/-- THE TIED CARD OF 'raddlelaw03.DigestSums'. -/
def digestSumsCard : Claim7 := { stood := { row := digestSumsRow, standIns := [], harness := (true, "b7cdb5e9dc8fb7a259c82046472e31e1d7580db52139f405a6a03062bcd42348"), looks := false }, kinds := [], alts := [], laidByText := true, laidKinds := [.data, .data], laidTests := true, laidLooks := .later }
def DigestSumsCardSaid : Prop := Claim7.holds Tryd.pinned (.plain (OpenSpec.ofChange digestSumsSpec)) digestSumsCard

/-- THE TIED CARD OF 'raddlelaw03.DigestCuts'. -/
def digestCutsCard : Claim7 := { stood := { row := digestCutsRow, standIns := [], harness := (true, "b7cdb5e9dc8fb7a259c82046472e31e1d7580db52139f405a6a03062bcd42348"), looks := false }, kinds := [], alts := [], laidByText := true, laidKinds := [.data, .data], laidTests := true, laidLooks := .later }
def DigestCutsCardSaid : Prop := Claim7.holds Tryd.pinned (.plain (OpenSpec.ofChange digestCutsSpec)) digestCutsCard

/-- THE TIED CARD OF 'raddlelaw03.DigestShares'. -/
def digestSharesCard : Claim7 := { stood := { row := digestSharesRow, standIns := [], harness := (true, "b7cdb5e9dc8fb7a259c82046472e31e1d7580db52139f405a6a03062bcd42348"), looks := false }, kinds := [], alts := [], laidByText := true, laidKinds := [.data, .data], laidTests := true, laidLooks := .later }
def DigestSharesCardSaid : Prop := Claim7.holds Tryd.pinned (.plain (OpenSpec.ofChange digestSharesSpec)) digestSharesCard

/-- THE TIED CARD OF 'raddlelaw03.DigestOrder'. -/
def digestOrderCard : Claim7 := { stood := { row := digestOrderRow, standIns := [], harness := (true, "b7cdb5e9dc8fb7a259c82046472e31e1d7580db52139f405a6a03062bcd42348"), looks := false }, kinds := [], alts := [], laidByText := true, laidKinds := [.data, .data], laidTests := true, laidLooks := .later }
def DigestOrderCardSaid : Prop := Claim7.holds Tryd.pinned (.plain (OpenSpec.ofChange digestOrderSpec)) digestOrderCard

/-- THE TIED CARD OF 'raddlelaw03.DigestTexts'. -/
def digestTextsCard : Claim7 := { stood := { row := digestTextsRow, standIns := [], harness := (true, "b7cdb5e9dc8fb7a259c82046472e31e1d7580db52139f405a6a03062bcd42348"), looks := false }, kinds := [], alts := [], laidByText := true, laidKinds := [.data, .data], laidTests := true, laidLooks := .later }
def DigestTextsCardSaid : Prop := Claim7.holds Tryd.pinned (.plain (OpenSpec.ofChange digestTextsSpec)) digestTextsCard

/-- THE TIED CARD OF 'raddlelaw04.SealMacs'. -/
def sealMacsCard : Claim7 := { stood := { row := sealMacsRow, standIns := [], harness := (true, "b7cdb5e9dc8fb7a259c82046472e31e1d7580db52139f405a6a03062bcd42348"), looks := false }, kinds := [], alts := [], laidByText := true, laidKinds := [.data, .data], laidTests := true, laidLooks := .later }
def SealMacsCardSaid : Prop := Claim7.holds Tryd.pinned (.plain (OpenSpec.ofChange sealMacsSpec)) sealMacsCard

/-- THE SECOND FORM's CARD OF 'raddlelaw03.DigestSums'. -/
def digestSumsUptoCard : Claim7 := { stood := { row := digestSumsUptoRow, standIns := [], harness := (true, "b7cdb5e9dc8fb7a259c82046472e31e1d7580db52139f405a6a03062bcd42348"), looks := false }, kinds := [], alts := [], laidByText := true, laidKinds := [.data, .data], laidTests := true, laidLooks := .later }
def DigestSumsUptoCardSaid : Prop := Claim7.holds Tryd.pinned (.plain (OpenSpec.upto digestSumsSpec)) digestSumsUptoCard

/-- THE SECOND FORM's CARD OF 'raddlelaw03.DigestCuts'. -/
def digestCutsUptoCard : Claim7 := { stood := { row := digestCutsUptoRow, standIns := [], harness := (true, "b7cdb5e9dc8fb7a259c82046472e31e1d7580db52139f405a6a03062bcd42348"), looks := false }, kinds := [], alts := [], laidByText := true, laidKinds := [.data, .data], laidTests := true, laidLooks := .later }
def DigestCutsUptoCardSaid : Prop := Claim7.holds Tryd.pinned (.plain (OpenSpec.upto digestCutsSpec)) digestCutsUptoCard

/-- THE SECOND FORM's CARD OF 'raddlelaw03.DigestShares'. -/
def digestSharesUptoCard : Claim7 := { stood := { row := digestSharesUptoRow, standIns := [], harness := (true, "b7cdb5e9dc8fb7a259c82046472e31e1d7580db52139f405a6a03062bcd42348"), looks := false }, kinds := [], alts := [], laidByText := true, laidKinds := [.data, .data], laidTests := true, laidLooks := .later }
def DigestSharesUptoCardSaid : Prop := Claim7.holds Tryd.pinned (.plain (OpenSpec.upto digestSharesSpec)) digestSharesUptoCard

/-- THE SECOND FORM's CARD OF 'raddlelaw03.DigestOrder'. -/
def digestOrderUptoCard : Claim7 := { stood := { row := digestOrderUptoRow, standIns := [], harness := (true, "b7cdb5e9dc8fb7a259c82046472e31e1d7580db52139f405a6a03062bcd42348"), looks := false }, kinds := [], alts := [], laidByText := true, laidKinds := [.data, .data], laidTests := true, laidLooks := .later }
def DigestOrderUptoCardSaid : Prop := Claim7.holds Tryd.pinned (.plain (OpenSpec.upto digestOrderSpec)) digestOrderUptoCard

/-- THE SECOND FORM's CARD OF 'raddlelaw03.DigestTexts'. -/
def digestTextsUptoCard : Claim7 := { stood := { row := digestTextsUptoRow, standIns := [], harness := (true, "b7cdb5e9dc8fb7a259c82046472e31e1d7580db52139f405a6a03062bcd42348"), looks := false }, kinds := [], alts := [], laidByText := true, laidKinds := [.data, .data], laidTests := true, laidLooks := .later }
def DigestTextsUptoCardSaid : Prop := Claim7.holds Tryd.pinned (.plain (OpenSpec.upto digestTextsSpec)) digestTextsUptoCard

/-- THE SECOND FORM's CARD OF 'raddlelaw04.SealMacs'. -/
def sealMacsUptoCard : Claim7 := { stood := { row := sealMacsUptoRow, standIns := [], harness := (true, "b7cdb5e9dc8fb7a259c82046472e31e1d7580db52139f405a6a03062bcd42348"), looks := false }, kinds := [], alts := [], laidByText := true, laidKinds := [.data, .data], laidTests := true, laidLooks := .later }
def SealMacsUptoCardSaid : Prop := Claim7.holds Tryd.pinned (.plain (OpenSpec.upto sealMacsSpec)) sealMacsUptoCard
end Rows
end Go.Proofs.YtkadfmbpajbkiaaDoor
