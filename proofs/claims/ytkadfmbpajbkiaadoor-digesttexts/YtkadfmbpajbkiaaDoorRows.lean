/-
  NARROWER THAN 'FOR EVERY INPUT', by the rows' own cells (each row's printed sentence says how): DigestSums: laid · DigestCuts: laid · DigestShares: laid · DigestOrder: laid · DigestTexts: laid · SealMacs: laid.
  DERIVED. THE GIVEN ROWS OF THIS SEAT. 6 by the template 'for every input the law returns true; each argument reads behind the call as it read before'; 0 by the template 'total and deterministic' (their statements: YtkadfmbpajbkiaaDoorTotals.lean).
  GIVEN WITH THE SEED: the statements are not yours to turn. If you find one false, say at which input.
  Laid BY PROGRAM, IN A SANDBOX (cutbox-rows.mjs): the forced cells as the released guide's own fill.sh prints them over the translation a8a8d660d06aa59b… (all of the seat's roots in one cut). By AI agents, Wed Nov 11 2026. No macro, syntax, notation, axiom, sorry.
-/
import Derived.Test.YtkadfmbpajbkiaaDoorChecked
import GoSem.Claim
import GoSem.ClaimJoined
import GoSem.ClaimMapViews
import Derived.JoinedTies
import Derived.KernelRfl
namespace Go.Proofs.YtkadfmbpajbkiaaDoor
/- THE CELL 'sum', in the pinned program and in every row, IS THE sha256 OF THE DUMP (.gsa) THAT YtkadfmbpajbkiaaDoorProg.lean LOADS. Nothing in Lean hashes anything: it is a label: what it is worth is what the hold of that sum in a sandbox is worth. -/
noncomputable def Tryd.pinned : Pinned := { name := "ytkadfmbpajbkiaadoor", sum := "a8a8d660d06aa59bddbc79827fb48c0feb0ef68d3fb2add9f95d5e920c3a5b47", checked := Tryd.checked }
namespace Rows
def none {H : Type} : Left H := { results := [], args := [] }

/- WHAT THE LISTED PACKAGE-LEVEL VARIABLES READ AS WHEN THE CALL BEGINS. Each datum BY PROGRAM (the guide's laid-datum.mjs) off the statement by which the dump's own 'gosem.cut.vars' lays the variable. In a bare row this is a premise. The card (YtkadfmbpajbkiaaDoorCards.lean) ties it to the program's text. -/
def laid_raddle_digest_starts {H : Type} : DataW H := .agg [.lit (.int .u32 1779033703), .lit (.int .u32 3144134277), .lit (.int .u32 1013904242), .lit (.int .u32 2773480762), .lit (.int .u32 1359893119), .lit (.int .u32 2600822924), .lit (.int .u32 528734635), .lit (.int .u32 1541459225)]
def laid_raddle_digest_roots {H : Type} : DataW H := .agg [.lit (.int .u32 1116352408), .lit (.int .u32 1899447441), .lit (.int .u32 3049323471), .lit (.int .u32 3921009573), .lit (.int .u32 961987163), .lit (.int .u32 1508970993), .lit (.int .u32 2453635748), .lit (.int .u32 2870763221), .lit (.int .u32 3624381080), .lit (.int .u32 310598401), .lit (.int .u32 607225278), .lit (.int .u32 1426881987), .lit (.int .u32 1925078388), .lit (.int .u32 2162078206), .lit (.int .u32 2614888103), .lit (.int .u32 3248222580), .lit (.int .u32 3835390401), .lit (.int .u32 4022224774), .lit (.int .u32 264347078), .lit (.int .u32 604807628), .lit (.int .u32 770255983), .lit (.int .u32 1249150122), .lit (.int .u32 1555081692), .lit (.int .u32 1996064986), .lit (.int .u32 2554220882), .lit (.int .u32 2821834349), .lit (.int .u32 2952996808), .lit (.int .u32 3210313671), .lit (.int .u32 3336571891), .lit (.int .u32 3584528711), .lit (.int .u32 113926993), .lit (.int .u32 338241895), .lit (.int .u32 666307205), .lit (.int .u32 773529912), .lit (.int .u32 1294757372), .lit (.int .u32 1396182291), .lit (.int .u32 1695183700), .lit (.int .u32 1986661051), .lit (.int .u32 2177026350), .lit (.int .u32 2456956037), .lit (.int .u32 2730485921), .lit (.int .u32 2820302411), .lit (.int .u32 3259730800), .lit (.int .u32 3345764771), .lit (.int .u32 3516065817), .lit (.int .u32 3600352804), .lit (.int .u32 4094571909), .lit (.int .u32 275423344), .lit (.int .u32 430227734), .lit (.int .u32 506948616), .lit (.int .u32 659060556), .lit (.int .u32 883997877), .lit (.int .u32 958139571), .lit (.int .u32 1322822218), .lit (.int .u32 1537002063), .lit (.int .u32 1747873779), .lit (.int .u32 1955562222), .lit (.int .u32 2024104815), .lit (.int .u32 2227730452), .lit (.int .u32 2361852424), .lit (.int .u32 2428436474), .lit (.int .u32 2756734187), .lit (.int .u32 3204031479), .lit (.int .u32 3329325298)]

/-- 'raddlelaw03.DigestSums': WHATEVER THE INPUT: true; the input reads as it did. -/
def digestSumsSpec : ChangeSpec := { name := "digestSums", fn := fun _ => fun
  | [d1, d2] => { results := [.lit (.bool true)], args := [d1, d2] }
  | _ => none }
def digestSumsRow : OpenClaim := { program := "ytkadfmbpajbkiaadoor", sum := "a8a8d660d06aa59bddbc79827fb48c0feb0ef68d3fb2add9f95d5e920c3a5b47", func := "raddle/raddlelaw03.DigestSums", spec := "digestSums", named := ["raddle/digest.starts", "raddle/digest.roots"], apart := false, laid := [("raddle/digest.starts", laid_raddle_digest_starts), ("raddle/digest.roots", laid_raddle_digest_roots)] }
def DigestSumsSaid : Prop := digestSumsRow.holds Tryd.pinned (OpenSpec.ofChange digestSumsSpec)

/-- ITS FALSE NEIGHBOUR: 'it returns false'. Refute it at one input. -/
def digestSumsWrong : ChangeSpec := { name := "digestSums", fn := fun _ => fun
  | [d1, d2] => { results := [.lit (.bool false)], args := [d1, d2] }
  | _ => none }
def DigestSumsWrongFalsely : Prop := digestSumsRow.holds Tryd.pinned (OpenSpec.ofChange digestSumsWrong)

/-- 'raddlelaw03.DigestCuts': WHATEVER THE INPUT: true; the input reads as it did. -/
def digestCutsSpec : ChangeSpec := { name := "digestCuts", fn := fun _ => fun
  | [d1, d2] => { results := [.lit (.bool true)], args := [d1, d2] }
  | _ => none }
def digestCutsRow : OpenClaim := { program := "ytkadfmbpajbkiaadoor", sum := "a8a8d660d06aa59bddbc79827fb48c0feb0ef68d3fb2add9f95d5e920c3a5b47", func := "raddle/raddlelaw03.DigestCuts", spec := "digestCuts", named := ["raddle/digest.starts", "raddle/digest.roots"], apart := false, laid := [("raddle/digest.starts", laid_raddle_digest_starts), ("raddle/digest.roots", laid_raddle_digest_roots)] }
def DigestCutsSaid : Prop := digestCutsRow.holds Tryd.pinned (OpenSpec.ofChange digestCutsSpec)

/-- ITS FALSE NEIGHBOUR: 'it returns false'. Refute it at one input. -/
def digestCutsWrong : ChangeSpec := { name := "digestCuts", fn := fun _ => fun
  | [d1, d2] => { results := [.lit (.bool false)], args := [d1, d2] }
  | _ => none }
def DigestCutsWrongFalsely : Prop := digestCutsRow.holds Tryd.pinned (OpenSpec.ofChange digestCutsWrong)

/-- 'raddlelaw03.DigestShares': WHATEVER THE INPUT: true; the input reads as it did. -/
def digestSharesSpec : ChangeSpec := { name := "digestShares", fn := fun _ => fun
  | [d1, d2] => { results := [.lit (.bool true)], args := [d1, d2] }
  | _ => none }
def digestSharesRow : OpenClaim := { program := "ytkadfmbpajbkiaadoor", sum := "a8a8d660d06aa59bddbc79827fb48c0feb0ef68d3fb2add9f95d5e920c3a5b47", func := "raddle/raddlelaw03.DigestShares", spec := "digestShares", named := ["raddle/digest.starts", "raddle/digest.roots"], apart := false, laid := [("raddle/digest.starts", laid_raddle_digest_starts), ("raddle/digest.roots", laid_raddle_digest_roots)] }
def DigestSharesSaid : Prop := digestSharesRow.holds Tryd.pinned (OpenSpec.ofChange digestSharesSpec)

/-- ITS FALSE NEIGHBOUR: 'it returns false'. Refute it at one input. -/
def digestSharesWrong : ChangeSpec := { name := "digestShares", fn := fun _ => fun
  | [d1, d2] => { results := [.lit (.bool false)], args := [d1, d2] }
  | _ => none }
def DigestSharesWrongFalsely : Prop := digestSharesRow.holds Tryd.pinned (OpenSpec.ofChange digestSharesWrong)

/-- 'raddlelaw03.DigestOrder': WHATEVER THE INPUT: true; the input reads as it did. -/
def digestOrderSpec : ChangeSpec := { name := "digestOrder", fn := fun _ => fun
  | [d1, d2] => { results := [.lit (.bool true)], args := [d1, d2] }
  | _ => none }
def digestOrderRow : OpenClaim := { program := "ytkadfmbpajbkiaadoor", sum := "a8a8d660d06aa59bddbc79827fb48c0feb0ef68d3fb2add9f95d5e920c3a5b47", func := "raddle/raddlelaw03.DigestOrder", spec := "digestOrder", inPlace := ["internal/bytealg.Compare"], named := ["raddle/digest.starts", "raddle/digest.roots"], apart := false, laid := [("raddle/digest.starts", laid_raddle_digest_starts), ("raddle/digest.roots", laid_raddle_digest_roots)] }
def DigestOrderSaid : Prop := digestOrderRow.holds Tryd.pinned (OpenSpec.ofChange digestOrderSpec)

/-- ITS FALSE NEIGHBOUR: 'it returns false'. Refute it at one input. -/
def digestOrderWrong : ChangeSpec := { name := "digestOrder", fn := fun _ => fun
  | [d1, d2] => { results := [.lit (.bool false)], args := [d1, d2] }
  | _ => none }
def DigestOrderWrongFalsely : Prop := digestOrderRow.holds Tryd.pinned (OpenSpec.ofChange digestOrderWrong)

/-- 'raddlelaw03.DigestTexts': WHATEVER THE INPUT: true; the input reads as it did. -/
def digestTextsSpec : ChangeSpec := { name := "digestTexts", fn := fun _ => fun
  | [d1, d2] => { results := [.lit (.bool true)], args := [d1, d2] }
  | _ => none }
def digestTextsRow : OpenClaim := { program := "ytkadfmbpajbkiaadoor", sum := "a8a8d660d06aa59bddbc79827fb48c0feb0ef68d3fb2add9f95d5e920c3a5b47", func := "raddle/raddlelaw03.DigestTexts", spec := "digestTexts", named := ["raddle/digest.starts", "raddle/digest.roots"], apart := false, laid := [("raddle/digest.starts", laid_raddle_digest_starts), ("raddle/digest.roots", laid_raddle_digest_roots)] }
def DigestTextsSaid : Prop := digestTextsRow.holds Tryd.pinned (OpenSpec.ofChange digestTextsSpec)

/-- ITS FALSE NEIGHBOUR: 'it returns false'. Refute it at one input. -/
def digestTextsWrong : ChangeSpec := { name := "digestTexts", fn := fun _ => fun
  | [d1, d2] => { results := [.lit (.bool false)], args := [d1, d2] }
  | _ => none }
def DigestTextsWrongFalsely : Prop := digestTextsRow.holds Tryd.pinned (OpenSpec.ofChange digestTextsWrong)

/-- 'raddlelaw04.SealMacs': WHATEVER THE INPUT: true; the input reads as it did. -/
def sealMacsSpec : ChangeSpec := { name := "sealMacs", fn := fun _ => fun
  | [d1, d2, d3] => { results := [.lit (.bool true)], args := [d1, d2, d3] }
  | _ => none }
def sealMacsRow : OpenClaim := { program := "ytkadfmbpajbkiaadoor", sum := "a8a8d660d06aa59bddbc79827fb48c0feb0ef68d3fb2add9f95d5e920c3a5b47", func := "raddle/raddlelaw04.SealMacs", spec := "sealMacs", unfollowed := true, recurses := true, named := ["raddle/digest.starts", "raddle/digest.roots"], apart := false, laid := [("raddle/digest.starts", laid_raddle_digest_starts), ("raddle/digest.roots", laid_raddle_digest_roots)] }
def SealMacsSaid : Prop := sealMacsRow.holds Tryd.pinned (OpenSpec.ofChange sealMacsSpec)

/-- ITS FALSE NEIGHBOUR: 'it returns false'. Refute it at one input. -/
def sealMacsWrong : ChangeSpec := { name := "sealMacs", fn := fun _ => fun
  | [d1, d2, d3] => { results := [.lit (.bool false)], args := [d1, d2, d3] }
  | _ => none }
def SealMacsWrongFalsely : Prop := sealMacsRow.holds Tryd.pinned (OpenSpec.ofChange sealMacsWrong)

/- THE SECOND FORM. 'bulk': how many values and letters a reading holds, each counted each time it is reached (what is shared counts as often as it is met; a slice's spare places count too). A statement '..UptoSaid' is the law's where the arguments, and the package variables that the reading takes, are together of bulk at most 1048576: NARROWER than '..Said'. Prove '..Said' where nothing that the law and all that it calls make is longer than what came in: it says more and counts as full. Else prove '..UptoSaid'. A law counts once. -/
mutual
def uptoBulk {H : Type} : DataW H → Nat
  | .lit (.string bytes) => bytes.length + 1
  | .lit _ => 1
  | .nil => 1
  | .ptr d => uptoBulk d + 1
  | .slice elems spare => uptoBulkAll elems + uptoBulkAll spare + 1
  | .agg parts => uptoBulkAll parts + 1
  | .iface _ d => uptoBulk d + 1
  | .map entries => uptoBulkEntries entries + 1
  | .held _ => 1
def uptoBulkAll {H : Type} : List (DataW H) → Nat
  | [] => 0
  | d :: r => uptoBulk d + uptoBulkAll r
def uptoBulkEntries {H : Type} : List (Lit × DataW H) → Nat
  | [] => 0
  | x :: r => uptoBulkEntry x + uptoBulkEntries r
def uptoBulkEntry {H : Type} : Lit × DataW H → Nat
  | (.string bytes, d) => bytes.length + uptoBulk d + 1
  | (_, d) => uptoBulk d + 1
 end
def uptoSmall : (H : Type) → List (DataW H) → Bool := fun _ ds => decide (uptoBulkAll ds ≤ 1048576)
def OpenSpec.upto (s : _root_.Go.ChangeSpec) : _root_.Go.OpenSpec := { _root_.Go.OpenSpec.ofChange s with cond := some uptoSmall }

/-- 'raddlelaw03.DigestSums', WHERE WHAT IT READS IS OF BULK AT MOST 1048576: true; the input reads as it did. -/
def digestSumsUptoRow : OpenClaim := { program := "ytkadfmbpajbkiaadoor", sum := "a8a8d660d06aa59bddbc79827fb48c0feb0ef68d3fb2add9f95d5e920c3a5b47", func := "raddle/raddlelaw03.DigestSums", spec := "digestSums", named := ["raddle/digest.starts", "raddle/digest.roots"], apart := false, laid := [("raddle/digest.starts", laid_raddle_digest_starts), ("raddle/digest.roots", laid_raddle_digest_roots)], narrowed := true }
def DigestSumsUptoSaid : Prop := digestSumsUptoRow.holds Tryd.pinned (OpenSpec.upto digestSumsSpec)

/-- 'raddlelaw03.DigestCuts', WHERE WHAT IT READS IS OF BULK AT MOST 1048576: true; the input reads as it did. -/
def digestCutsUptoRow : OpenClaim := { program := "ytkadfmbpajbkiaadoor", sum := "a8a8d660d06aa59bddbc79827fb48c0feb0ef68d3fb2add9f95d5e920c3a5b47", func := "raddle/raddlelaw03.DigestCuts", spec := "digestCuts", named := ["raddle/digest.starts", "raddle/digest.roots"], apart := false, laid := [("raddle/digest.starts", laid_raddle_digest_starts), ("raddle/digest.roots", laid_raddle_digest_roots)], narrowed := true }
def DigestCutsUptoSaid : Prop := digestCutsUptoRow.holds Tryd.pinned (OpenSpec.upto digestCutsSpec)

/-- 'raddlelaw03.DigestShares', WHERE WHAT IT READS IS OF BULK AT MOST 1048576: true; the input reads as it did. -/
def digestSharesUptoRow : OpenClaim := { program := "ytkadfmbpajbkiaadoor", sum := "a8a8d660d06aa59bddbc79827fb48c0feb0ef68d3fb2add9f95d5e920c3a5b47", func := "raddle/raddlelaw03.DigestShares", spec := "digestShares", named := ["raddle/digest.starts", "raddle/digest.roots"], apart := false, laid := [("raddle/digest.starts", laid_raddle_digest_starts), ("raddle/digest.roots", laid_raddle_digest_roots)], narrowed := true }
def DigestSharesUptoSaid : Prop := digestSharesUptoRow.holds Tryd.pinned (OpenSpec.upto digestSharesSpec)

/-- 'raddlelaw03.DigestOrder', WHERE WHAT IT READS IS OF BULK AT MOST 1048576: true; the input reads as it did. -/
def digestOrderUptoRow : OpenClaim := { program := "ytkadfmbpajbkiaadoor", sum := "a8a8d660d06aa59bddbc79827fb48c0feb0ef68d3fb2add9f95d5e920c3a5b47", func := "raddle/raddlelaw03.DigestOrder", spec := "digestOrder", inPlace := ["internal/bytealg.Compare"], named := ["raddle/digest.starts", "raddle/digest.roots"], apart := false, laid := [("raddle/digest.starts", laid_raddle_digest_starts), ("raddle/digest.roots", laid_raddle_digest_roots)], narrowed := true }
def DigestOrderUptoSaid : Prop := digestOrderUptoRow.holds Tryd.pinned (OpenSpec.upto digestOrderSpec)

/-- 'raddlelaw03.DigestTexts', WHERE WHAT IT READS IS OF BULK AT MOST 1048576: true; the input reads as it did. -/
def digestTextsUptoRow : OpenClaim := { program := "ytkadfmbpajbkiaadoor", sum := "a8a8d660d06aa59bddbc79827fb48c0feb0ef68d3fb2add9f95d5e920c3a5b47", func := "raddle/raddlelaw03.DigestTexts", spec := "digestTexts", named := ["raddle/digest.starts", "raddle/digest.roots"], apart := false, laid := [("raddle/digest.starts", laid_raddle_digest_starts), ("raddle/digest.roots", laid_raddle_digest_roots)], narrowed := true }
def DigestTextsUptoSaid : Prop := digestTextsUptoRow.holds Tryd.pinned (OpenSpec.upto digestTextsSpec)

/-- 'raddlelaw04.SealMacs', WHERE WHAT IT READS IS OF BULK AT MOST 1048576: true; the input reads as it did. -/
def sealMacsUptoRow : OpenClaim := { program := "ytkadfmbpajbkiaadoor", sum := "a8a8d660d06aa59bddbc79827fb48c0feb0ef68d3fb2add9f95d5e920c3a5b47", func := "raddle/raddlelaw04.SealMacs", spec := "sealMacs", unfollowed := true, recurses := true, named := ["raddle/digest.starts", "raddle/digest.roots"], apart := false, laid := [("raddle/digest.starts", laid_raddle_digest_starts), ("raddle/digest.roots", laid_raddle_digest_roots)], narrowed := true }
def SealMacsUptoSaid : Prop := sealMacsUptoRow.holds Tryd.pinned (OpenSpec.upto sealMacsSpec)

end Rows
end Go.Proofs.YtkadfmbpajbkiaaDoor
