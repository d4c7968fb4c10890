/-
  No cell of these rows narrows 'for every input' (looked for: loops, veiled, ifaces, maps, wideKeys, modest, calm, conditions, laid).
  DERIVED. THE GIVEN ROWS OF THIS SEAT. 5 by the template 'for every input the law returns true; each argument reads behind the call as it read before'; 0 by the template 'total and deterministic' (their statements: YtinpbnkmpplkiabTotals.lean).
  GIVEN WITH THE SEED: the statements are not yours to turn. If you find one false, say at which input.
  Laid BY PROGRAM, IN A SANDBOX (cutbox-rows.mjs): the forced cells as the released guide's own fill.sh prints them over the translation 185876b9409c6169… (all of the seat's roots in one cut). By AI agents, Wed Nov 11 2026. No macro, syntax, notation, axiom, sorry.
-/
import Derived.Test.YtinpbnkmpplkiabChecked
import GoSem.Claim
import GoSem.ClaimJoined
import GoSem.ClaimMapViews
import Derived.JoinedTies
import Derived.KernelRfl
namespace Go.Proofs.Ytinpbnkmpplkiab
/- THE CELL 'sum', in the pinned program and in every row, IS THE sha256 OF THE DUMP (.gsa) THAT YtinpbnkmpplkiabProg.lean LOADS. Nothing in Lean hashes anything: it is a label: what it is worth is what the hold of that sum in a sandbox is worth. -/
noncomputable def Try.pinned : Pinned := { name := "ytinpbnkmpplkiab", sum := "185876b9409c6169c3315c07442ff61eea31ed2e1650f64ee7fd48b51cd2134f", checked := Try.checked }
namespace Rows
def none {H : Type} : Left H := { results := [], args := [] }

/-- 'raddlelaw08.MaskTells': WHATEVER THE INPUT: true; the input reads as it did. -/
def maskTellsSpec : ChangeSpec := { name := "maskTells", fn := fun _ => fun
  | [d1, d2] => { results := [.lit (.bool true)], args := [d1, d2] }
  | _ => none }
def maskTellsRow : OpenClaim := { program := "ytinpbnkmpplkiab", sum := "185876b9409c6169c3315c07442ff61eea31ed2e1650f64ee7fd48b51cd2134f", func := "raddle/raddlelaw08.MaskTells", spec := "maskTells", unfollowed := true, recurses := true, apart := false }
def MaskTellsSaid : Prop := maskTellsRow.holds Try.pinned (OpenSpec.ofChange maskTellsSpec)

/-- ITS FALSE NEIGHBOUR: 'it returns false'. Refute it at one input. -/
def maskTellsWrong : ChangeSpec := { name := "maskTells", fn := fun _ => fun
  | [d1, d2] => { results := [.lit (.bool false)], args := [d1, d2] }
  | _ => none }
def MaskTellsWrongFalsely : Prop := maskTellsRow.holds Try.pinned (OpenSpec.ofChange maskTellsWrong)

/-- 'raddlelaw08.MaskGoes': WHATEVER THE INPUT: true; the input reads as it did. -/
def maskGoesSpec : ChangeSpec := { name := "maskGoes", fn := fun _ => fun
  | [d1, d2] => { results := [.lit (.bool true)], args := [d1, d2] }
  | _ => none }
def maskGoesRow : OpenClaim := { program := "ytinpbnkmpplkiab", sum := "185876b9409c6169c3315c07442ff61eea31ed2e1650f64ee7fd48b51cd2134f", func := "raddle/raddlelaw08.MaskGoes", spec := "maskGoes", unfollowed := true, recurses := true, apart := false }
def MaskGoesSaid : Prop := maskGoesRow.holds Try.pinned (OpenSpec.ofChange maskGoesSpec)

/-- ITS FALSE NEIGHBOUR: 'it returns false'. Refute it at one input. -/
def maskGoesWrong : ChangeSpec := { name := "maskGoes", fn := fun _ => fun
  | [d1, d2] => { results := [.lit (.bool false)], args := [d1, d2] }
  | _ => none }
def MaskGoesWrongFalsely : Prop := maskGoesRow.holds Try.pinned (OpenSpec.ofChange maskGoesWrong)

/-- 'raddlelaw08.MaskBack': WHATEVER THE INPUT: true; the input reads as it did. -/
def maskBackSpec : ChangeSpec := { name := "maskBack", fn := fun _ => fun
  | [d1, d2] => { results := [.lit (.bool true)], args := [d1, d2] }
  | _ => none }
def maskBackRow : OpenClaim := { program := "ytinpbnkmpplkiab", sum := "185876b9409c6169c3315c07442ff61eea31ed2e1650f64ee7fd48b51cd2134f", func := "raddle/raddlelaw08.MaskBack", spec := "maskBack", unfollowed := true, recurses := true, apart := false }
def MaskBackSaid : Prop := maskBackRow.holds Try.pinned (OpenSpec.ofChange maskBackSpec)

/-- ITS FALSE NEIGHBOUR: 'it returns false'. Refute it at one input. -/
def maskBackWrong : ChangeSpec := { name := "maskBack", fn := fun _ => fun
  | [d1, d2] => { results := [.lit (.bool false)], args := [d1, d2] }
  | _ => none }
def MaskBackWrongFalsely : Prop := maskBackRow.holds Try.pinned (OpenSpec.ofChange maskBackWrong)

/-- 'raddlelaw08.MaskDown': WHATEVER THE INPUT: true; the input reads as it did. -/
def maskDownSpec : ChangeSpec := { name := "maskDown", fn := fun _ => fun
  | [d1, d2, d3] => { results := [.lit (.bool true)], args := [d1, d2, d3] }
  | _ => none }
def maskDownRow : OpenClaim := { program := "ytinpbnkmpplkiab", sum := "185876b9409c6169c3315c07442ff61eea31ed2e1650f64ee7fd48b51cd2134f", func := "raddle/raddlelaw08.MaskDown", spec := "maskDown", unfollowed := true, recurses := true, apart := false }
def MaskDownSaid : Prop := maskDownRow.holds Try.pinned (OpenSpec.ofChange maskDownSpec)

/-- ITS FALSE NEIGHBOUR: 'it returns false'. Refute it at one input. -/
def maskDownWrong : ChangeSpec := { name := "maskDown", fn := fun _ => fun
  | [d1, d2, d3] => { results := [.lit (.bool false)], args := [d1, d2, d3] }
  | _ => none }
def MaskDownWrongFalsely : Prop := maskDownRow.holds Try.pinned (OpenSpec.ofChange maskDownWrong)

/-- 'raddlelaw08.MaskWith': WHATEVER THE INPUT: true; the input reads as it did. -/
def maskWithSpec : ChangeSpec := { name := "maskWith", fn := fun _ => fun
  | [d1, d2, d3, d4] => { results := [.lit (.bool true)], args := [d1, d2, d3, d4] }
  | _ => none }
def maskWithRow : OpenClaim := { program := "ytinpbnkmpplkiab", sum := "185876b9409c6169c3315c07442ff61eea31ed2e1650f64ee7fd48b51cd2134f", func := "raddle/raddlelaw08.MaskWith", spec := "maskWith", unfollowed := true, recurses := true, apart := false }
def MaskWithSaid : Prop := maskWithRow.holds Try.pinned (OpenSpec.ofChange maskWithSpec)

/-- ITS FALSE NEIGHBOUR: 'it returns false'. Refute it at one input. -/
def maskWithWrong : ChangeSpec := { name := "maskWith", fn := fun _ => fun
  | [d1, d2, d3, d4] => { results := [.lit (.bool false)], args := [d1, d2, d3, d4] }
  | _ => none }
def MaskWithWrongFalsely : Prop := maskWithRow.holds Try.pinned (OpenSpec.ofChange maskWithWrong)

/- THE SECOND FORM. 'bulk': how many values and letters a reading holds, each counted each time it is reached (what is shared counts as often as it is met; a slice's spare places count too). A statement '..UptoSaid' is the law's where the arguments, and the package variables that the reading takes, are together of bulk at most 1048576: NARROWER than '..Said'. Prove '..Said' where nothing that the law and all that it calls make is longer than what came in: it says more and counts as full. Else prove '..UptoSaid'. A law counts once. -/
mutual
def uptoBulk {H : Type} : DataW H → Nat
  | .lit (.string bytes) => bytes.length + 1
  | .lit _ => 1
  | .nil => 1
  | .ptr d => uptoBulk d + 1
  | .slice elems spare => uptoBulkAll elems + uptoBulkAll spare + 1
  | .agg parts => uptoBulkAll parts + 1
  | .iface _ d => uptoBulk d + 1
  | .map entries => uptoBulkEntries entries + 1
  | .held _ => 1
def uptoBulkAll {H : Type} : List (DataW H) → Nat
  | [] => 0
  | d :: r => uptoBulk d + uptoBulkAll r
def uptoBulkEntries {H : Type} : List (Lit × DataW H) → Nat
  | [] => 0
  | x :: r => uptoBulkEntry x + uptoBulkEntries r
def uptoBulkEntry {H : Type} : Lit × DataW H → Nat
  | (.string bytes, d) => bytes.length + uptoBulk d + 1
  | (_, d) => uptoBulk d + 1
 end
def uptoSmall : (H : Type) → List (DataW H) → Bool := fun _ ds => decide (uptoBulkAll ds ≤ 1048576)
def OpenSpec.upto (s : _root_.Go.ChangeSpec) : _root_.Go.OpenSpec := { _root_.Go.OpenSpec.ofChange s with cond := some uptoSmall }

/-- 'raddlelaw08.MaskTells', WHERE WHAT IT READS IS OF BULK AT MOST 1048576: true; the input reads as it did. -/
def maskTellsUptoRow : OpenClaim := { program := "ytinpbnkmpplkiab", sum := "185876b9409c6169c3315c07442ff61eea31ed2e1650f64ee7fd48b51cd2134f", func := "raddle/raddlelaw08.MaskTells", spec := "maskTells", unfollowed := true, recurses := true, apart := false, narrowed := true }
def MaskTellsUptoSaid : Prop := maskTellsUptoRow.holds Try.pinned (OpenSpec.upto maskTellsSpec)

/-- 'raddlelaw08.MaskGoes', WHERE WHAT IT READS IS OF BULK AT MOST 1048576: true; the input reads as it did. -/
def maskGoesUptoRow : OpenClaim := { program := "ytinpbnkmpplkiab", sum := "185876b9409c6169c3315c07442ff61eea31ed2e1650f64ee7fd48b51cd2134f", func := "raddle/raddlelaw08.MaskGoes", spec := "maskGoes", unfollowed := true, recurses := true, apart := false, narrowed := true }
def MaskGoesUptoSaid : Prop := maskGoesUptoRow.holds Try.pinned (OpenSpec.upto maskGoesSpec)

/-- 'raddlelaw08.MaskBack', WHERE WHAT IT READS IS OF BULK AT MOST 1048576: true; the input reads as it did. -/
def maskBackUptoRow : OpenClaim := { program := "ytinpbnkmpplkiab", sum := "185876b9409c6169c3315c07442ff61eea31ed2e1650f64ee7fd48b51cd2134f", func := "raddle/raddlelaw08.MaskBack", spec := "maskBack", unfollowed := true, recurses := true, apart := false, narrowed := true }
def MaskBackUptoSaid : Prop := maskBackUptoRow.holds Try.pinned (OpenSpec.upto maskBackSpec)

/-- 'raddlelaw08.MaskDown', WHERE WHAT IT READS IS OF BULK AT MOST 1048576: true; the input reads as it did. -/
def maskDownUptoRow : OpenClaim := { program := "ytinpbnkmpplkiab", sum := "185876b9409c6169c3315c07442ff61eea31ed2e1650f64ee7fd48b51cd2134f", func := "raddle/raddlelaw08.MaskDown", spec := "maskDown", unfollowed := true, recurses := true, apart := false, narrowed := true }
def MaskDownUptoSaid : Prop := maskDownUptoRow.holds Try.pinned (OpenSpec.upto maskDownSpec)

/-- 'raddlelaw08.MaskWith', WHERE WHAT IT READS IS OF BULK AT MOST 1048576: true; the input reads as it did. -/
def maskWithUptoRow : OpenClaim := { program := "ytinpbnkmpplkiab", sum := "185876b9409c6169c3315c07442ff61eea31ed2e1650f64ee7fd48b51cd2134f", func := "raddle/raddlelaw08.MaskWith", spec := "maskWith", unfollowed := true, recurses := true, apart := false, narrowed := true }
def MaskWithUptoSaid : Prop := maskWithUptoRow.holds Try.pinned (OpenSpec.upto maskWithSpec)

end Rows
end Go.Proofs.Ytinpbnkmpplkiab
