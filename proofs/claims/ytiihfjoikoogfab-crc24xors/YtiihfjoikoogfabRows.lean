/-
  No cell of these rows narrows 'for every input' (looked for: loops, veiled, ifaces, maps, wideKeys, modest, calm, conditions, laid).
  DERIVED. THE GIVEN ROWS OF THIS SEAT. 4 by the template 'for every input the law returns true; each argument reads behind the call as it read before'; 0 by the template 'total and deterministic' (their statements: YtiihfjoikoogfabTotals.lean).
  GIVEN WITH THE SEED: the statements are not yours to turn. If you find one false, say at which input.
  Laid BY PROGRAM, IN A SANDBOX (cutbox-rows.mjs): the forced cells as the released guide's own fill.sh prints them over the translation 79afa5363fe6287f… (all of the seat's roots in one cut). By AI agents, Wed Nov 11 2026. No macro, syntax, notation, axiom, sorry.
-/
import Derived.Test.YtiihfjoikoogfabChecked
import GoSem.Claim
import GoSem.ClaimJoined
import GoSem.ClaimMapViews
import Derived.JoinedTies
import Derived.KernelRfl
namespace Go.Proofs.Ytiihfjoikoogfab
/- THE CELL 'sum', in the pinned program and in every row, IS THE sha256 OF THE DUMP (.gsa) THAT YtiihfjoikoogfabProg.lean LOADS. Nothing in Lean hashes anything: it is a label: what it is worth is what the hold of that sum in a sandbox is worth. -/
noncomputable def Try.pinned : Pinned := { name := "ytiihfjoikoogfab", sum := "79afa5363fe6287f28d22be820c0cedbebcc0a9dfb6eee97c213445776ad401d", checked := Try.checked }
namespace Rows
def none {H : Type} : Left H := { results := [], args := [] }

/-- 'raddlelaw02.Crc24Sums': WHATEVER THE INPUT: true; the input reads as it did. -/
def crc24SumsSpec : ChangeSpec := { name := "crc24Sums", fn := fun _ => fun
  | [d1, d2] => { results := [.lit (.bool true)], args := [d1, d2] }
  | _ => none }
def crc24SumsRow : OpenClaim := { program := "ytiihfjoikoogfab", sum := "79afa5363fe6287f28d22be820c0cedbebcc0a9dfb6eee97c213445776ad401d", func := "raddle/raddlelaw02.Crc24Sums", spec := "crc24Sums", unfollowed := true, recurses := true, apart := false }
def Crc24SumsSaid : Prop := crc24SumsRow.holds Try.pinned (OpenSpec.ofChange crc24SumsSpec)

/-- ITS FALSE NEIGHBOUR: 'it returns false'. Refute it at one input. -/
def crc24SumsWrong : ChangeSpec := { name := "crc24Sums", fn := fun _ => fun
  | [d1, d2] => { results := [.lit (.bool false)], args := [d1, d2] }
  | _ => none }
def Crc24SumsWrongFalsely : Prop := crc24SumsRow.holds Try.pinned (OpenSpec.ofChange crc24SumsWrong)

/-- 'raddlelaw02.Crc24Cuts': WHATEVER THE INPUT: true; the input reads as it did. -/
def crc24CutsSpec : ChangeSpec := { name := "crc24Cuts", fn := fun _ => fun
  | [d1, d2] => { results := [.lit (.bool true)], args := [d1, d2] }
  | _ => none }
def crc24CutsRow : OpenClaim := { program := "ytiihfjoikoogfab", sum := "79afa5363fe6287f28d22be820c0cedbebcc0a9dfb6eee97c213445776ad401d", func := "raddle/raddlelaw02.Crc24Cuts", spec := "crc24Cuts", unfollowed := true, recurses := true, apart := false }
def Crc24CutsSaid : Prop := crc24CutsRow.holds Try.pinned (OpenSpec.ofChange crc24CutsSpec)

/-- ITS FALSE NEIGHBOUR: 'it returns false'. Refute it at one input. -/
def crc24CutsWrong : ChangeSpec := { name := "crc24Cuts", fn := fun _ => fun
  | [d1, d2] => { results := [.lit (.bool false)], args := [d1, d2] }
  | _ => none }
def Crc24CutsWrongFalsely : Prop := crc24CutsRow.holds Try.pinned (OpenSpec.ofChange crc24CutsWrong)

/-- 'raddlelaw02.Crc24Bursts': WHATEVER THE INPUT: true; the input reads as it did. -/
def crc24BurstsSpec : ChangeSpec := { name := "crc24Bursts", fn := fun _ => fun
  | [d1, d2, d3] => { results := [.lit (.bool true)], args := [d1, d2, d3] }
  | _ => none }
def crc24BurstsRow : OpenClaim := { program := "ytiihfjoikoogfab", sum := "79afa5363fe6287f28d22be820c0cedbebcc0a9dfb6eee97c213445776ad401d", func := "raddle/raddlelaw02.Crc24Bursts", spec := "crc24Bursts", unfollowed := true, recurses := true, apart := false }
def Crc24BurstsSaid : Prop := crc24BurstsRow.holds Try.pinned (OpenSpec.ofChange crc24BurstsSpec)

/-- ITS FALSE NEIGHBOUR: 'it returns false'. Refute it at one input. -/
def crc24BurstsWrong : ChangeSpec := { name := "crc24Bursts", fn := fun _ => fun
  | [d1, d2, d3] => { results := [.lit (.bool false)], args := [d1, d2, d3] }
  | _ => none }
def Crc24BurstsWrongFalsely : Prop := crc24BurstsRow.holds Try.pinned (OpenSpec.ofChange crc24BurstsWrong)

/-- 'raddlelaw02.Crc24Xors': WHATEVER THE INPUT: true; the input reads as it did. -/
def crc24XorsSpec : ChangeSpec := { name := "crc24Xors", fn := fun _ => fun
  | [d1, d2, d3] => { results := [.lit (.bool true)], args := [d1, d2, d3] }
  | _ => none }
def crc24XorsRow : OpenClaim := { program := "ytiihfjoikoogfab", sum := "79afa5363fe6287f28d22be820c0cedbebcc0a9dfb6eee97c213445776ad401d", func := "raddle/raddlelaw02.Crc24Xors", spec := "crc24Xors", unfollowed := true, recurses := true, apart := false }
def Crc24XorsSaid : Prop := crc24XorsRow.holds Try.pinned (OpenSpec.ofChange crc24XorsSpec)

/-- ITS FALSE NEIGHBOUR: 'it returns false'. Refute it at one input. -/
def crc24XorsWrong : ChangeSpec := { name := "crc24Xors", fn := fun _ => fun
  | [d1, d2, d3] => { results := [.lit (.bool false)], args := [d1, d2, d3] }
  | _ => none }
def Crc24XorsWrongFalsely : Prop := crc24XorsRow.holds Try.pinned (OpenSpec.ofChange crc24XorsWrong)

/- THE SECOND FORM. 'bulk': how many values and letters a reading holds, each counted each time it is reached (what is shared counts as often as it is met; a slice's spare places count too). A statement '..UptoSaid' is the law's where the arguments, and the package variables that the reading takes, are together of bulk at most 1048576: NARROWER than '..Said'. Prove '..Said' where nothing that the law and all that it calls make is longer than what came in: it says more and counts as full. Else prove '..UptoSaid'. A law counts once. -/
mutual
def uptoBulk {H : Type} : DataW H → Nat
  | .lit (.string bytes) => bytes.length + 1
  | .lit _ => 1
  | .nil => 1
  | .ptr d => uptoBulk d + 1
  | .slice elems spare => uptoBulkAll elems + uptoBulkAll spare + 1
  | .agg parts => uptoBulkAll parts + 1
  | .iface _ d => uptoBulk d + 1
  | .map entries => uptoBulkEntries entries + 1
  | .held _ => 1
def uptoBulkAll {H : Type} : List (DataW H) → Nat
  | [] => 0
  | d :: r => uptoBulk d + uptoBulkAll r
def uptoBulkEntries {H : Type} : List (Lit × DataW H) → Nat
  | [] => 0
  | x :: r => uptoBulkEntry x + uptoBulkEntries r
def uptoBulkEntry {H : Type} : Lit × DataW H → Nat
  | (.string bytes, d) => bytes.length + uptoBulk d + 1
  | (_, d) => uptoBulk d + 1
 end
def uptoSmall : (H : Type) → List (DataW H) → Bool := fun _ ds => decide (uptoBulkAll ds ≤ 1048576)
def OpenSpec.upto (s : _root_.Go.ChangeSpec) : _root_.Go.OpenSpec := { _root_.Go.OpenSpec.ofChange s with cond := some uptoSmall }

/-- 'raddlelaw02.Crc24Sums', WHERE WHAT IT READS IS OF BULK AT MOST 1048576: true; the input reads as it did. -/
def crc24SumsUptoRow : OpenClaim := { program := "ytiihfjoikoogfab", sum := "79afa5363fe6287f28d22be820c0cedbebcc0a9dfb6eee97c213445776ad401d", func := "raddle/raddlelaw02.Crc24Sums", spec := "crc24Sums", unfollowed := true, recurses := true, apart := false, narrowed := true }
def Crc24SumsUptoSaid : Prop := crc24SumsUptoRow.holds Try.pinned (OpenSpec.upto crc24SumsSpec)

/-- 'raddlelaw02.Crc24Cuts', WHERE WHAT IT READS IS OF BULK AT MOST 1048576: true; the input reads as it did. -/
def crc24CutsUptoRow : OpenClaim := { program := "ytiihfjoikoogfab", sum := "79afa5363fe6287f28d22be820c0cedbebcc0a9dfb6eee97c213445776ad401d", func := "raddle/raddlelaw02.Crc24Cuts", spec := "crc24Cuts", unfollowed := true, recurses := true, apart := false, narrowed := true }
def Crc24CutsUptoSaid : Prop := crc24CutsUptoRow.holds Try.pinned (OpenSpec.upto crc24CutsSpec)

/-- 'raddlelaw02.Crc24Bursts', WHERE WHAT IT READS IS OF BULK AT MOST 1048576: true; the input reads as it did. -/
def crc24BurstsUptoRow : OpenClaim := { program := "ytiihfjoikoogfab", sum := "79afa5363fe6287f28d22be820c0cedbebcc0a9dfb6eee97c213445776ad401d", func := "raddle/raddlelaw02.Crc24Bursts", spec := "crc24Bursts", unfollowed := true, recurses := true, apart := false, narrowed := true }
def Crc24BurstsUptoSaid : Prop := crc24BurstsUptoRow.holds Try.pinned (OpenSpec.upto crc24BurstsSpec)

/-- 'raddlelaw02.Crc24Xors', WHERE WHAT IT READS IS OF BULK AT MOST 1048576: true; the input reads as it did. -/
def crc24XorsUptoRow : OpenClaim := { program := "ytiihfjoikoogfab", sum := "79afa5363fe6287f28d22be820c0cedbebcc0a9dfb6eee97c213445776ad401d", func := "raddle/raddlelaw02.Crc24Xors", spec := "crc24Xors", unfollowed := true, recurses := true, apart := false, narrowed := true }
def Crc24XorsUptoSaid : Prop := crc24XorsUptoRow.holds Try.pinned (OpenSpec.upto crc24XorsSpec)

end Rows
end Go.Proofs.Ytiihfjoikoogfab
