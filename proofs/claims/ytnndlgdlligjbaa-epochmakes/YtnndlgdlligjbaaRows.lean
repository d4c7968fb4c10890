/-
  No cell of these rows narrows 'for every input' (looked for: loops, veiled, ifaces, maps, wideKeys, modest, calm, conditions, laid).
  DERIVED. THE GIVEN ROWS OF THIS SEAT. 6 by the template 'for every input the law returns true; each argument reads behind the call as it read before'; 0 by the template 'total and deterministic' (their statements: YtnndlgdlligjbaaTotals.lean).
  GIVEN WITH THE SEED: the statements are not yours to turn. If you find one false, say at which input.
  Laid BY PROGRAM, IN A SANDBOX (cutbox-rows.mjs): the forced cells as the released guide's own fill.sh prints them over the translation 22e927114e93a34f… (all of the seat's roots in one cut). By AI agents, Wed Nov 11 2026. No macro, syntax, notation, axiom, sorry.
-/
import Derived.Test.YtnndlgdlligjbaaChecked
import GoSem.Claim
import GoSem.ClaimJoined
import GoSem.ClaimMapViews
import Derived.JoinedTies
import Derived.KernelRfl
namespace Go.Proofs.Ytnndlgdlligjbaa
/- THE CELL 'sum', in the pinned program and in every row, IS THE sha256 OF THE DUMP (.gsa) THAT YtnndlgdlligjbaaProg.lean LOADS. Nothing in Lean hashes anything: it is a label: what it is worth is what the hold of that sum in a sandbox is worth. -/
noncomputable def Try.pinned : Pinned := { name := "ytnndlgdlligjbaa", sum := "22e927114e93a34fb831516d1f1d9554542cbae7ab06f1fa2884d472a87228b6", checked := Try.checked }
namespace Rows
def none {H : Type} : Left H := { results := [], args := [] }

/-- 'raddlelaw11.LeadersTell': WHATEVER THE INPUT: true; the input reads as it did. -/
def leadersTellSpec : ChangeSpec := { name := "leadersTell", fn := fun _ => fun
  | [d1, d2, d3, d4, d5] => { results := [.lit (.bool true)], args := [d1, d2, d3, d4, d5] }
  | _ => none }
def leadersTellRow : OpenClaim := { program := "ytnndlgdlligjbaa", sum := "22e927114e93a34fb831516d1f1d9554542cbae7ab06f1fa2884d472a87228b6", func := "raddle/raddlelaw11.LeadersTell", spec := "leadersTell", unfollowed := true, recurses := true, apart := false }
def LeadersTellSaid : Prop := leadersTellRow.holds Try.pinned (OpenSpec.ofChange leadersTellSpec)

/-- ITS FALSE NEIGHBOUR: 'it returns false'. Refute it at one input. -/
def leadersTellWrong : ChangeSpec := { name := "leadersTell", fn := fun _ => fun
  | [d1, d2, d3, d4, d5] => { results := [.lit (.bool false)], args := [d1, d2, d3, d4, d5] }
  | _ => none }
def LeadersTellWrongFalsely : Prop := leadersTellRow.holds Try.pinned (OpenSpec.ofChange leadersTellWrong)

/-- 'raddlelaw11.LeadersOne': WHATEVER THE INPUT: true; the input reads as it did. -/
def leadersOneSpec : ChangeSpec := { name := "leadersOne", fn := fun _ => fun
  | [d1, d2, d3] => { results := [.lit (.bool true)], args := [d1, d2, d3] }
  | _ => none }
def leadersOneRow : OpenClaim := { program := "ytnndlgdlligjbaa", sum := "22e927114e93a34fb831516d1f1d9554542cbae7ab06f1fa2884d472a87228b6", func := "raddle/raddlelaw11.LeadersOne", spec := "leadersOne", unfollowed := true, recurses := true, apart := false }
def LeadersOneSaid : Prop := leadersOneRow.holds Try.pinned (OpenSpec.ofChange leadersOneSpec)

/-- ITS FALSE NEIGHBOUR: 'it returns false'. Refute it at one input. -/
def leadersOneWrong : ChangeSpec := { name := "leadersOne", fn := fun _ => fun
  | [d1, d2, d3] => { results := [.lit (.bool false)], args := [d1, d2, d3] }
  | _ => none }
def LeadersOneWrongFalsely : Prop := leadersOneRow.holds Try.pinned (OpenSpec.ofChange leadersOneWrong)

/-- 'raddlelaw11.LeadersRound': WHATEVER THE INPUT: true; the input reads as it did. -/
def leadersRoundSpec : ChangeSpec := { name := "leadersRound", fn := fun _ => fun
  | [d1, d2, d3, d4, d5] => { results := [.lit (.bool true)], args := [d1, d2, d3, d4, d5] }
  | _ => none }
def leadersRoundRow : OpenClaim := { program := "ytnndlgdlligjbaa", sum := "22e927114e93a34fb831516d1f1d9554542cbae7ab06f1fa2884d472a87228b6", func := "raddle/raddlelaw11.LeadersRound", spec := "leadersRound", unfollowed := true, recurses := true, apart := false }
def LeadersRoundSaid : Prop := leadersRoundRow.holds Try.pinned (OpenSpec.ofChange leadersRoundSpec)

/-- ITS FALSE NEIGHBOUR: 'it returns false'. Refute it at one input. -/
def leadersRoundWrong : ChangeSpec := { name := "leadersRound", fn := fun _ => fun
  | [d1, d2, d3, d4, d5] => { results := [.lit (.bool false)], args := [d1, d2, d3, d4, d5] }
  | _ => none }
def LeadersRoundWrongFalsely : Prop := leadersRoundRow.holds Try.pinned (OpenSpec.ofChange leadersRoundWrong)

/-- 'raddlelaw11.LeadersBack': WHATEVER THE INPUT: true; the input reads as it did. -/
def leadersBackSpec : ChangeSpec := { name := "leadersBack", fn := fun _ => fun
  | [d1, d2, d3, d4, d5] => { results := [.lit (.bool true)], args := [d1, d2, d3, d4, d5] }
  | _ => none }
def leadersBackRow : OpenClaim := { program := "ytnndlgdlligjbaa", sum := "22e927114e93a34fb831516d1f1d9554542cbae7ab06f1fa2884d472a87228b6", func := "raddle/raddlelaw11.LeadersBack", spec := "leadersBack", unfollowed := true, recurses := true, apart := false }
def LeadersBackSaid : Prop := leadersBackRow.holds Try.pinned (OpenSpec.ofChange leadersBackSpec)

/-- ITS FALSE NEIGHBOUR: 'it returns false'. Refute it at one input. -/
def leadersBackWrong : ChangeSpec := { name := "leadersBack", fn := fun _ => fun
  | [d1, d2, d3, d4, d5] => { results := [.lit (.bool false)], args := [d1, d2, d3, d4, d5] }
  | _ => none }
def LeadersBackWrongFalsely : Prop := leadersBackRow.holds Try.pinned (OpenSpec.ofChange leadersBackWrong)

/-- 'raddlelaw11.LeadersFew': WHATEVER THE INPUT: true; the input reads as it did. -/
def leadersFewSpec : ChangeSpec := { name := "leadersFew", fn := fun _ => fun
  | [d1, d2, d3] => { results := [.lit (.bool true)], args := [d1, d2, d3] }
  | _ => none }
def leadersFewRow : OpenClaim := { program := "ytnndlgdlligjbaa", sum := "22e927114e93a34fb831516d1f1d9554542cbae7ab06f1fa2884d472a87228b6", func := "raddle/raddlelaw11.LeadersFew", spec := "leadersFew", unfollowed := true, recurses := true, apart := false }
def LeadersFewSaid : Prop := leadersFewRow.holds Try.pinned (OpenSpec.ofChange leadersFewSpec)

/-- ITS FALSE NEIGHBOUR: 'it returns false'. Refute it at one input. -/
def leadersFewWrong : ChangeSpec := { name := "leadersFew", fn := fun _ => fun
  | [d1, d2, d3] => { results := [.lit (.bool false)], args := [d1, d2, d3] }
  | _ => none }
def LeadersFewWrongFalsely : Prop := leadersFewRow.holds Try.pinned (OpenSpec.ofChange leadersFewWrong)

/-- 'raddlelaw12.EpochMakes': WHATEVER THE INPUT: true; the input reads as it did. -/
def epochMakesSpec : ChangeSpec := { name := "epochMakes", fn := fun _ => fun
  | [d1, d2, d3, d4] => { results := [.lit (.bool true)], args := [d1, d2, d3, d4] }
  | _ => none }
def epochMakesRow : OpenClaim := { program := "ytnndlgdlligjbaa", sum := "22e927114e93a34fb831516d1f1d9554542cbae7ab06f1fa2884d472a87228b6", func := "raddle/raddlelaw12.EpochMakes", spec := "epochMakes", unfollowed := true, recurses := true, apart := false }
def EpochMakesSaid : Prop := epochMakesRow.holds Try.pinned (OpenSpec.ofChange epochMakesSpec)

/-- ITS FALSE NEIGHBOUR: 'it returns false'. Refute it at one input. -/
def epochMakesWrong : ChangeSpec := { name := "epochMakes", fn := fun _ => fun
  | [d1, d2, d3, d4] => { results := [.lit (.bool false)], args := [d1, d2, d3, d4] }
  | _ => none }
def EpochMakesWrongFalsely : Prop := epochMakesRow.holds Try.pinned (OpenSpec.ofChange epochMakesWrong)

/- THE SECOND FORM. 'bulk': how many values and letters a reading holds, each counted each time it is reached (what is shared counts as often as it is met; a slice's spare places count too). A statement '..UptoSaid' is the law's where the arguments, and the package variables that the reading takes, are together of bulk at most 1048576: NARROWER than '..Said'. Prove '..Said' where nothing that the law and all that it calls make is longer than what came in: it says more and counts as full. Else prove '..UptoSaid'. A law counts once. -/
mutual
def uptoBulk {H : Type} : DataW H → Nat
  | .lit (.string bytes) => bytes.length + 1
  | .lit _ => 1
  | .nil => 1
  | .ptr d => uptoBulk d + 1
  | .slice elems spare => uptoBulkAll elems + uptoBulkAll spare + 1
  | .agg parts => uptoBulkAll parts + 1
  | .iface _ d => uptoBulk d + 1
  | .map entries => uptoBulkEntries entries + 1
  | .held _ => 1
def uptoBulkAll {H : Type} : List (DataW H) → Nat
  | [] => 0
  | d :: r => uptoBulk d + uptoBulkAll r
def uptoBulkEntries {H : Type} : List (Lit × DataW H) → Nat
  | [] => 0
  | x :: r => uptoBulkEntry x + uptoBulkEntries r
def uptoBulkEntry {H : Type} : Lit × DataW H → Nat
  | (.string bytes, d) => bytes.length + uptoBulk d + 1
  | (_, d) => uptoBulk d + 1
 end
def uptoSmall : (H : Type) → List (DataW H) → Bool := fun _ ds => decide (uptoBulkAll ds ≤ 1048576)
def OpenSpec.upto (s : _root_.Go.ChangeSpec) : _root_.Go.OpenSpec := { _root_.Go.OpenSpec.ofChange s with cond := some uptoSmall }

/-- 'raddlelaw11.LeadersTell', WHERE WHAT IT READS IS OF BULK AT MOST 1048576: true; the input reads as it did. -/
def leadersTellUptoRow : OpenClaim := { program := "ytnndlgdlligjbaa", sum := "22e927114e93a34fb831516d1f1d9554542cbae7ab06f1fa2884d472a87228b6", func := "raddle/raddlelaw11.LeadersTell", spec := "leadersTell", unfollowed := true, recurses := true, apart := false, narrowed := true }
def LeadersTellUptoSaid : Prop := leadersTellUptoRow.holds Try.pinned (OpenSpec.upto leadersTellSpec)

/-- 'raddlelaw11.LeadersOne', WHERE WHAT IT READS IS OF BULK AT MOST 1048576: true; the input reads as it did. -/
def leadersOneUptoRow : OpenClaim := { program := "ytnndlgdlligjbaa", sum := "22e927114e93a34fb831516d1f1d9554542cbae7ab06f1fa2884d472a87228b6", func := "raddle/raddlelaw11.LeadersOne", spec := "leadersOne", unfollowed := true, recurses := true, apart := false, narrowed := true }
def LeadersOneUptoSaid : Prop := leadersOneUptoRow.holds Try.pinned (OpenSpec.upto leadersOneSpec)

/-- 'raddlelaw11.LeadersRound', WHERE WHAT IT READS IS OF BULK AT MOST 1048576: true; the input reads as it did. -/
def leadersRoundUptoRow : OpenClaim := { program := "ytnndlgdlligjbaa", sum := "22e927114e93a34fb831516d1f1d9554542cbae7ab06f1fa2884d472a87228b6", func := "raddle/raddlelaw11.LeadersRound", spec := "leadersRound", unfollowed := true, recurses := true, apart := false, narrowed := true }
def LeadersRoundUptoSaid : Prop := leadersRoundUptoRow.holds Try.pinned (OpenSpec.upto leadersRoundSpec)

/-- 'raddlelaw11.LeadersBack', WHERE WHAT IT READS IS OF BULK AT MOST 1048576: true; the input reads as it did. -/
def leadersBackUptoRow : OpenClaim := { program := "ytnndlgdlligjbaa", sum := "22e927114e93a34fb831516d1f1d9554542cbae7ab06f1fa2884d472a87228b6", func := "raddle/raddlelaw11.LeadersBack", spec := "leadersBack", unfollowed := true, recurses := true, apart := false, narrowed := true }
def LeadersBackUptoSaid : Prop := leadersBackUptoRow.holds Try.pinned (OpenSpec.upto leadersBackSpec)

/-- 'raddlelaw11.LeadersFew', WHERE WHAT IT READS IS OF BULK AT MOST 1048576: true; the input reads as it did. -/
def leadersFewUptoRow : OpenClaim := { program := "ytnndlgdlligjbaa", sum := "22e927114e93a34fb831516d1f1d9554542cbae7ab06f1fa2884d472a87228b6", func := "raddle/raddlelaw11.LeadersFew", spec := "leadersFew", unfollowed := true, recurses := true, apart := false, narrowed := true }
def LeadersFewUptoSaid : Prop := leadersFewUptoRow.holds Try.pinned (OpenSpec.upto leadersFewSpec)

/-- 'raddlelaw12.EpochMakes', WHERE WHAT IT READS IS OF BULK AT MOST 1048576: true; the input reads as it did. -/
def epochMakesUptoRow : OpenClaim := { program := "ytnndlgdlligjbaa", sum := "22e927114e93a34fb831516d1f1d9554542cbae7ab06f1fa2884d472a87228b6", func := "raddle/raddlelaw12.EpochMakes", spec := "epochMakes", unfollowed := true, recurses := true, apart := false, narrowed := true }
def EpochMakesUptoSaid : Prop := epochMakesUptoRow.holds Try.pinned (OpenSpec.upto epochMakesSpec)

end Rows
end Go.Proofs.Ytnndlgdlligjbaa
