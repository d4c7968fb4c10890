/- A region that draws its order where two operations are ready at once: both ways. -/
import Derived.Test.YtfaagiilldkdgaaHeld
namespace Go.Proofs.Ytfaagiilldkdgaa
open Go Go.RowKit
section
variable {P : Program} {ops : Array Oper} {Q : Exit → Act → World → Prop}
def StepS (P : Program) (ops : Array Oper) (Q : Exit → Act → World → Prop) (S : World → Prop) (fuel : Nat) (listed : Array Bool) (i : Nat) (a : Act) (w : World) : Prop :=
  wpOp P ops (NoPanic Q) i (fun a' w' => S w' ∧ wpAnyH P .any ops (NoPanic Q) S fuel (listed.setIfInBounds i true) a' w') a w
theorem hs_fork {i j : Nat} {S : World → Prop} {fuel : Nat} {listed : Array Bool} {a : Act} {w : World} (hr : Region.ready .any ops listed = [i, j])
    (h1 : StepS P ops Q S fuel listed i a w) (h2 : StepS P ops Q S fuel listed j a w) : HeldS P ops Q S (fuel + 1) listed a w := by
  refine wpAnyH_all hr (by simp) ?_
  intro k hk
  rcases List.mem_cons.1 hk with rfl | hk
  · exact h1
  · obtain rfl := List.mem_singleton.1 hk
    exact h2
theorem st_call {i : Nat} {S : World → Prop} {oi : Oper} {d : Option Nat} {f : FuncId} {args : Array Value} {fuel : Nat} {listed : Array Bool} {a : Act} {w : World} (hi : ops[i]? = some oi)
    (hw : Region.wanted oi (yielded ops a.tmps) = true) (hy : (execOp a.eval oi).run P w = .ok (.enter f args) w) (hdst : oi.dst = d)
    (h : Calls P f args w fun e w' => ∃ v, e = .returned v ∧ S w' ∧ HeldS P ops Q S fuel (listed.setIfInBounds i true) (a.put d v) w') : StepS P ops Q S fuel listed i a w := by
  subst hdst
  unfold StepS wpOp
  simp only [hi, hw, if_true]
  left
  unfold Oper.wp
  rw [hy]
  refine h.mono ?_
  rintro e w' ⟨v, rfl, hb, hk⟩
  exact ⟨hb, hk⟩
theorem st_run {i : Nat} {S : World → Prop} {oi : Oper} {d : Option Nat} {v : Value} {fuel : Nat} {listed : Array Bool} {a : Act} {w w' : World} (hi : ops[i]? = some oi)
    (hw : Region.wanted oi (yielded ops a.tmps) = true) (hy : (execOp a.eval oi).run P w = .ok (.value v) w') (hdst : oi.dst = d)
    (hS : S w') (h : HeldS P ops Q S fuel (listed.setIfInBounds i true) (a.put d v) w') : StepS P ops Q S fuel listed i a w := by
  subst hdst
  unfold StepS wpOp
  simp only [hi, hw, if_true]
  left
  unfold Oper.wp
  rw [hy]
  exact ⟨hS, h⟩
end
end Go.Proofs.Ytfaagiilldkdgaa
