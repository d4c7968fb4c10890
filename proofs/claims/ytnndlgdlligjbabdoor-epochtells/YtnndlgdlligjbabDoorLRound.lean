/- a drawn region within a round of a loop over an iterator: walked as outside -/
import Derived.Test.YtnndlgdlligjbabDoorHeld
import Derived.OrdersIn
import Derived.RangeFuncCalls
namespace Go.Proofs.YtnndlgdlligjbabDoor.Ld
open Go Go.RowKit
section
variable {P : Program} {ops : Array Oper} {Q : Exit → Act → World → Prop}
def Oper.plain (o : Oper) : Bool := match o.op with | .defer _ => false | _ => true
theorem op_round {o : Oper} {a : Act} {w : World} {K K' : Act → World → Prop} (l n : Nat) (hd : Oper.plain o = true) (hK : ∀ a w, K a w → K' a w) (h : o.wp P a w K Q) : o.wpIn (Fence.wide.inRound l) n P a w K' Q := by
  refine ⟨fun f _ => trivial, ?_⟩
  rw [Oper.semAt_eq _ _ _ (fun c e => by rw [Oper.plain, e] at hd; cases hd)]
  unfold Oper.wp at h
  generalize (execOp a.eval o).run P w = r at h
  match r, h with
  | .ok (.value v) w', h => exact hK _ _ h
  | .ok .skip w', h => exact hK _ _ h
  | .ok (.defer d) w', h => exact hK _ _ h
  | .ok (.enter f args) w', h =>
    refine ⟨fun e => by simp [Fence.wide, Fence.inRound] at e, ?_⟩
    refine CallsIn.inRound l ((callsIn_wide (n := n - 1)).2 (Calls.mono h ?_))
    intro e w'' he
    match e, he with
    | .returned v, he => exact hK _ _ he
    | .panicked c, he => exact he
    | .outgrown, he => exact he
  | .ok (.row row args) w', h =>
    refine ⟨fun e => by simp [Fence.wide, Fence.inRound] at e, ?_⟩
    intro c cs _
    obtain ⟨v, w'', r, s⟩ := h c cs
    exact ⟨v, w'', hK _ _ r, stepsIn_wide.2 s⟩
  | .halt (.panic v) w', h => exact h
theorem any_round (l n : Nat) (hd : ops.all Oper.plain = true) (hno : ¬ LetsOut Q) : ∀ (fuel : Nat) (listed : Array Bool) (a : Act) (w : World), wpAny P .any ops Q fuel listed a w → wpAnyIn (Fence.wide.inRound l) n P .any ops Q fuel listed a w
  | 0, _, _, _, h => h
  | fuel + 1, listed, a, w, h => by
    refine ⟨h.1, fun i hi => ?_⟩
    have h2 := h.2 i hi
    unfold wpOp at h2
    unfold wpOpIn
    cases ho : ops[i]? with
    | none => rw [ho] at h2; exact any_round l n hd hno fuel _ _ _ h2
    | some o =>
      rw [ho] at h2
      have hp : Oper.plain o = true := Array.all_eq_true_iff_forall_mem.1 hd o (Array.mem_of_getElem? ho)
      simp only [] at h2 ⊢
      split at h2
      · rename_i hw
        rw [if_pos hw]
        rcases h2 with h2 | ⟨_, h2⟩
        · exact op_round l n hp (fun a w => any_round l n hd hno fuel _ a w) h2
        · exact (hno h2).elim
      · rename_i hw
        rw [if_neg hw]
        exact ⟨fun _ _ => trivial, any_round l n hd hno fuel _ _ _ h2⟩
theorem hi_begin {id l n : Nat} {S : World → Prop} {a : Act} {w : World} (m : Nat) (hn : ops.size = m) (hm : P.follows .mixedOrders = true) (hd : ops.all Oper.plain = true) (hno : ¬ LetsOut Q)
    (h : HeldS P ops Q S m (Array.replicate m false) a w.drew) : (Code.region id ops true).wpIn (Fence.wide.inRound l) n P Q a w := by
  subst hn
  have hno' : ¬ LetsOut (NoPanic Q) := fun ⟨a, w, h⟩ => hno ⟨a, w, h⟩
  exact Code.wpIn_mono NoPanic.imp (wpIn_region_any hm (any_round l n hd hno' _ _ _ _ (wpAny_of_held _ _ _ _ h)))
end
end Go.Proofs.YtnndlgdlligjbabDoor.Ld
