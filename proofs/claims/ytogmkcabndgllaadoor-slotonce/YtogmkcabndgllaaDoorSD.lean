/- a map of digests by view -/
import Derived.Test.YtogmkcabndgllaaDoorS9h
import Derived.Maps.RangeWalk
import Derived.DeepKeys4
import Derived.Maps.OwnSet
namespace Go.Proofs.YtogmkcabndgllaaDoor
open Go.RowKit
open Sha Tal
set_option linter.unusedVariables false
theorem lawI : Maps.Keyed Tryd.prog 3 := Maps.int_keyed Tryd.underlying3
theorem key_int (k : Int) (hk : I64 k) : Go.keyOf Tryd.prog 3 (.int .i64 k) = some (.int .i64 k) := by
  have wc : (Lit.int .i64 k).wf = true := by simp only [Lit.wf, Bool.and_eq_true, decide_eq_true_eq]; exact hk
  unfold Go.keyOf
  rw [Tryd.underlying3]
  simp [mapKey, Tryd.underlying3, wc]
def anyE : Value → Option (DataW Value × List MemPlace) := fun v => some (.held v, [])
/-- the digests that were met, by view -/
def MapD (w : World) (b n : Nat) (m : Int → Option (List Int)) : Prop :=
  ∃ D : DataW Value, w.ownsMap Tryd.prog 3 anyE b n D ∧ (∀ k d, I64 k → m k = some d → ∀ zd, D.atKey (.int .i64 k) zd = .held (.agg (v8 d).toArray)) ∧ ∀ k, I64 k → Maps.has D (.int .i64 k) = (m k).isSome
theorem MapD.lt {w : World} {b n : Nat} {m : Int → Option (List Int)} (h : MapD w b n m) : b < w.heap.size := by
  obtain ⟨D, h, _⟩ := h
  exact h.lt
theorem MapD.at {w w' : World} {b n : Nat} {m : Int → Option (List Int)} (h : MapD w b n m) (hb : w'.heap[b]? = w.heap[b]?) : MapD w' b n m := by
  obtain ⟨D, ⟨es, cl, h1, h2⟩, h3⟩ := h
  exact ⟨D, ⟨es, cl, by rw [hb]; exact h1, h2⟩, h3⟩
theorem MapD.below {w w' : World} {b n : Nat} {m : Int → Option (List Int)} (h : MapD w b n m) (hb : Below w.heap.size w w') : MapD w' b n m := h.at (hb.block _ h.lt)
theorem MapD.made (w : World) : MapD (w.alloc (.map #[] 0)) w.heap.size 0 (fun _ => none) :=
  ⟨_, World.ownsMap_made w Tryd.prog 3 anyE, by simp, fun k _ => by simp [Maps.has]⟩
def dig0 : List Int := List.replicate 32 0
theorem zeroDg (w : World) : (zeroValue 26).run Tryd.prog w = .ok (.agg (v8 dig0).toArray) w := by kernel_rfl
theorem MapD.val {w : World} {b n : Nat} {m : Int → Option (List Int)} {D : DataW Value} (h1 : ∀ k d, I64 k → m k = some d → ∀ zd, D.atKey (.int .i64 k) zd = .held (.agg (v8 d).toArray)) (h2 : ∀ k, I64 k → Maps.has D (.int .i64 k) = (m k).isSome) (k : Int) (hk : I64 k) : D.atKey (.int .i64 k) (.held (.agg (v8 dig0).toArray)) = .held (.agg (v8 ((m k).getD dig0)).toArray) := by
  cases hm : m k with
  | none =>
    have := h2 k hk
    rw [hm] at this
    exact Maps.atKey_of_not_has this _
  | some d => exact h1 k d hk hm _
theorem MapD.look {w : World} {b n : Nat} {m : Int → Option (List Int)} (h : MapD w b n m) (k : Int) (hk : I64 k) :
    (Instr.lookup 62 (.map (some b)) (.int .i64 k) true).run Tryd.prog w = .ok (.tuple #[.agg (v8 ((m k).getD dig0)).toArray, .bool (m k).isSome]) w := by
  obtain ⟨D, hown, hat, hhas⟩ := h
  obtain ⟨v, ps, hrun, hv⟩ := hown.look_ok lawI Tryd.underlying62 (zeroDg w) (zd := .held (.agg (v8 dig0).toArray)) (zp := []) rfl (key_int k hk)
  simp only [anyE, Option.some.injEq, Prod.mk.injEq] at hv
  rw [hrun, hhas k hk]
  have := hv.1
  rw [MapD.val (w := w) (b := b) (n := n) hat hhas k hk] at this
  simp only [DataW.held.injEq] at this
  rw [this]
theorem MapD.get {w : World} {b n : Nat} {m : Int → Option (List Int)} (h : MapD w b n m) (k : Int) (hk : I64 k) :
    (Instr.lookup 62 (.map (some b)) (.int .i64 k) false).run Tryd.prog w = .ok (.agg (v8 ((m k).getD dig0)).toArray) w := by
  obtain ⟨D, hown, hat, hhas⟩ := h
  obtain ⟨v, ps, hrun, hv⟩ := hown.lookup lawI Tryd.underlying62 (zeroDg w) (zd := .held (.agg (v8 dig0).toArray)) (zp := []) rfl (key_int k hk)
  simp only [anyE, Option.some.injEq, Prod.mk.injEq] at hv
  rw [hrun]
  have := hv.1
  rw [MapD.val (w := w) (b := b) (n := n) hat hhas k hk] at this
  simp only [DataW.held.injEq] at this
  rw [this]
def putM (m : Int → Option (List Int)) (k : Int) (d : List Int) : Int → Option (List Int) := fun j => if j = k then some d else m j
theorem MapD.store {w : World} {b n : Nat} {m : Int → Option (List Int)} (h : MapD w b n m) (k : Int) (hk : I64 k) (d : List Int) (hn : n < 1000000) :
    ∃ w', (Instr.mapUpdate 62 (.map (some b)) (.int .i64 k) (.agg (v8 d).toArray)).run Tryd.prog w = .ok () w' ∧ MapD w' b (n + 1) (putM m k d) ∧ w.grownBy w' (some b) := by
  obtain ⟨D, hown, hat, hhas⟩ := h
  have hkey := key_int k hk
  obtain ⟨w', hrun, h1, h2⟩ := hown.store lawI Tryd.underlying62 (by unfold maxLen; omega) hkey (val := .agg (v8 d).toArray) (d := .held (.agg (v8 d).toArray)) (ps := []) rfl
  refine ⟨w', hrun, ⟨_, h1, fun j e hj hm zd => ?_, fun j hj => ?_⟩, h2.grown⟩
  · unfold putM at hm
    by_cases e1 : j = k
    · subst e1
      rw [if_pos rfl] at hm
      obtain rfl := Option.some.inj hm
      exact Maps.atKey_put_same hown.isMap (lawI.key hkey) _ _
    · rw [if_neg e1] at hm
      rw [Maps.atKey_put_other (by simpa using e1)]
      exact hat j e hj hm zd
  · unfold putM
    by_cases e1 : j = k
    · subst e1
      rw [if_pos rfl, Maps.has_put_same hown.isMap (lawI.key hkey)]
      rfl
    · rw [if_neg e1, Maps.has_put_other (by simpa using e1), hhas j hj]
theorem ex_look {P : Program} {o : Oper} {a : Act} {w : World} {t : TypeId} {m x : Operand} {c : Bool} {mv kv v : Value} (ho : o.op = .lookup t m x c) (hm : a.eval m = mv) (hx : a.eval x = kv) (hr : (Instr.lookup t mv kv c).run P w = .ok v w) : (execOp a.eval o).run P w = .ok (.value v) w := by
  unfold execOp
  simp only [ho, hm, hx, Sem.run_bind, hr, Result.andThen_ok, Sem.run_pure]
theorem wpList_look {P : Program} {ops : Array Oper} {rest : List Oper} {o : Oper} {a : Act} {w : World} {Q : Exit → Act → World → Prop} (hg : o.guard = none) (t : TypeId) (m x : Operand) (c : Bool) (ho : o.op = .lookup t m x c) (mv kv v : Value) (hm : a.eval m = mv) (hx : a.eval x = kv) (hr : (Instr.lookup t mv kv c).run P w = .ok v w) (h : wpList P ops Q rest (a.put o.dst v) w) : wpList P ops Q (o :: rest) a w :=
  wpList_plain hg fun K hK => by
    unfold Oper.wp
    rw [ex_look ho hm hx hr]
    exact hK _ _ h
theorem wpList_upd {P : Program} {ops : Array Oper} {rest : List Oper} {o : Oper} {a : Act} {w w' : World} {Q : Exit → Act → World → Prop} (hg : o.guard = none) (t : TypeId) (m x y : Operand) (ho : o.op = .mapUpdate t m x y) (mv kv v : Value) (hm : a.eval m = mv) (hx : a.eval x = kv) (hy : a.eval y = v) (hr : (Instr.mapUpdate t mv kv v).run P w = .ok () w') (h : wpList P ops Q rest (a.put o.dst undef) w') : wpList P ops Q (o :: rest) a w :=
  wpList_plain hg fun K hK => by
    unfold Oper.wp execOp
    simp only [ho, hm, hx, hy, Sem.run_bind, Sem.run_pure, Result.andThen_ok, hr]
    exact hK _ _ h
end Go.Proofs.YtogmkcabndgllaaDoor
