/- marks in memory: a map by node -/
import Derived.Test.YtfaagiilldkdgaaK1
import Derived.Maps.RangeWalk
import Derived.DeepKeys4
import Derived.Maps.OwnSet
namespace Go.Proofs.Ytfaagiilldkdgaa
open Go.RowKit
set_option linter.unusedVariables false
theorem lawI : Maps.Keyed Try.prog 3 := Maps.int_keyed Try.underlying3
theorem key_int (k : Int) (hk : I64 k) : Go.keyOf Try.prog 3 (.int .i64 k) = some (.int .i64 k) := by
  have wc : (Lit.int .i64 k).wf = true := by simp only [Lit.wf, Bool.and_eq_true, decide_eq_true_eq]; exact hk
  unfold Go.keyOf
  rw [Try.underlying3]
  simp [mapKey, Try.underlying3, wc]
def anyE : Value → Option (DataW Value × List MemPlace) := fun v => some (.held v, [])
/-- the digests that were met, by view -/
def MapM (w : World) (b n : Nat) (m : Int → Option Mk) : Prop :=
  ∃ D : DataW Value, w.ownsMap Try.prog 3 anyE b n D ∧ (∀ k d, I64 k → m k = some d → ∀ zd, D.atKey (.int .i64 k) zd = .held (.agg d.cells.toArray)) ∧ ∀ k, I64 k → Maps.has D (.int .i64 k) = (m k).isSome
theorem MapM.lt {w : World} {b n : Nat} {m : Int → Option Mk} (h : MapM w b n m) : b < w.heap.size := by
  obtain ⟨D, h, _⟩ := h
  exact h.lt
theorem MapM.at {w w' : World} {b n : Nat} {m : Int → Option Mk} (h : MapM w b n m) (hb : w'.heap[b]? = w.heap[b]?) : MapM w' b n m := by
  obtain ⟨D, ⟨es, cl, h1, h2⟩, h3⟩ := h
  exact ⟨D, ⟨es, cl, by rw [hb]; exact h1, h2⟩, h3⟩
theorem MapM.below {w w' : World} {b n : Nat} {m : Int → Option Mk} (h : MapM w b n m) (hb : Below w.heap.size w w') : MapM w' b n m := h.at (hb.block _ h.lt)
theorem MapM.made (w : World) : MapM (w.alloc (.map #[] 0)) w.heap.size 0 (fun _ => none) :=
  ⟨_, World.ownsMap_made w Try.prog 3 anyE, by simp, fun k _ => by simp [Maps.has]⟩
theorem MapM.val {w : World} {b n : Nat} {m : Int → Option Mk} {D : DataW Value} (h1 : ∀ k d, I64 k → m k = some d → ∀ zd, D.atKey (.int .i64 k) zd = .held (.agg d.cells.toArray)) (h2 : ∀ k, I64 k → Maps.has D (.int .i64 k) = (m k).isSome) (k : Int) (hk : I64 k) : D.atKey (.int .i64 k) (.held (.agg mk0.cells.toArray)) = .held (.agg ((m k).getD mk0).cells.toArray) := by
  cases hm : m k with
  | none =>
    have := h2 k hk
    rw [hm] at this
    exact Maps.atKey_of_not_has this _
  | some d => exact h1 k d hk hm _
theorem MapM.look {w : World} {b n : Nat} {m : Int → Option Mk} (h : MapM w b n m) (k : Int) (hk : I64 k) :
    (Instr.lookup 50 (.map (some b)) (.int .i64 k) true).run Try.prog w = .ok (.tuple #[.agg ((m k).getD mk0).cells.toArray, .bool (m k).isSome]) w := by
  obtain ⟨D, hown, hat, hhas⟩ := h
  obtain ⟨v, ps, hrun, hv⟩ := hown.look_ok lawI Try.underlying50 (zeroSig w) (zd := .held (.agg mk0.cells.toArray)) (zp := []) rfl (key_int k hk)
  simp only [anyE, Option.some.injEq, Prod.mk.injEq] at hv
  rw [hrun, hhas k hk]
  have := hv.1
  rw [MapM.val (w := w) (b := b) (n := n) hat hhas k hk] at this
  simp only [DataW.held.injEq] at this
  rw [this]
theorem MapM.get {w : World} {b n : Nat} {m : Int → Option Mk} (h : MapM w b n m) (k : Int) (hk : I64 k) :
    (Instr.lookup 50 (.map (some b)) (.int .i64 k) false).run Try.prog w = .ok (.agg ((m k).getD mk0).cells.toArray) w := by
  obtain ⟨D, hown, hat, hhas⟩ := h
  obtain ⟨v, ps, hrun, hv⟩ := hown.lookup lawI Try.underlying50 (zeroSig w) (zd := .held (.agg mk0.cells.toArray)) (zp := []) rfl (key_int k hk)
  simp only [anyE, Option.some.injEq, Prod.mk.injEq] at hv
  rw [hrun]
  have := hv.1
  rw [MapM.val (w := w) (b := b) (n := n) hat hhas k hk] at this
  simp only [DataW.held.injEq] at this
  rw [this]
def putM (m : Int → Option Mk) (k : Int) (d : Mk) : Int → Option Mk := fun j => if j = k then some d else m j
theorem MapM.store {w : World} {b n : Nat} {m : Int → Option Mk} (h : MapM w b n m) (k : Int) (hk : I64 k) (d : Mk) (hn : n < 1000000) :
    ∃ w', (Instr.mapUpdate 50 (.map (some b)) (.int .i64 k) (.agg d.cells.toArray)).run Try.prog w = .ok () w' ∧ MapM w' b (n + 1) (putM m k d) ∧ w.grownBy w' (some b) := by
  obtain ⟨D, hown, hat, hhas⟩ := h
  have hkey := key_int k hk
  obtain ⟨w', hrun, h1, h2⟩ := hown.store lawI Try.underlying50 (by unfold maxLen; omega) hkey (val := .agg d.cells.toArray) (d := .held (.agg d.cells.toArray)) (ps := []) rfl
  refine ⟨w', hrun, ⟨_, h1, fun j e hj hm zd => ?_, fun j hj => ?_⟩, h2.grown⟩
  · unfold putM at hm
    by_cases e1 : j = k
    · subst e1
      rw [if_pos rfl] at hm
      obtain rfl := Option.some.inj hm
      exact Maps.atKey_put_same hown.isMap (lawI.key hkey) _ _
    · rw [if_neg e1] at hm
      rw [Maps.atKey_put_other (by simpa using e1)]
      exact hat j e hj hm zd
  · unfold putM
    by_cases e1 : j = k
    · subst e1
      rw [if_pos rfl, Maps.has_put_same hown.isMap (lawI.key hkey)]
      rfl
    · rw [if_neg e1, Maps.has_put_other (by simpa using e1), hhas j hj]
theorem ex_look {P : Program} {o : Oper} {a : Act} {w : World} {t : TypeId} {m x : Operand} {c : Bool} {mv kv v : Value} (ho : o.op = .lookup t m x c) (hm : a.eval m = mv) (hx : a.eval x = kv) (hr : (Instr.lookup t mv kv c).run P w = .ok v w) : (execOp a.eval o).run P w = .ok (.value v) w := by
  unfold execOp
  simp only [ho, hm, hx, Sem.run_bind, hr, Result.andThen_ok, Sem.run_pure]
theorem wpList_look {P : Program} {ops : Array Oper} {rest : List Oper} {o : Oper} {a : Act} {w : World} {Q : Exit → Act → World → Prop} (hg : o.guard = none) (t : TypeId) (m x : Operand) (c : Bool) (ho : o.op = .lookup t m x c) (mv kv v : Value) (hm : a.eval m = mv) (hx : a.eval x = kv) (hr : (Instr.lookup t mv kv c).run P w = .ok v w) (h : wpList P ops Q rest (a.put o.dst v) w) : wpList P ops Q (o :: rest) a w :=
  wpList_plain hg fun K hK => by
    unfold Oper.wp
    rw [ex_look ho hm hx hr]
    exact hK _ _ h
theorem wpList_upd {P : Program} {ops : Array Oper} {rest : List Oper} {o : Oper} {a : Act} {w w' : World} {Q : Exit → Act → World → Prop} (hg : o.guard = none) (t : TypeId) (m x y : Operand) (ho : o.op = .mapUpdate t m x y) (mv kv v : Value) (hm : a.eval m = mv) (hx : a.eval x = kv) (hy : a.eval y = v) (hr : (Instr.mapUpdate t mv kv v).run P w = .ok () w') (h : wpList P ops Q rest (a.put o.dst undef) w') : wpList P ops Q (o :: rest) a w :=
  wpList_plain hg fun K hK => by
    unfold Oper.wp execOp
    simp only [ho, hm, hx, hy, Sem.run_bind, Sem.run_pure, Result.andThen_ok, hr]
    exact hK _ _ h
theorem MapM.more {w : World} {b n n' : Nat} {m : Int → Option Mk} (h : MapM w b n m) (hn : n ≤ n') : MapM w b n' m := by
  obtain ⟨D, ⟨es, cl, h1, h2, h3, h4⟩, h5⟩ := h
  exact ⟨D, ⟨es, cl, h1, h2, Nat.le_trans h3 hn, h4⟩, h5⟩
/-- marks -/
structure MkAt (w : World) (B b n : Nat) (N : Int) (m : Int → Option Mk) : Prop where
  lt : B < w.heap.size
  c0 : w.cell? ⟨B, 0, none⟩ = some (.int .i64 N)
  c1 : w.cell? ⟨B, 1, none⟩ = some (.map (some b))
  mp : MapM w b n m
  good : 4 ≤ N ∧ N ≤ 64
  ok : ∀ k x, m k = some x → x.ok ∧ 0 ≤ k ∧ k < N ∧ 1 ≤ x.e ∧ x.e ≤ 1048576
theorem MkAt.ne {w : World} {B b n : Nat} {N : Int} {m : Int → Option Mk} (h : MkAt w B b n N m) : b ≠ B := by
  rintro rfl
  obtain ⟨D, ⟨es, cl, h1, _⟩, _⟩ := h.mp
  have := h.c0
  simp [World.cell?, h1] at this
theorem MkAt.at {w w' : World} {B b n : Nat} {N : Int} {m : Int → Option Mk} (h : MkAt w B b n N m) (hs : w.heap.size ≤ w'.heap.size) (h1 : w'.heap[B]? = w.heap[B]?) (h2 : w'.heap[b]? = w.heap[b]?) : MkAt w' B b n N m := by
  refine ⟨Nat.lt_of_lt_of_le h.lt hs, ?_, ?_, h.mp.at h2, h.good, h.ok⟩
  · rw [← h.c0]; simp [World.cell?, h1]
  · rw [← h.c1]; simp [World.cell?, h1]
theorem MkAt.below {w w' : World} {B b n : Nat} {N : Int} {m : Int → Option Mk} (h : MkAt w B b n N m) (hb : Below w.heap.size w w') : MkAt w' B b n N m := h.at hb.size (hb.block _ h.lt) (hb.block _ h.mp.lt)
theorem MkAt.drew {w : World} {B b n : Nat} {N : Int} {m : Int → Option Mk} (h : MkAt w B b n N m) : MkAt w.drew B b n N m := h.below (Below.refl _ _).drew
theorem MkAt.val {w : World} {B b n : Nat} {N : Int} {m : Int → Option Mk} (h : MkAt w B b n N m) (k : Int) : ((m k).getD mk0).ok := by
  cases hm : m k with
  | none => exact mk0_ok
  | some x => exact (h.ok k x hm).1
/-- marks that no call made -/
def NoMk (w : World) (v : Value) : Prop := v = .pointer none ∨ ∃ B, v = .pointer (some ⟨B, 0, none⟩) ∧ B < w.heap.size ∧ w.cell? ⟨B, 0, none⟩ = some (.int .i64 0)
theorem NoMk.below {w w' : World} {v : Value} (h : NoMk w v) (hb : Below w.heap.size w w') : NoMk w' v := by
  rcases h with h | ⟨B, h, h1, h2⟩
  · exact .inl h
  · exact .inr ⟨B, h, Nat.lt_of_lt_of_le h1 hb.size, (hb.cell (p := ⟨B, 0, none⟩) h1).trans h2⟩
set_option maxHeartbeats 400000 in
theorem isMade_yes (B b n : Nat) (N : Int) (m : Int → Option Mk) (w : World) (h : MkAt w B b n N m) : Calls Try.prog 19 #[.pointer (some ⟨B, 0, none⟩)] w fun e w' => e = .returned (.bool true) ∧ w' = w := by
  have c0 := h.c0
  have hN : N > 0 := by have := h.good; omega
  have hd : decide (N > 0) = true := decide_eq_true hN
  clear h
  go_enter Try.func19, Try.ntmps19
  go_wp2
  go_ret
  exact ⟨by simp, rfl⟩
set_option maxHeartbeats 400000 in
theorem isMade_no (v : Value) (w : World) (h : NoMk w v) : Calls Try.prog 19 #[v] w fun e w' => e = .returned (.bool false) ∧ w' = w := by
  rcases h with rfl | ⟨B, rfl, _, c0⟩
  · go_enter Try.func19, Try.ntmps19
    go_wp2
    go_ret
    exact ⟨rfl, rfl⟩
  · go_enter Try.func19, Try.ntmps19
    go_wp2
    go_ret
    exact ⟨rfl, rfl⟩
set_option maxHeartbeats 400000 in
theorem new_no (n : Int) (w : World) (h : Nq.goodB n = false) : Calls Try.prog 6 #[.int .i64 n] w fun e w' => e = .returned (.pointer none) ∧ w' = w := by
  have cg := Nq.good_any n w
  rw [h] at cg
  clear h
  go_enter Try.func6, Try.ntmps6
  go_wp2_with fail
  refine cg.mono ?_
  rintro _ wx ⟨rfl, hx⟩
  obtain rfl := hx.symm
  clear hx
  go_wp2_with fail
  go_ret
  exact ⟨rfl, rfl⟩
set_option maxHeartbeats 400000 in
theorem new_yes (n : Int) (w : World) (h : Nq.goodB n = true) : Calls Try.prog 6 #[.int .i64 n] w fun e w' => e = .returned (.pointer (some ⟨w.heap.size + 1, 0, none⟩)) ∧ MkAt w' (w.heap.size + 1) w.heap.size 0 n (fun _ => none) ∧ Below w.heap.size w w' := by
  have cg := Nq.good_any n w
  rw [h] at cg
  have hg := Nq.goodB_true h
  clear h
  have hmm := @run_makeMap Try.prog
  go_enter Try.func6, Try.ntmps6
  go_wp2_with fail
  refine cg.mono ?_
  rintro _ wx ⟨rfl, hx⟩
  obtain rfl := hx.symm
  clear hx
  go_wp2_with fail
  go_ret
  have hb1 : Below w.heap.size w (w.alloc (.map #[] 0)) := (Below.refl _ _).alloc (Nat.le_refl _) _
  have hb2 : Below (w.alloc (.map #[] 0)).heap.size (w.alloc (.map #[] 0)) ((w.alloc (.map #[] 0)).alloc (.cells #[.int .i64 n, .map (some w.heap.size)] 52)) := (Below.refl _ _).alloc (Nat.le_refl _) _
  have hr := range_new (w.alloc (.map #[] 0)) #[.int .i64 n, .map (some w.heap.size)] 52
  have e1 : (w.alloc (.map #[] 0)).heap.size = w.heap.size + 1 := by simp
  refine ⟨rfl, ⟨by simp, ?_, ?_, (MapM.made w).at (hb2.block _ (by simp)), ⟨hg.1, hg.2.1⟩, by simp⟩, hb1.trans (hb2.mono (by simp))⟩
  · have := hr 0 _ rfl
    rwa [e1] at this
  · have := hr 1 _ rfl
    rwa [e1] at this
end Go.Proofs.Ytfaagiilldkdgaa
