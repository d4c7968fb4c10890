/- Last -/
import Derived.Test.YtfaagiilldkdgaaK5
import Derived.Test.YtfaagiilldkdgaaNth
namespace Go.Proofs.Ytfaagiilldkdgaa
open Go.RowKit Go.Shelf
set_option linter.unusedVariables false
/-- the block Bs lies as it lay -/
def KeepsAt (Bs : Nat) (A B : World) : Prop := Bs < A.heap.size → B.heap[Bs]? = A.heap[Bs]?
theorem gb_below {A B : World} (h : Below A.heap.size A B) : A.grownBy B none := ⟨h.os, h.tape, h.output, h.size, fun k hk _ => h.block k hk⟩
theorem ownsRow_below {A B : World} {base : Nat} {e : TypeId} {size : Nat} {v : Value} {k : Nat} {xs : List Value} (h : A.ownsRow base e size v k xs) (hb : Below A.heap.size A B) : B.ownsRow base e size v k xs := h.kept (gb_below hb) (by cases v.ownBlock <;> simp)
theorem boxed_below {A B : World} {b : Nat} {t : TypeId} {v : Value} (h : Boxed A b t v) (hb : Below A.heap.size A B) : Boxed B b t v := h.kept (gb_below hb) (by simp)
theorem ownsRow_low {W : World} {base base' : Nat} {e : TypeId} {size : Nat} {v : Value} {k : Nat} {xs : List Value} (hb : base' ≤ base) (h : W.ownsRow base e size v k xs) : W.ownsRow base' e size v k xs := by
  refine ⟨h.1, ?_⟩
  rcases h.2 with h | ⟨g, cap, cur, e1, e2, e3⟩
  · exact .inl h
  · exact .inr ⟨g, cap, cur, e1, Nat.le_trans hb e2, e3⟩
theorem ownsRow_slice {W : World} {base : Nat} {e : TypeId} {size : Nat} {v : Value} {k : Nat} {xs : List Value} (h : W.ownsRow base e size v k xs) : ∃ a cap, v = .slice a k cap := by
  rcases h.2 with ⟨rfl, rfl⟩ | ⟨g, cap, cur, rfl, _⟩
  · exact ⟨none, 0, rfl⟩
  · exact ⟨_, _, rfl⟩
theorem appended_keeps {W w1 : World} {n₀ B : Nat} {e : TypeId} {size : Nat} {v v' : Value} {k : Nat} {xs : List Value} {tmp : Obj}
    (hrow : W.ownsRow n₀ e size v k xs) (hgrow : (W.alloc tmp).grownBy w1 v.ownBlock) {K : Nat} (hK : K < n₀) (hne : K ≠ B) : KeepsAt K W (w1.setCell ⟨B, 0, none⟩ v') := by
  intro hb
  have e1 : (w1.setCell ⟨B, 0, none⟩ v').heap[K]? = w1.heap[K]? := (grownBy_setCell' w1 B v').block K (by have := hgrow.size; simp at this; omega) (by simp; exact hne)
  have e2 : w1.heap[K]? = (W.alloc tmp).heap[K]? := by
    refine hgrow.block K (by simp; omega) ?_
    rcases hrow.2 with ⟨rfl, _⟩ | ⟨g, cap, cur, rfl, hb', _⟩
    · simp [Value.ownBlock]
    · simp [Value.ownBlock]; omega
  rw [e1, e2]
  exact Below.heap_alloc W tmp K hb
theorem appended_box {W w1 : World} {n₀ B : Nat} {t e : TypeId} {size : Nat} {v v' : Value} {k m : Nat} {xs ys : List Value} {tmp : Obj}
    (hv : Boxed W B t v) (hte : t ≠ e) (hrow : W.ownsRow n₀ e size v k xs) (hn₀ : n₀ ≤ W.heap.size) (hB : B ≤ n₀)
    (hown' : w1.ownsRow n₀ e size v' m ys) (hgrow : (W.alloc tmp).grownBy w1 v.ownBlock) :
    Boxed w1 B t v ∧ Boxed (w1.setCell ⟨B, 0, none⟩ v') B t v' ∧ (w1.setCell ⟨B, 0, none⟩ v').ownsRow n₀ e size v' m ys ∧ KeepsOthers W (w1.setCell ⟨B, 0, none⟩ v') ∧ Below B W (w1.setCell ⟨B, 0, none⟩ v') := by
  obtain ⟨a1, a2, a3, a4, a5⟩ := hv.appended hte (ownsRow_low hB hrow) (Nat.le_trans hB hn₀) (Nat.le_refl _) (ownsRow_low hB hown') hgrow
  exact ⟨a1, a2, hown'.kept (grownBy_setCell' w1 B v') (.inr (a1.not_row hte hown').symm), a4, a5⟩
theorem exec_append1 {P : Program} {o : Oper} {a : Act} {w w' : World} {s x : Operand} {t tx : TypeId} {v xv v' : Value} (ho : o.op = .call { callee := .builtin .append, args := #[s, x], argTypes := #[t, tx] }) (hv : a.eval s = v) (hx : a.eval x = xv)
    (hr : (Builtin.append_ #[t, tx] o.type #[v, xv]).run P w = .ok v' w') : (execOp a.eval o).run P w = .ok (.value v') w' := by
  unfold execOp
  simp [ho, resolve, invoke, builtin, hv, hx, hr]
theorem take_set_one {α : Type} (l : List α) (k : Nat) (a : α) (hk : k < l.length) : (l.set k a).take (k + 1) = l.take k ++ [a] := by
  apply List.ext_getElem?
  intro i
  rcases Nat.lt_trichotomy i k with h | h | h
  · rw [List.getElem?_take_of_lt (by omega), List.getElem?_set_ne (by omega), List.getElem?_append_left (by rw [List.length_take]; omega), List.getElem?_take_of_lt h]
  · subst h
    rw [List.getElem?_take_of_lt (by omega), List.getElem?_set_self hk, List.getElem?_append_right (by rw [List.length_take]; omega), List.length_take, Nat.min_eq_left (by omega), Nat.sub_self]
    rfl
  · rw [List.getElem?_eq_none (by rw [List.length_take]; omega), List.getElem?_eq_none (by rw [List.length_append, List.length_take]; simp; omega)]
theorem fold_sets : ∀ (u : List Value) (k : Nat) (arr : Array Value), k + u.length = arr.size → List.foldl (fun (cs : Array Value) (x : Value × Nat) => cs.setIfInBounds x.snd x.fst) arr (u.zipIdx k) = (arr.toList.take k ++ u).toArray
  | [], k, arr, h => by
    simp only [List.length_nil, Nat.add_zero] at h
    rw [List.take_of_length_le (by simp [h])]
    simp
  | a :: u, k, arr, h => by
    simp only [List.length_cons] at h
    rw [List.zipIdx_cons, List.foldl_cons, fold_sets u (k + 1) _ (by simp; omega)]
    congr 1
    show List.take (k + 1) (arr.setIfInBounds k a).toList ++ u = _
    rw [Array.toList_setIfInBounds, take_set_one _ _ _ (by simp; omega), List.append_assoc]
    rfl
theorem fold_u (arr : Array Value) (u : List Value) (h : u.length = arr.size) : List.foldl (fun (cs : Array Value) (x : Value × Nat) => cs.setIfInBounds x.snd x.fst) arr u.zipIdx = u.toArray := by
  have := fold_sets u 0 arr (by omega)
  simpa using this
theorem run_bs1 {P : Program} (t e : TypeId) (i : TypeInfo) (z : Value) (u : List Value) (ht : P.underlying t = some (.slice e)) (hi : P.info? e = some i) (hz : i.zero = some z) (hs : i.size = u.length) (h0 : 0 < u.length) (hm : u.length ≤ 1000) (w : World) :
    (Instr.buildSlice t 1 #[(0, .agg u.toArray)]).run P w = .ok (.slice (some ⟨w.heap.size, 0, none⟩) 1 1) (w.alloc (.cells u.toArray e)) := by
  have h1 : ¬ 2 ^ 24 < u.length := by omega
  have h2 : u ≠ [] := fun h => by rw [h] at h0; simp at h0
  have hf := fold_u ((Array.range u.length).map (z.cells[· % z.cells.size]!)) u (by simp)
  unfold Instr.buildSlice
  simp [run_underlying ht, sizeOf, zeroValue, typeInfo, hi, hz, hs, h1, h2, Instr.fill, Value.cells, newRow]
  rw [fold_u _ u (by simp)]
theorem exec_bs1 {P : Program} {o : Oper} {a : Act} {w : World} {t e : TypeId} {x : Operand} {u : List Value} (ho : o.op = .buildSlice t 1 #[(0, x)]) (hx : a.eval x = .agg u.toArray) (hr : (Instr.buildSlice t 1 #[(0, .agg u.toArray)]).run P w = .ok (.slice (some ⟨w.heap.size, 0, none⟩) 1 1) (w.alloc (.cells u.toArray e))) :
   (execOp a.eval o).run P w = .ok (.value (.slice (some ⟨w.heap.size, 0, none⟩) 1 1)) (w.alloc (.cells u.toArray e)) := by
  unfold execOp
  simp [ho, hx, hr]
theorem there_part1 {w : World} {b n o m : Nat} (h : w.there b 0 n) (hm : o + m ≤ n) : w.there b o m := fun j hj => by
  have := h (o + j) (by omega)
  rwa [Nat.zero_add] at this
theorem ex_put1 {P : Program} {o : Oper} {a : Act} {w : World} {ty : TypeId} {x y : Operand} {b off n : Nat} {v : Value} (ho : o.op = .store ty x y) (hx : a.eval x = .pointer (some ⟨b, off, none⟩)) (hy : a.eval y = v) (ht : w.there b 0 n) (hn : off < n) (hi : (P.info? ty).map (·.size) = some 1) (hvc : v.cells = #[v]) (h1 : v.oneCell' = true) : (execOp a.eval o).run P w = .ok .skip (w.setCells b off [v]) := by
  refine exec_store ho hx hy ?_
  have e : storeVar ty ⟨b, off, none⟩ v = storeVar ty ⟨b, off, none⟩ (.agg #[v]) := by unfold storeVar; rw [hvc]; rfl
  rw [e, run_storeVar_mid w b off ty #[v] (there_part1 ht (by simp; omega)) hi (by simpa using h1)]
theorem Boxed.there1 {W : World} {B : Nat} {t : TypeId} {v : Value} (h : Boxed W B t v) : W.there B 0 1 := fun j hj => by
  obtain rfl : j = 0 := by omega
  exact ⟨by rw [h.cell]; rfl, h.frozen⟩
theorem sets_one (w : World) (b : Nat) (v : Value) : w.setCells b 0 [v] = w.setCell ⟨b, 0, none⟩ v := rfl
/-- epochs of the marks of the first nodes -/
def eps (m : Int → Option Mk) : Nat → List Int
  | 0 => []
  | k + 1 => eps m k ++ (match m k with | none => [] | some x => [x.e])
theorem eps_len (m : Int → Option Mk) : ∀ k, (eps m k).length ≤ k
  | 0 => by simp [eps]
  | k + 1 => by
    have := eps_len m k
    unfold eps
    split <;> simp <;> omega
def JL (w : World) (L R : Nat) (m : Int → Option Mk) (k : Nat) (W : World) : Prop :=
  (∃ v, Boxed W L 43 v ∧ W.ownsRow R 3 1 v (eps m k).length ((eps m k).map (Value.int .i64))) ∧ Below L w W ∧ R ≤ W.heap.size ∧ k ≤ 64
theorem infoI : (Try.prog.info? 3).map (fun i => (i.zero, i.size, i.bytes)) = some (some (.int .i64 0), 1, 8) := by kernel_rfl
theorem iszIs : (Try.prog.info? 43).map (·.size) = some 1 := by kernel_rfl
theorem iszSs : (Try.prog.info? 39).map (·.size) = some 1 := by kernel_rfl
theorem run_bsi (x : Int) (w : World) : (Instr.buildSlice 43 1 #[(0, .int .i64 x)]).run Try.prog w = .ok (.slice (some ⟨w.heap.size, 0, none⟩) 1 1) (w.alloc (.cells #[.int .i64 x] 3)) := by kernel_rfl
theorem ex_bsi {P : Program} {o : Oper} {a : Act} {w w' : World} {t : TypeId} {x : Operand} {u r : Value} (ho : o.op = .buildSlice t 1 #[(0, x)]) (hx : a.eval x = u) (hr : (Instr.buildSlice t 1 #[(0, u)]).run P w = .ok r w') : (execOp a.eval o).run P w = .ok (.value r) w' := by
  unfold execOp
  simp [ho, hx, hr]
theorem one_int (w : World) (x : Int) : Src Try.prog 1 43 (.slice (some ⟨w.heap.size, 0, none⟩) 1 1) 1 [.int .i64 x] (w.alloc (.cells #[.int .i64 x] 3)) :=
  Src.ofSlice _ Try.underlying43 ⟨w.heap.size, 0, none⟩ 1 1 [.int .i64 x] rfl (fun j v hv => by
    rw [Addr.add_mid]
    have := range_new w #[.int .i64 x] 3 j v (by simpa using hv)
    exact this) (by simp [Value.oneCell'])
set_option maxRecDepth 100000 in
set_option maxHeartbeats 2000000 in
theorem last1_any (w : World) (L R : Nat) (hLR : L < R) (m : Int → Option Mk) (k : Nat) (hk : k < 64) (x : Mk) (hx : x.ok) (hm : m k = some x) (W : World) (h : JL w L R m k W) : Calls Try.prog 21 #[.int .i64 (k : Int), .agg x.cells.toArray, .pointer (some ⟨L, 0, none⟩)] W fun e W' => e = .returned (.tuple #[]) ∧ JL w L R m (k + 1) W' := by
  obtain ⟨⟨v, hb, hrow⟩, hbl, hR, -⟩ := h
  have hel := eps_len m k
  have hen : eps m (k + 1) = eps m k ++ [x.e] := by rw [eps, hm]
  have hLW := hb.lt
  unfold JL
  rw [hen]
  generalize eps m k = es at *
  clear hm hen
  go_enter Try.func21, Try.ntmps21
  go_upto_region 1 with fail
  have hB1 : Below W.heap.size W (W.alloc (.cells x.cells.toArray 61)) := (Below.refl _ _).alloc (Nat.le_refl _) _
  have b1 := boxed_below hb hB1
  have o1 := ownsRow_below hrow hB1
  have he : (W.alloc (.cells x.cells.toArray 61)).cell? ⟨W.heap.size, 0, none⟩ = some (.int .i64 x.e) := by
    have := range_new W x.cells.toArray 61 0 _ rfl
    simpa using this
  generalize W.alloc (.cells x.cells.toArray 61) = W1 at *
  have hs1 := hB1.size
  obtain ⟨i0, hi, hz, hs, hby⟩ := info_parts infoI
  have hb2 : Below W1.heap.size W1 (W1.alloc (.cells #[.int .i64 x.e] 3)) := (Below.refl _ _).alloc (Nat.le_refl _) _
  obtain ⟨v', w5, hrun, hown', hgr, -⟩ := run_append_own_src2 (P := Try.prog) (W1.alloc (.cells #[.int .i64 x.e] 3)) R 43 43 43 3 i0 (.int .i64 0) 1 8 Try.underlying43 hi hz hs hby rfl v es.length (es.map (Value.int .i64)) (ownsRow_below o1 hb2) _ 1 [.int .i64 x.e] (one_int W1 x.e) (by unfold maxLen; omega) (by omega) (by simp; omega)
  obtain ⟨a1, a2, a3, -, a5⟩ := appended_box (v' := v') b1 (by decide) o1 (by omega) (by omega) hown' hgr
  obtain ⟨av, cv, rfl⟩ := ownsRow_slice hown'
  have hvc : (Value.slice av (es.length + 1) cv).cells = #[.slice av (es.length + 1) cv] := rfl
  have hv1 : (Value.slice av (es.length + 1) cv).oneCell' = true := rfl
  try simp only [Act.put]
  refine pl_begin ?_
  refine pl_take (d := some 5) (v := v) (by rfl) (pl_one rfl rfl b1.cell Try.underlying43 rfl) rfl ?_
  simp only [Act.put, List.setIfInBounds_toArray, List.set_cons_zero, List.set_cons_succ]
  refine pl_take (d := some 6) (v := ?_) (by rfl) ?_ rfl ?_
  rotate_left
  · go_simp
    try with_reducible rfl
  simp only [Act.put, List.setIfInBounds_toArray, List.set_cons_zero, List.set_cons_succ]
  refine pl_take (d := some 7) (v := ?_) (by rfl) ?_ rfl ?_
  rotate_left
  · go_simp
    try with_reducible rfl
  simp only [Act.put, List.setIfInBounds_toArray, List.set_cons_zero, List.set_cons_succ]
  refine pl_take (d := some 8) (v := .int .i64 x.e) (by rfl) (pl_one rfl rfl he Try.underlying3 rfl) rfl ?_
  simp only [Act.put, List.setIfInBounds_toArray, List.set_cons_zero, List.set_cons_succ]
  refine pl_run (d := some 9) (v := .slice (some ⟨W1.heap.size, 0, none⟩) 1 1) (w' := W1.alloc (.cells #[.int .i64 x.e] 3)) (by rfl) (ex_bsi rfl rfl (run_bsi x.e _)) rfl ?_
  simp only [Act.put, List.setIfInBounds_toArray, List.set_cons_zero, List.set_cons_succ]
  refine pl_run (d := some 10) (v := (.slice av (es.length + 1) cv)) (w' := w5) (by rfl) (exec_append1 rfl rfl rfl hrun) rfl ?_
  simp only [Act.put, List.setIfInBounds_toArray, List.set_cons_zero, List.set_cons_succ]
  refine pl_store (w' := w5.setCells L 0 [.slice av (es.length + 1) cv]) (by rfl) (ex_put1 rfl rfl rfl (Boxed.there1 a1) (by decide) iszIs hvc hv1) rfl ?_
  refine pl_nil ?_
  go_wp2_with fail
  go_end0
  refine ⟨rfl, ⟨_, a2, ?_⟩, ?_, ?_, by omega⟩
  · rw [sets_one]
    simpa using a3
  · exact hbl.trans ((hB1.mono (by omega)).trans a5)
  · have := a5.size
    rw [sets_one]
    omega
theorem JL.at {w W : World} {L R B b n : Nat} {N : Int} {m : Int → Option Mk} {k : Nat} (h : JL w L R m k W) (hw : MkAt w B b n N m) (hL : w.heap.size = L) : MkAt W B b n N m := hw.below (by rw [hL]; exact h.2.1)
theorem JL.below {w W W' : World} {L R : Nat} {m : Int → Option Mk} {k : Nat} (h : JL w L R m k W) (hb : Below W.heap.size W W') : JL w L R m k W' := by
  obtain ⟨⟨v, h1, h2⟩, h3, h4, h5⟩ := h
  exact ⟨⟨v, boxed_below h1 hb, ownsRow_below h2 hb⟩, h3.trans (hb.mono (by have := h1.lt; omega)), Nat.le_trans h4 hb.size, h5⟩
theorem own_rowI {W : World} {R : Nat} {a : Option Addr} {cap : Nat} {zs : List Int} (h : W.ownsRow R 3 1 (.slice a zs.length cap) zs.length (zs.map (Value.int .i64))) (hm : zs.length ≤ 1000000) : Nq.RowI W a zs := by
  refine ⟨by unfold maxLen; omega, ?_⟩
  rcases h.2 with ⟨e, h0⟩ | ⟨g, cap', cur, e, hb, hg, hn, hcm, hcs, ht⟩
  · exact .inl (List.eq_nil_of_length_eq_zero h0)
  · injection e with e1 e2 e3
    subst e1
    refine .inr ⟨g, 0, rfl, (Array.getElem?_eq_some_iff.1 hg).1, fun j hj => ?_⟩
    have := h.cells (g := g) rfl j (.int .i64 (zs[j]?.getD 0)) (by rw [List.getElem?_map, List.getElem?_eq_getElem hj]; rfl)
    rwa [Addr.add_mid] at this
theorem enters21 : ∀ args w, (callFunc 21 args).run Try.prog w = .ok (.enter 21 args) w := enters_of Try.func21 (by kernel_rfl) rfl
def lastP (N : Int) (m : Int → Option Mk) (need : Int) : Int := Nq.nth (eps m N.toNat) need
set_option maxHeartbeats 2000000 in
theorem last_any (B b n : Nat) (N : Int) (m : Int → Option Mk) (need : Int) (w : World) (h : MkAt w B b n N m) : Calls Try.prog 11 #[.pointer (some ⟨B, 0, none⟩), .int .i64 need] w fun e w' => e = .returned (.int .i64 (lastP N m need)) ∧ Below w.heap.size w w' := by
  have hN := h.good
  have hb0 := Boxed.new w 43 (.slice none 0 0)
  have hB0 : Below w.heap.size w (w.alloc (.cells #[.slice none 0 0] 43)) := (Below.refl _ _).alloc (Nat.le_refl _) _
  have hs0 : (w.alloc (.cells #[.slice none 0 0] 43)).heap.size = w.heap.size + 1 := by simp
  have hJ0 : JL w w.heap.size (w.heap.size + 1) m 0 (w.alloc (.cells #[.slice none 0 0] 43)) := ⟨⟨_, hb0, by simp [eps], .inl ⟨rfl, rfl⟩⟩, hB0, by omega, by omega⟩
  have cE := each_any B b n N m 21 enters21 #[.pointer (some ⟨w.heap.size, 0, none⟩)] (fun k W => JL w w.heap.size (w.heap.size + 1) m k W) (fun k W q => q.at h rfl) (fun k W W' q hb => q.below hb)
    (fun k x W hk q hm => by
      have hx := h.ok k x hm
      exact last1_any w w.heap.size (w.heap.size + 1) (by omega) m k (by omega) x hx.1 hm W q)
    (fun k W hk q hm => by
      obtain ⟨q1, q2, q3, q4⟩ := q
      refine ⟨?_, q2, q3, by omega⟩
      have : eps m (k + 1) = eps m k := by rw [eps, hm]; simp
      rw [this]
      exact q1) _ hJ0
  have hel := eps_len m N.toNat
  unfold lastP
  clear hb0 hB0 hs0 hJ0
  go_enter Try.func11, Try.ntmps11
  go_wp2_with fail
  refine cE.mono ?_
  rintro _ w2 ⟨rfl, ⟨⟨v, hb2, hrow2⟩, hbl2, hR2, -⟩⟩
  clear cE
  obtain ⟨av, cv, rfl⟩ := ownsRow_slice hrow2
  have c2 := hb2.cell
  have cN := Nq.nth_any av cv (eps m N.toNat) need w2 (own_rowI hrow2 (by omega)) (by omega)
  go_wp2_with fail
  refine cN.mono ?_
  rintro _ w3 ⟨rfl, hB3⟩
  clear cN
  go_wp2_with fail
  go_ret
  exact ⟨rfl, hbl2.trans (hB3.mono (by omega))⟩
set_option maxHeartbeats 1000000 in
theorem last_no (p : Value) (need : Int) (w : World) (h : NoMk w p) : Calls Try.prog 11 #[p, .int .i64 need] w fun e w' => e = .returned (.int .i64 0) ∧ Below w.heap.size w w' := by
  have hB0 : Below w.heap.size w (w.alloc (.cells #[.slice none 0 0] 43)) := (Below.refl _ _).alloc (Nat.le_refl _) _
  have hb0 := Boxed.new w 43 (.slice none 0 0)
  have cE := each_no p (.func (.func 21) #[] #[.pointer (some ⟨w.heap.size, 0, none⟩)]) (w.alloc (.cells #[.slice none 0 0] 43)) (h.below hB0)
  have cN := Nq.nth_any none 0 [] need (w.alloc (.cells #[.slice none 0 0] 43)) ⟨by simp, .inl rfl⟩ (by simp)
  have e0 : Nq.nth [] need = 0 := Nq.nth_none [] need (by simp; omega)
  rw [e0] at cN
  have c2 := hb0.cell
  simp only [List.length_nil] at cN
  go_enter Try.func11, Try.ntmps11
  go_wp2_with fail
  refine cE.mono ?_
  rintro _ w2 ⟨rfl, hx⟩
  obtain rfl := hx.symm
  clear cE hx
  go_wp2_with fail
  refine cN.mono ?_
  rintro _ w3 ⟨rfl, hB3⟩
  clear cN
  go_wp2_with fail
  go_ret
  exact ⟨rfl, hB0.trans (hB3.mono (by simp))⟩
end Go.Proofs.Ytfaagiilldkdgaa
