/- Of -/
import Derived.Test.YtfaagiilldkdgaaK2
namespace Go.Proofs.Ytfaagiilldkdgaa
open Go.RowKit
set_option linter.unusedVariables false
theorem ex_update {P : Program} {o : Oper} {a : Act} {w w' : World} {t : TypeId} {m x y : Operand} {mv kv v : Value} (ho : o.op = .mapUpdate t m x y) (hm : a.eval m = mv) (hx : a.eval x = kv) (hy : a.eval y = v) (hr : (Instr.mapUpdate t mv kv v).run P w = .ok () w') : (execOp a.eval o).run P w = .ok .skip w' := by
  unfold execOp
  simp only [ho, hm, hx, hy, Sem.run_bind, Sem.run_pure, Result.andThen_ok, hr]
theorem ex_bin {P : Program} {o : Oper} {a : Act} {w : World} {op : BinOp} {t t2 : TypeId} {x y : Operand} {u v : Array Value} {r : Value} (ho : o.op = .binOp op t x y t2) (hx : a.eval x = .agg u) (hy : a.eval y = .agg v) (hm : P.eqGuardType P.depth t = false) (hr : (binOp op t (.agg u) (.agg v)).run P w = .ok r w) : (execOp a.eval o).run P w = .ok (.value r) w := by
  unfold execOp
  simp only [ho, hx, hy, Sem.run_bind, run_eqGuard_agg w op t x y u v hm, Result.andThen_ok, hr, Sem.run_pure]
theorem ex_mid {P : Program} {op : Oper} {a : Act} {ty : TypeId} {x : Operand} (ho : op.op = .load ty x) {b o : Nat} (hx : a.eval x = .pointer (some ⟨b, o, none⟩)) {cs : List Value} {d : TypeDesc} {w : World} (hr : w.rangeAt b o cs) (hu : P.underlying ty = some d) (hd : d.isRow = true) (hi : (P.info? ty).map (·.size) = some cs.length) : (execOp a.eval op).run P w = .ok (.value (.agg cs.toArray)) w :=
  exec_load ho hx (run_loadVar_mid w b o ty cs d hr hu hd hi)
theorem ex_put {P : Program} {o : Oper} {a : Act} {w : World} {ty : TypeId} {x y : Operand} {b off : Nat} {cs : Array Value} (ho : o.op = .store ty x y) (hx : a.eval x = .pointer (some ⟨b, off, none⟩)) (hy : a.eval y = .agg cs) (ht : w.there b off cs.size) (hi : (P.info? ty).map (·.size) = some cs.size) (h1 : cs.all (·.oneCell') = true) : (execOp a.eval o).run P w = .ok .skip (w.setCells b off cs.toList) :=
  exec_store ho hx hy (run_storeVar_mid w b off ty cs ht hi h1)
theorem two_new {w w1 : World} {a1 a2 : Array Value} {t1 t2 : TypeId} (h : (w.alloc (.cells a1 t1)).alloc (.cells a2 t2) = w1) : Below w.heap.size w w1 ∧ w1.there w.heap.size 0 a1.size ∧ w1.there (w.heap.size + 1) 0 a2.size ∧ w1.heap.size ≥ w.heap.size + 2 := by
  subst h
  have hb1 : Below w.heap.size w (w.alloc (.cells a1 t1)) := (Below.refl _ _).alloc (Nat.le_refl _) _
  have hb2 : Below (w.alloc (.cells a1 t1)).heap.size (w.alloc (.cells a1 t1)) ((w.alloc (.cells a1 t1)).alloc (.cells a2 t2)) := (Below.refl _ _).alloc (Nat.le_refl _) _
  refine ⟨hb1.trans (hb2.mono (by simp)), there_below (there_new w a1 t1) hb2 (by simp), ?_, by simp⟩
  have := there_new (w.alloc (.cells a1 t1)) a2 t2
  simpa using this
theorem there_drew {w : World} {b o n : Nat} (h : w.there b o n) : w.drew.there b o n := h
theorem ex_alloc {P : Program} {o : Oper} {a : Act} {w : World} {t : TypeId} {z : Value} (ho : o.op = .alloc t) (hz : (zeroValue t).run P w = .ok z w) : (execOp a.eval o).run P w = .ok (.value (.pointer (some ⟨w.heap.size, 0, none⟩))) (w.alloc (.cells z.cells t)) := by
  unfold execOp
  simp [ho, hz, Instr.alloc, newVar, newRow]
section
variable {P : Program} {ops : Array Oper} {Q : Exit → Act → World → Prop}
theorem pl_store {o : Oper} {rest : List Oper} {a : Act} {w w' : World} (hw : Region.wanted o (yielded ops a.tmps) = true) (hy : (execOp a.eval o).run P w = .ok .skip w') (hd : o.dst = none)
    (h : Pl P ops Q rest a w') : Pl P ops Q (o :: rest) a w := by
  refine ⟨wpList_step fun K hK => ?_⟩
  rw [if_pos hw]
  unfold Oper.wp
  rw [hy, Oper.upon_skip, hd]
  exact hK _ _ h.out
end
theorem setCells_size (w : World) (b o : Nat) (vs : List Value) : (w.setCells b o vs).heap.size = w.heap.size := size_sets b vs o w
theorem box_new {w w1 : World} {q : List Value} {a2 : Array Value} {t1 t2 : TypeId} (h : (w.alloc (.cells q.toArray t1)).alloc (.cells a2 t2) = w1) : Below w.heap.size w w1 ∧ w1.rangeAt w.heap.size 0 q ∧ w1.there (w.heap.size + 1) 0 a2.size ∧ w1.heap.size ≥ w.heap.size + 2 := by
  subst h
  have hb1 : Below w.heap.size w (w.alloc (.cells q.toArray t1)) := (Below.refl _ _).alloc (Nat.le_refl _) _
  have hb2 : Below (w.alloc (.cells q.toArray t1)).heap.size (w.alloc (.cells q.toArray t1)) ((w.alloc (.cells q.toArray t1)).alloc (.cells a2 t2)) := (Below.refl _ _).alloc (Nat.le_refl _) _
  refine ⟨hb1.trans (hb2.mono (by simp)), range_below (by simpa using range_new w q.toArray t1) hb2 (by simp), ?_, by simp⟩
  have := there_new (w.alloc (.cells q.toArray t1)) a2 t2
  simpa using this
theorem run_field2 (u t : List Value) (hu : u.length = 33) (w : World) : (Instr.field 61 (.agg (u ++ t).toArray) 0).run Try.prog w = .ok (.agg u.toArray) w := by
  unfold Instr.field
  simp only [Sem.run_bind, run_underlying Try.underlying61, Result.andThen_ok]
  simp [asAgg, part, isAgg, run_underlying Try.underlying59, run_size iszM]
  rw [← hu]; simp
theorem ex_field {P : Program} {o : Oper} {a : Act} {w : World} {t : TypeId} {x : Operand} {k : Nat} {xv v : Value} (ho : o.op = .field t x k) (hx : a.eval x = xv) (hr : (Instr.field t xv k).run P w = .ok v w) : (execOp a.eval o).run P w = .ok (.value v) w := by
  unfold execOp
  simp only [ho, hx, Sem.run_bind, hr, Result.andThen_ok, Sem.run_pure]
theorem results_tc {fn : Func} {p u : Tmp} {ty : TypeId} (h : fn.results = #[.tmp u, .cell p ty]) (tmps : Array Value) (P : Program) (w : World) {a : Addr} {v : Value} (ha : tmps.getD p undef = .pointer (some a)) (hv : (loadVar ty a).run P w = .ok v w) : (results fn tmps).run P w = .ok (.tuple #[tmps.getD u undef, v]) w := by
  simp only [Array.getD_eq_getD_getElem?] at ha
  simp only [results, h]
  simp [Result.andThen, ha, asAddr, hv]
def d0 : List Int := List.replicate 32 0
theorem zeroDg (w : World) : (zeroValue 29).run Try.prog w = .ok (.agg (v8 d0).toArray) w := by kernel_rfl
theorem build_d0 (w : World) : (Instr.build 29 #[]).run Try.prog w = .ok (.agg (v8 d0).toArray) w := by kernel_rfl
theorem mk0_cells (x : Mk) : x.cells = mkC x.e x.d ++ v8 x.t := rfl
set_option maxRecDepth 100000 in
set_option maxHeartbeats 2000000 in
theorem of_no (p : Value) (k : Int) (w : World) (h : NoMk w p) : Calls Try.prog 16 #[p, .int .i64 k] w fun e w' => e = .returned (.tuple #[.int .i64 0, .agg (v8 d0).toArray]) ∧ Below w.heap.size w w' := by
  have hzz := zeroDg
  have hbb := build_d0
  have hd32 : (v8 d0).toArray.size = 32 := by decide
  have hd1 : (v8 d0).toArray.all (·.oneCell') = true := all_one (v8_one d0)
  have hiD : (Try.prog.info? 29).map (·.size) = some (v8 d0).toArray.size := by rw [hd32]; exact iszD
  obtain ⟨z, hz⟩ : ∃ z, Hid (v8 d0 = z) := ⟨_, hide rfl⟩
  simp only [hz.out] at hzz hbb hd32 hd1 hiD ⊢
  clear hz
  go_enter Try.func16, Try.ntmps16
  go_upto_region 1 with fail
  go_name_world w1 hw1
  have hB1 : Below w.heap.size w w1 := by rw [← hw1]; exact (Below.refl _ _).alloc (Nat.le_refl _) _
  have hT1 : w1.there w.heap.size 0 z.toArray.size := by rw [← hw1]; exact there_new w z.toArray _
  clear hw1
  have cM := isMade_no p w1 (h.below hB1)
  go_wp2_with fail
  refine cM.mono ?_
  rintro _ wx ⟨rfl, hx⟩
  obtain rfl := hx.symm
  clear hx cM
  go_wp2_with (first | (refine wpList_build rfl 29 [] rfl [] (.agg z.toArray) rfl (hbb _) ?_) | (refine wpList_store_mid rfl 29 _ _ rfl _ 0 z.toArray rfl rfl hT1 hiD hd1 ?_))
  refine bodyPost_ret (results_tc rfl _ _ _ rfl (run_loadVar_mid (P := Try.prog) _ w.heap.size 0 29 z _ (World.rangeAt_setCells_same _ _ _ _ (by simpa using hT1)) Try.underlying29 rfl (by simpa using hiD))) rfl ?_
  exact ⟨rfl, below_sets (Nat.le_refl _) _ _ _ hB1⟩
/-- while Of tells -/
def SOf (w : World) (Z : Nat) (y : Mk) (x : World) : Prop := x.rangeAt Z 0 [Value.int .i64 y.e] ∧ x.rangeAt Z 1 (v8 y.d) ∧ x.there w.heap.size 0 32 ∧ Below w.heap.size w x
set_option maxRecDepth 100000 in
set_option maxHeartbeats 2000000 in
theorem of_yes (B b n : Nat) (N : Int) (m : Int → Option Mk) (k : Int) (hk : I64 k) (w : World) (h : MkAt w B b n N m) : Calls Try.prog 16 #[.pointer (some ⟨B, 0, none⟩), .int .i64 k] w fun e w' => e = .returned (.tuple #[.int .i64 ((m k).getD mk0).e, .agg (v8 ((m k).getD mk0).d).toArray]) ∧ Below w.heap.size w w' := by
  have hlk : ∀ w', MkAt w' B b n N m → (Instr.lookup 50 (.map (some b)) (.int .i64 k) false).run Try.prog w' = .ok (.agg ((m k).getD mk0).cells.toArray) w' := fun w' h' => h'.mp.get k hk
  have hx := h.val k
  generalize (m k).getD mk0 = x at *
  have hd32 : (v8 x.d).toArray.size = 32 := by simpa using hx.dl
  have hiD : (Try.prog.info? 29).map (·.size) = some (v8 x.d).length := by rw [v8_length, hx.dl]; exact iszD
  obtain ⟨u, hu⟩ : ∃ u, Hid (mkC x.e x.d = u) := ⟨_, hide rfl⟩
  obtain ⟨t, ht⟩ : ∃ t, Hid (v8 x.t = t) := ⟨_, hide rfl⟩
  have hu33 : u.length = 33 := by rw [← hu.out]; exact mkC_len _ hx.dl
  have hu1 : ∀ v ∈ u, v.oneCell' = true := by rw [← hu.out]; exact mkC_one _ _
  simp only [Mk.cells, hu.out, ht.out] at hlk
  have hzm := zeroMk
  obtain ⟨zm, hzz⟩ : ∃ z, Hid (([Value.int .i64 0] ++ v8 (List.replicate 32 0)) = z) := ⟨_, hide rfl⟩
  have hzm33 : zm.length = 33 := by rw [← hzz.out]; rfl
  simp only [hzz.out] at hzm
  clear ht hzz
  go_enter Try.func16, Try.ntmps16
  go_upto_region 1 with fail
  go_name_world w1 hw1
  have hB1 : Below w.heap.size w w1 := by rw [← hw1]; exact (Below.refl _ _).alloc (Nat.le_refl _) _
  have hT1 : w1.there w.heap.size 0 32 := by rw [← hw1]; exact there_newN w _ _ (by decide)
  have hs1 : w.heap.size < w1.heap.size := by rw [← hw1]; simp
  clear hw1
  have h1 := h.below hB1
  have cM := isMade_yes B b n N m w1 h1
  go_wp2_with fail
  refine cM.mono ?_
  rintro _ wx ⟨rfl, hx'⟩
  obtain rfl := hx'.symm
  clear hx' cM
  go_upto_region 3 with fail
  try simp only [Act.put]
  refine pl_begin ?_
  refine pl_take (d := some 11) (v := ?_) (by rfl) ?_ rfl ?_
  rotate_left
  · go_simp
    try with_reducible rfl
  simp only [Act.put, List.setIfInBounds_toArray, List.set_cons_zero, List.set_cons_succ]
  refine pl_take (d := some 12) (v := ?_) (by rfl) ?_ rfl ?_
  rotate_left
  · go_simp
    try with_reducible rfl
  simp only [Act.put, List.setIfInBounds_toArray, List.set_cons_zero, List.set_cons_succ]
  refine pl_take (d := some 13) (v := ?_) (by rfl) ?_ rfl ?_
  rotate_left
  · go_simp
    try with_reducible rfl
  simp only [Act.put, List.setIfInBounds_toArray, List.set_cons_zero, List.set_cons_succ]
  refine pl_take (d := some 14) (v := .map (some b)) (by rfl) (pl_one rfl rfl h1.c1 Try.underlying50 rfl) rfl ?_
  simp only [Act.put, List.setIfInBounds_toArray, List.set_cons_zero, List.set_cons_succ]
  refine pl_take (d := some 15) (v := ?_) (by rfl) ?_ rfl ?_
  rotate_left
  · go_simp
    try with_reducible rfl
  simp only [Act.put, List.setIfInBounds_toArray, List.set_cons_zero, List.set_cons_succ]
  refine pl_take (d := some 16) (v := .agg (u ++ t).toArray) (by rfl) (ex_look rfl rfl rfl (hlk w1 h1)) rfl ?_
  simp only [Act.put, List.setIfInBounds_toArray, List.set_cons_zero, List.set_cons_succ]
  refine pl_take (d := some 17) (v := .agg u.toArray) (by rfl) (ex_field rfl rfl (run_field2 u t hu33 _)) rfl ?_
  simp only [Act.put, List.setIfInBounds_toArray, List.set_cons_zero, List.set_cons_succ]
  refine pl_run (d := some 6) (v := .pointer (some ⟨w1.heap.size, 0, none⟩)) (w' := w1.alloc (.cells zm.toArray 59)) (by rfl) (ex_alloc rfl (hzm _)) rfl ?_
  simp only [Act.put, List.setIfInBounds_toArray, List.set_cons_zero, List.set_cons_succ]
  refine pl_store (w' := (w1.alloc (.cells zm.toArray 59)).setCells w1.heap.size 0 u) (by rfl) (ex_put (cs := u.toArray) rfl rfl rfl (there_newN _ _ _ (by simp [hzm33, hu33])) (by simpa [hu33] using iszM) (all_one hu1)) rfl ?_
  refine pl_nil ?_
  obtain ⟨hF1, hF2, hF3, hF4⟩ := fresh_store w1 zm.toArray 59 u (by simp [hzm33, hu33])
  generalize (w1.alloc (.cells zm.toArray 59)).setCells w1.heap.size 0 u = w7 at *
  obtain ⟨Z, hZ⟩ : ∃ Z, Z = w1.heap.size := ⟨_, rfl⟩
  rw [← hZ] at hF1 hF2 hs1 ⊢
  rw [← hu.out] at hF1
  have hS : SOf w Z x w7.drew := ⟨fun j v hv => by have := hF1 j v (by rcases j with _ | j <;> simp_all [mkC]); simpa using this, fun j v hv => by have := hF1 (1 + j) v (by rw [Nat.add_comm]; exact hv); simpa using this, there_drew (there_below hT1 hF2 hs1), (hB1.trans (hF2.mono (by omega))).drew⟩
  have hZw : w.heap.size < Z := hs1
  clear hF1 hF2 hF3 hF4 h1 hlk hT1 hB1 hZ hu hu1 hu33 hzm hzm33 hs1
  go_wp2_with fail
  refine hs_begin (S := SOf w Z x) 6 rfl (by kernel_rfl) ?_
  obtain ⟨w8, hw8⟩ : ∃ w8, w7.drew = w8 := ⟨_, rfl⟩
  rw [hw8] at hS ⊢
  clear hw8
  refine hs_take (i := 0) (d := some 18) (v := ?_) rfl (by kernel_rfl) (by kernel_rfl) (by kernel_rfl) (by rfl) ?_ hS rfl ?_
  rotate_left
  · intro w' hw
    go_simp
    try with_reducible rfl
  simp only [Act.put, List.setIfInBounds_toArray, List.set_cons_zero, List.set_cons_succ]
  refine hs_take (i := 1) (d := some 19) (v := .int .i64 x.e) rfl (by kernel_rfl) (by kernel_rfl) (by kernel_rfl) (by rfl) (fun w' hw => pl_one rfl rfl (show w'.cell? ⟨Z, 0, none⟩ = some (.int .i64 x.e) from hw.1 0 _ rfl) Try.underlying3 rfl) hS rfl ?_
  simp only [Act.put, List.setIfInBounds_toArray, List.set_cons_zero, List.set_cons_succ]
  refine hs_take (i := 2) (d := some 20) (v := ?_) rfl (by kernel_rfl) (by kernel_rfl) (by kernel_rfl) (by rfl) ?_ hS rfl ?_
  rotate_left
  · intro w' hw
    go_simp
    try with_reducible rfl
  simp only [Act.put, List.setIfInBounds_toArray, List.set_cons_zero, List.set_cons_succ]
  refine hs_take (i := 3) (d := some 21) (v := .agg (v8 x.d).toArray) rfl (by kernel_rfl) (by kernel_rfl) (by kernel_rfl) (by rfl) (fun w' hw => ex_mid rfl rfl hw.2.1 Try.underlying29 rfl hiD) hS rfl ?_
  simp only [Act.put, List.setIfInBounds_toArray, List.set_cons_zero, List.set_cons_succ]
  refine hs_take (i := 4) (d := some 4) (v := ?_) rfl (by kernel_rfl) (by kernel_rfl) (by kernel_rfl) (by rfl) ?_ hS rfl ?_
  rotate_left
  · intro w' hw
    go_simp
    try with_reducible rfl
  simp only [Act.put, List.setIfInBounds_toArray, List.set_cons_zero, List.set_cons_succ]
  have hS5 : SOf w Z x (w8.setCells w.heap.size 0 (v8 x.d)) := ⟨World.rangeAt_setCells_apart hS.1 _ _ _ (.inl (by omega)), World.rangeAt_setCells_apart hS.2.1 _ _ _ (.inl (by omega)), World.there_setCells hS.2.2.1 _ _ _, below_sets (Nat.le_refl _) _ _ _ hS.2.2.2⟩
  refine hs_store (i := 5) (w' := w8.setCells w.heap.size 0 (v8 x.d)) rfl (by kernel_rfl) (by rfl) (ex_put (cs := (v8 x.d).toArray) rfl rfl rfl (by rw [hd32]; exact hS.2.2.1) (by rw [hd32]; exact iszD) (all_one (v8_one _))) rfl hS5 ?_
  refine hs_done (by kernel_rfl) ?_
  go_wp2_with fail
  refine bodyPost_ret (results_tc rfl _ _ _ rfl (run_loadVar_mid (P := Try.prog) _ w.heap.size 0 29 (v8 x.d) _ (World.rangeAt_setCells_same _ _ _ _ (by have := hS.2.2.1; rwa [← hx.dl, ← v8_length] at this)) Try.underlying29 rfl hiD)) rfl ?_
  exact ⟨rfl, hS5.2.2.2⟩
end Go.Proofs.Ytfaagiilldkdgaa
