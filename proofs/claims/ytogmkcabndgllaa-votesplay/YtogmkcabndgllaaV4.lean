/- New, isMade, Of -/
import Derived.Test.YtogmkcabndgllaaCount
import Derived.Deep.Cut
import Derived.Lib.ItoaWalk
import Derived.Laws.EntriesVeiled
namespace Go.Proofs.Ytogmkcabndgllaa
open Go.RowKit
/-- a book that no call made -/
def NoBook (w : World) (v : Value) : Prop := v = .pointer none ∨ ∃ B, v = .pointer (some ⟨B, 0, none⟩) ∧ B < w.heap.size ∧ w.cell? ⟨B, 0, none⟩ = some (.int .i64 0)
theorem NoBook.below {w w' : World} {v : Value} (h : NoBook w v) (hb : Below w.heap.size w w') : NoBook w' v := by
  rcases h with h | ⟨B, h, h1, h2⟩
  · exact .inl h
  · exact .inr ⟨B, h, Nat.lt_of_lt_of_le h1 hb.size, (hb.cell (p := ⟨B, 0, none⟩) h1).trans h2⟩
theorem ret_tuple {a b : Value} (h : a = b) : Ending.returned a = .returned b := by rw [h]
set_option maxHeartbeats 400000 in
theorem isMade_yes (B b : Nat) (N : Int) (st : List On) (w : World) (h : BookAt w B b N st) : Calls Try.prog 23 #[.pointer (some ⟨B, 0, none⟩)] w fun e w' => e = .returned (.bool true) ∧ w' = w := by
  have c0 := h.c0
  have hN : N > 0 := by have := h.bk.good; omega
  have hd : decide (N > 0) = true := decide_eq_true hN
  clear h
  go_enter Try.func23, Try.ntmps23
  go_wp2
  go_ret
  exact ⟨by simp, rfl⟩
set_option maxHeartbeats 400000 in
theorem isMade_no (v : Value) (w : World) (h : NoBook w v) : Calls Try.prog 23 #[v] w fun e w' => e = .returned (.bool false) ∧ w' = w := by
  rcases h with rfl | ⟨B, rfl, _, c0⟩
  · go_enter Try.func23, Try.ntmps23
    go_wp2
    go_ret
    exact ⟨rfl, rfl⟩
  · go_enter Try.func23, Try.ntmps23
    go_wp2
    go_ret
    exact ⟨rfl, rfl⟩
set_option maxHeartbeats 400000 in
theorem new_no (n : Int) (w : World) (h : goodB n = false) : Calls Try.prog 7 #[.int .i64 n] w fun e w' => e = .returned (.pointer none) ∧ w' = w := by
  have cg := good_any n w
  rw [h] at cg
  clear h
  go_enter Try.func7, Try.ntmps7
  go_wp2_with fail
  refine cg.mono ?_
  rintro _ wx ⟨rfl, hx⟩
  obtain rfl := hx.symm
  clear hx
  go_wp2_with fail
  go_ret
  exact ⟨rfl, rfl⟩
set_option maxHeartbeats 400000 in
theorem new_yes (n : Int) (w : World) (h : goodB n = true) : Calls Try.prog 7 #[.int .i64 n] w fun e w' => e = .returned (.pointer (some ⟨w.heap.size + 1, 0, none⟩)) ∧ BookAt w' (w.heap.size + 1) w.heap.size n [] ∧ Below w.heap.size w w' := by
  have cg := good_any n w
  rw [h] at cg
  have hg := goodB_true h
  clear h
  have hmm := @run_makeMap Try.prog
  go_enter Try.func7, Try.ntmps7
  go_wp2_with fail
  refine cg.mono ?_
  rintro _ wx ⟨rfl, hx⟩
  obtain rfl := hx.symm
  clear hx
  go_wp2_with fail
  go_ret
  have hb1 : Below w.heap.size w (w.alloc (.map #[] 0)) := (Below.refl _ _).alloc (Nat.le_refl _) _
  have hb2 : Below (w.alloc (.map #[] 0)).heap.size (w.alloc (.map #[] 0)) ((w.alloc (.map #[] 0)).alloc (.cells #[.int .i64 n, .map (some w.heap.size)] 55)) := (Below.refl _ _).alloc (Nat.le_refl _) _
  have hr := range_new (w.alloc (.map #[] 0)) #[.int .i64 n, .map (some w.heap.size)] 55
  have e1 : (w.alloc (.map #[] 0)).heap.size = w.heap.size + 1 := by simp
  refine ⟨rfl, ⟨by simp, ?_, ?_, (MapB.made w).at (hb2.block _ (by simp)), ⟨⟨hg.1, hg.2.1⟩, by simp, by simp, by simp, List.Pairwise.nil⟩⟩, hb1.trans (hb2.mono (by simp))⟩
  · have := hr 0 _ rfl
    rwa [e1] at this
  · have := hr 1 _ rfl
    rwa [e1] at this
theorem two_new {w w1 : World} {a1 a2 : Array Value} {t1 t2 : TypeId} (h : (w.alloc (.cells a1 t1)).alloc (.cells a2 t2) = w1) : Below w.heap.size w w1 ∧ w1.there w.heap.size 0 a1.size ∧ w1.there (w.heap.size + 1) 0 a2.size ∧ w1.heap.size ≥ w.heap.size + 2 := by
  subst h
  have hb1 : Below w.heap.size w (w.alloc (.cells a1 t1)) := (Below.refl _ _).alloc (Nat.le_refl _) _
  have hb2 : Below (w.alloc (.cells a1 t1)).heap.size (w.alloc (.cells a1 t1)) ((w.alloc (.cells a1 t1)).alloc (.cells a2 t2)) := (Below.refl _ _).alloc (Nat.le_refl _) _
  refine ⟨hb1.trans (hb2.mono (by simp)), there_below (there_new w a1 t1) hb2 (by simp), ?_, by simp⟩
  have := there_new (w.alloc (.cells a1 t1)) a2 t2
  simpa using this
theorem there_newN (w : World) (arr : Array Value) (t : TypeId) {n : Nat} (h : arr.size = n) : (w.alloc (.cells arr t)).there w.heap.size 0 n := h ▸ there_new w arr t
theorem all_one {cs : List Value} (h : ∀ v ∈ cs, v.oneCell' = true) : cs.toArray.all (·.oneCell') = true := by
  rw [Array.all_eq_true_iff_forall_mem]
  intro v hv
  exact h v (by simpa using hv)
theorem exec_load {P : Program} {o : Oper} {a : Act} {w : World} {ty : TypeId} {x : Operand} {b off : Nat} {v : Value} (ho : o.op = .load ty x) (hx : a.eval x = .pointer (some ⟨b, off, none⟩)) (hr : (loadVar ty ⟨b, off, none⟩).run P w = .ok v w) : (execOp a.eval o).run P w = .ok (.value v) w := by
  unfold execOp
  simp only [ho, hx, Instr.loadAt, Instr.sureAddr, Sem.run_bind, Sem.run_pure, Result.andThen_ok, hr]
theorem exec_store {P : Program} {o : Oper} {a : Act} {w w' : World} {ty : TypeId} {x y : Operand} {b off : Nat} {v : Value} (ho : o.op = .store ty x y) (hx : a.eval x = .pointer (some ⟨b, off, none⟩)) (hy : a.eval y = v) (hr : (storeVar ty ⟨b, off, none⟩ v).run P w = .ok () w') : (execOp a.eval o).run P w = .ok .skip w' := by
  unfold execOp
  simp only [ho, hx, hy, Instr.storeAt, Instr.sureAddr, Sem.run_bind, Sem.run_pure, Result.andThen_ok, hr]
theorem results_cct {fn : Func} {p q r : Tmp} {t u : TypeId} (h : fn.results = #[.cell p t, .cell q u, .tmp r]) (tmps : Array Value) (P : Program) (w : World) {a b : Addr} {v x : Value} (ha : tmps.getD p undef = .pointer (some a)) (hb : tmps.getD q undef = .pointer (some b)) (hv : (loadVar t a).run P w = .ok v w) (hx : (loadVar u b).run P w = .ok x w) :
    (results fn tmps).run P w = .ok (.tuple #[v, x, tmps.getD r undef]) w := by
  simp only [Array.getD_eq_getD_getElem?] at ha hb
  simp only [results, h]
  simp [Sem.run_bind, Result.andThen, ha, hb, asAddr, hv, hx]
def on0 : On := ⟨0, vt0, List.replicate 16 0⟩
theorem on0_ok : on0.ok := ⟨by unfold I64 on0; decide, vt0_ok, by decide, by unfold B8 on0; decide⟩
theorem sigOf_eq (f : Option On) : sigOf f = (f.getD on0).sig := by cases f <;> rfl
theorem iszV : (Try.prog.info? 31).map (·.size) = some 36 := by kernel_rfl
theorem iszS : (Try.prog.info? 63).map (·.size) = some 52 := by kernel_rfl
theorem find_ok {N : Int} {st : List On} (h : Bk N st) (k n : Int) : ((find st k n).getD on0).ok := by
  cases hf : find st k n with
  | none => exact on0_ok
  | some x => exact h.ok x (find_some hf).1
theorem there_drew {w : World} {b o n : Nat} (h : w.there b o n) : w.drew.there b o n := h
def SOf (w : World) (Z : Nat) (y : On) (x : World) : Prop := x.rangeAt Z 0 y.v.cells ∧ x.rangeAt Z 36 (v8 y.t) ∧ x.there w.heap.size 0 36 ∧ x.there (w.heap.size + 1) 0 16 ∧ Below w.heap.size w x
set_option maxRecDepth 100000 in
set_option maxHeartbeats 2000000 in
theorem of_yes (B b : Nat) (N : Int) (st : List On) (k n : Int) (hk : I64 k) (hn : I64 n) (w : World) (h : BookAt w B b N st) :
    Calls Try.prog 14 #[.pointer (some ⟨B, 0, none⟩), .int .i64 k, .int .i64 n] w fun e w' => e = .returned (.tuple #[.agg ((find st k n).getD on0).v.cells.toArray, .agg (v8 ((find st k n).getD on0).t).toArray, .bool (find st k n).isSome]) ∧ Below w.heap.size w w' := by
  have hlook : ∀ w', BookAt w' B b N st → (Instr.lookup 53 (.map (some b)) (.agg #[.int .i64 k, .int .i64 n]) true).run Try.prog w' = .ok (.tuple #[.agg (sigOf (find st k n)).toArray, .bool (find st k n).isSome]) w' := fun w' h' => h'.m.look h'.bk k n hk hn
  have hy := find_ok h.bk k n
  rw [sigOf_eq] at hlook
  generalize (find st k n).getD on0 = y at *
  generalize (find st k n).isSome = f at *
  obtain ⟨q, hq⟩ : ∃ q, Hid (y.sig.toArray = q) := ⟨_, hide rfl⟩
  have hq52 : q.size = 52 := by rw [← hq.out]; simpa using hy.sl
  have hq1 : q.all (·.oneCell') = true := by rw [← hq.out]; exact all_one y.sone
  have hqe : Hid (q.toList = y.v.cells ++ v8 y.t) := hide (by rw [← hq.out]; rfl)
  rw [hq.out] at hlook
  have hiq : (Try.prog.info? 63).map (·.size) = some q.size := by rw [hq52]; exact iszS
  have hV36 : y.v.cells.toArray.size = 36 := by simpa using hy.v.len
  have hT16 : (v8 y.t).toArray.size = 16 := by simpa using hy.tl
  have hiV : (Try.prog.info? 31).map (·.size) = some y.v.cells.length := by rw [hy.v.len]; exact iszV
  have hiT : (Try.prog.info? 33).map (·.size) = some (v8 y.t).length := by rw [v8_length, hy.tl]; exact iszT
  clear hk hn hq
  go_enter Try.func14, Try.ntmps14
  go_upto_region 1 with fail
  go_name_world w1 hw1
  obtain ⟨hB1, hth1, hth2, hsz1⟩ := two_new hw1
  simp only [List.size_toArray, List.length_cons, List.length_nil, Nat.zero_add, Nat.reduceAdd] at hth1 hth2
  clear hw1
  have h1 := h.below hB1
  have cM := isMade_yes B b N st w1 h1
  have c1 := h1.c1
  have hlk := hlook w1 h1
  have hB : B < w1.heap.size := h1.lt
  clear h h1 hlook
  go_wp2_with fail
  refine cM.mono ?_
  rintro _ wx ⟨rfl, hx⟩
  obtain rfl := hx.symm
  clear hx
  clear cM
  go_upto_region 4 with (first
    | (at_lookup; refine wpList_lookup_eq rfl _ _ _ _ rfl _ _ _ rfl rfl hlk ?_)
    | (refine wpList_store_mid rfl 63 _ _ rfl _ 0 q rfl rfl (there_newN _ _ _ hq52.symm) hiq hq1 ?_))
  go_name_world w7 hw7
  have hF : w7.rangeAt w1.heap.size 0 (y.v.cells ++ v8 y.t) ∧ Below w1.heap.size w1 w7 := by
    rw [← hw7, ← hqe.out]
    exact ⟨(fresh_store w1 _ _ _ (by simpa using hq52)).1, (fresh_store w1 _ _ _ (by simpa using hq52)).2.1⟩
  clear hw7
  obtain ⟨hF1, hF2⟩ := hF
  obtain ⟨Z, hZ⟩ : ∃ Z, Z = w1.heap.size := ⟨_, rfl⟩
  rw [← hZ] at hF1 hF2 hsz1 hB
  have hFT := range_right hF1
  rw [hy.v.len, Nat.zero_add] at hFT
  have hb7 : Below w.heap.size w w7 := hB1.trans (hF2.mono (by omega))
  have hS7 : SOf w Z y w7.drew := ⟨(World.rangeAt_drew _ _ _ _).2 (range_left hF1), (World.rangeAt_drew _ _ _ _).2 hFT, there_drew (there_below hth1 hF2 (by omega)), there_drew (there_below hth2 hF2 (by omega)), hb7.drew⟩
  have hZw : w.heap.size + 2 ≤ Z := hsz1
  clear hF1 hF2 hFT hb7 hth1 hth2 hsz1 hB hB1 hlk c1 hqe hq1 hq52 hiq
  rw [← hZ]
  clear hZ
  refine hs_begin (S := SOf w Z y) 8 rfl (by kernel_rfl) ?_
  obtain ⟨w8, hw8⟩ : ∃ w8, w7.drew = w8 := ⟨_, rfl⟩
  rw [hw8] at hS7 ⊢
  clear hw8
  have hS := hS7
  clear hS7
  refine hs_take (i := 0) (d := some 27) (v := ?_) rfl (by kernel_rfl) (by kernel_rfl) (by kernel_rfl) (by rfl) ?_ hS rfl ?_
  rotate_left
  · intro w' hw
    go_simp
    try with_reducible rfl
  simp only [Act.put, List.setIfInBounds_toArray, List.set_cons_zero, List.set_cons_succ]
  refine hs_take (i := 1) (d := some 28) (v := .agg y.v.cells.toArray) rfl (by kernel_rfl) (by kernel_rfl) (by kernel_rfl) (by rfl) (fun w' hw => exec_load rfl rfl (run_loadVar_mid (P := Try.prog) w' Z 0 31 y.v.cells _ hw.1 Try.underlying31 rfl hiV)) hS rfl ?_
  simp only [Act.put, List.setIfInBounds_toArray, List.set_cons_zero, List.set_cons_succ]
  refine hs_take (i := 2) (d := some 29) (v := ?_) rfl (by kernel_rfl) (by kernel_rfl) (by kernel_rfl) (by rfl) ?_ hS rfl ?_
  rotate_left
  · intro w' hw
    go_simp
    try with_reducible rfl
  simp only [Act.put, List.setIfInBounds_toArray, List.set_cons_zero, List.set_cons_succ]
  refine hs_take (i := 3) (d := some 30) (v := .agg (v8 y.t).toArray) rfl (by kernel_rfl) (by kernel_rfl) (by kernel_rfl) (by rfl) (fun w' hw => exec_load rfl rfl (run_loadVar_mid (P := Try.prog) w' Z 36 33 (v8 y.t) _ hw.2.1 Try.underlying33 rfl hiT)) hS rfl ?_
  simp only [Act.put, List.setIfInBounds_toArray, List.set_cons_zero, List.set_cons_succ]
  refine hs_take (i := 4) (d := some 31) (v := ?_) rfl (by kernel_rfl) (by kernel_rfl) (by kernel_rfl) (by rfl) ?_ hS rfl ?_
  rotate_left
  · intro w' hw
    go_simp
    try with_reducible rfl
  simp only [Act.put, List.setIfInBounds_toArray, List.set_cons_zero, List.set_cons_succ]
  have hS6 : SOf w Z y (w8.setCells w.heap.size 0 y.v.cells) := ⟨World.rangeAt_setCells_apart hS.1 _ _ _ (.inl (by omega)), World.rangeAt_setCells_apart hS.2.1 _ _ _ (.inl (by omega)), World.there_setCells hS.2.2.1 _ _ _, World.there_setCells hS.2.2.2.1 _ _ _, below_sets (Nat.le_refl _) _ _ _ hS.2.2.2.2⟩
  refine hs_store (i := 5) (w' := w8.setCells w.heap.size 0 y.v.cells) rfl (by kernel_rfl) (by rfl) (exec_store rfl rfl rfl (run_storeVar_mid _ _ _ 31 y.v.cells.toArray (by rw [hV36]; exact hS.2.2.1) (by rw [hV36]; exact iszV) (all_one y.v.one))) rfl hS6 ?_
  have hS7 : SOf w Z y ((w8.setCells w.heap.size 0 y.v.cells).setCells (w.heap.size + 1) 0 (v8 y.t)) := ⟨World.rangeAt_setCells_apart hS6.1 _ _ _ (.inl (by omega)), World.rangeAt_setCells_apart hS6.2.1 _ _ _ (.inl (by omega)), World.there_setCells hS6.2.2.1 _ _ _, World.there_setCells hS6.2.2.2.1 _ _ _, below_sets (Nat.le_succ _) _ _ _ hS6.2.2.2.2⟩
  refine hs_store (i := 6) (w' := (w8.setCells w.heap.size 0 y.v.cells).setCells (w.heap.size + 1) 0 (v8 y.t)) rfl (by kernel_rfl) (by rfl) (exec_store rfl rfl rfl (run_storeVar_mid _ _ _ 33 (v8 y.t).toArray (by rw [hT16]; exact hS6.2.2.2.1) (by rw [hT16]; exact iszT) (all_one (v8_one y.t)))) rfl hS7 ?_
  refine hs_take (i := 7) (d := some 8) (v := ?_) rfl (by kernel_rfl) (by kernel_rfl) (by kernel_rfl) (by rfl) ?_ hS7 rfl ?_
  rotate_left
  · intro w' hw
    go_simp
    try with_reducible rfl
  simp only [Act.put, List.setIfInBounds_toArray, List.set_cons_zero, List.set_cons_succ]
  refine hs_done (by kernel_rfl) ?_
  go_wp2_with fail
  refine bodyPost_ret (results_cct rfl _ _ _ rfl rfl (run_loadVar_mid (P := Try.prog) _ w.heap.size 0 31 y.v.cells _ (World.rangeAt_setCells_apart (World.rangeAt_setCells_same _ _ _ _ (by have := hS.2.2.1; rwa [← hy.v.len] at this)) _ _ _ (.inl (by omega))) Try.underlying31 rfl hiV) (run_loadVar_mid (P := Try.prog) _ (w.heap.size + 1) 0 33 (v8 y.t) _ (World.rangeAt_setCells_same _ _ _ _ (by have := hS6.2.2.2.1; rwa [← hy.tl, ← v8_length] at this)) Try.underlying33 rfl hiT)) rfl ?_
  exact ⟨rfl, hS7.2.2.2.2⟩
end Go.Proofs.Ytogmkcabndgllaa
