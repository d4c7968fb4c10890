/- messages, read: kind 2; messages, read: kind 3; messages, read: kind 4; messages, read: kind 5; messages, read: kind 6 -/
import Derived.Test.YtahdmajppnffeaaJM19
namespace Go.Proofs.Ytahdmajppnffeaa
open Go.RowKit
open Sha Tal
set_option linter.unusedVariables false
set_option linter.unusedSimpArgs false
set_option maxRecDepth 100000 in
set_option maxHeartbeats 1000000 in
theorem rmsgK2 (Q R : Nat) (s : Rst) (w : World) (h : RS w Q R s) (hl : s.1.length ≤ 40000) (hk : (kiS 8 s).1 = 2) : Calls Try.prog 15 #[.pointer (some ⟨Q, 0, none⟩)] w fun en w' => ∃ m : Mg, en = .returned (.agg m.ms.cells.toArray) ∧ m.pure = (mg2 (kiS 8 s).2).1 ∧ m.ok ∧ m.At w' ∧ m.Bk (fun b => w.heap.size ≤ b) ∧ RS w' Q R (mg2 (kiS 8 s).2).2 ∧ Kept w R Q w' := by
  have hRw := h.st.1.1
  have hQw := h.mr.lt
  have ck := fun w0 h0 => kindRS Q R 8 s w0 h0
  have l0 := kiS_len 8 s
  unfold mg2
  generalize kiS 8 s = p_ at ck l0 hk ⊢
  obtain ⟨k, s0⟩ := p_
  simp only at ck l0 hk ⊢
  subst hk
  have c_a := fun w0 h0 => rvoteS Q R s0 w0 h0 (by omega)
  have l_a : (voS s0).2.1.length ≤ s0.1.length := voS_len _
  have ok_a := fun hb => voS_ok s0 hb
  generalize voS s0 = p_ at c_a l_a ok_a ⊢
  obtain ⟨v_a, s_a⟩ := p_
  simp only at c_a l_a ok_a ⊢
  obtain ⟨zc, hzl, hzr⟩ : ∃ z : List Value, z.length = 119 ∧ ∀ w : World, (zeroValue 37).run Try.prog w = .ok (.agg z.toArray) w := ⟨_, (Ms.plain_ok 0 0 0 Vt.zero_ok zeros32_len zeros32_byte).len, zeroM⟩
  have hbk := build_kind 2
  have hql := (ms0_ok 2).len
  have hq1 := (ms0_ok 2).one
  have hiq : (Try.prog.info? 37).map (·.size) = some (Ms.plain 2 0 0 Vt.zero zeros32).cells.length := by rw [hql]; exact iszM
  have hk0 : ∀ (w' : World) b, w'.rangeAt b 0 (Ms.plain 2 0 0 Vt.zero zeros32).cells → w'.cell? ⟨b, 0, none⟩ = some (.int .i64 2) := fun w' b h => ((ms0_ok 2).at h).k
  obtain ⟨qk, hqk⟩ : ∃ q, Hid ((Ms.plain 2 0 0 Vt.zero zeros32).cells = q) := ⟨_, hide rfl⟩
  simp only [hqk.out] at hbk hql hq1 hiq hk0
  obtain ⟨hB1, hr1, hs1⟩ := boxed_new w zc 37
  have ht1 := there_newN w zc.toArray 37 (n := 119) (by simp [hzl])
  go_enter Try.func15, Try.ntmps15
  go_upto_region 0 with fail
  try simp only [Act.put]
  refine pl_begin ?_
  refine pl_run (d := some 2) (v := .pointer (some ⟨w.heap.size, 0, none⟩)) (w' := w.alloc (.cells zc.toArray 37)) (by rfl) (ex_alloc rfl (hzr _)) rfl ?_
  simp only [Act.put, List.setIfInBounds_toArray, List.set_cons_zero, List.set_cons_succ]
  refine pl_nil ?_
  obtain ⟨W1, hW1⟩ : ∃ W, w.alloc (.cells zc.toArray 37) = W := ⟨_, rfl⟩
  rw [hW1] at hB1 hr1 hs1 ht1 ⊢
  clear hW1 hr1
  have S1 := h.below hB1
  go_upto_region 1 with fail
  try simp only [Act.put]
  refine pl_begin ?_
  refine pl_take (d := some 4) (v := ?_) (by rfl) ?_ rfl ?_
  rotate_left
  · go_simp
    try with_reducible rfl
  simp only [Act.put, List.setIfInBounds_toArray, List.set_cons_zero, List.set_cons_succ]
  refine pl_call (d := some 5) (by rfl) (by go_simp; first | done | exact ⟨rfl, rfl⟩ | with_reducible rfl) rfl ?_
  refine (ck W1 S1).mono ?_
  rintro _ w2 ⟨rfl, S2, k2⟩
  refine ⟨_, rfl, ?_⟩
  simp only [Act.put, List.setIfInBounds_toArray, List.set_cons_zero, List.set_cons_succ]
  refine pl_take (d := some 6) (v := .agg qk.toArray) (by rfl) (ex_build (parts := [(0, .tmp 5)]) rfl rfl (hbk _)) rfl ?_
  simp only [Act.put, List.setIfInBounds_toArray, List.set_cons_zero, List.set_cons_succ]
  refine pl_run (d := some 3) (v := .pointer (some ⟨w2.heap.size, 0, none⟩)) (w' := w2.alloc (.cells zc.toArray 37)) (by rfl) (ex_alloc rfl (hzr _)) rfl ?_
  simp only [Act.put, List.setIfInBounds_toArray, List.set_cons_zero, List.set_cons_succ]
  refine pl_store (w' := (w2.alloc (.cells zc.toArray 37)).setCells w2.heap.size 0 qk) (by rfl) (ex_put (cs := qk.toArray) rfl rfl rfl (there_newN _ _ _ (by simp [hzl, hql])) (by simpa using hiq) (all_one hq1)) rfl ?_
  refine pl_nil ?_
  obtain ⟨hF1, hF2, hF3, -⟩ := fresh_store w2 zc.toArray 37 qk (by simp [hzl, hql])
  have hF4 := World.there_setCells (there_newN w2 zc.toArray 37 (n := 119) (by simp [hzl])) w2.heap.size 0 qk
  obtain ⟨w3, hw3⟩ : ∃ W, (w2.alloc (.cells zc.toArray 37)).setCells w2.heap.size 0 qk = W := ⟨_, rfl⟩
  rw [hw3] at hF1 hF2 hF3 hF4 ⊢
  clear hw3
  have hc0 := hk0 _ _ hF1
  have k3 : Kept w R Q w3 := (((Kept.refl w R Q).below hB1).trans k2).below hF2
  have z2 := k2.size
  rw [← hqk.out] at hF1
  have V3 : MV w Q R w.heap.size w2.heap.size 119 (Ms.plain 2 0 0 Vt.zero zeros32).cells s0 w3 := ⟨hF1, hF4, there_below (there_blk ht1 (k2.block _ hs1 (by omega) (by omega))) hF2 (by omega), k3, S2.below hF2, by have := hF2.size; omega, by omega, Nat.le_refl _, by have := hB1.size; omega, by omega, hRw, hQw⟩
  have hww : w.heap.size < w2.heap.size := by omega
  clear hF1 hF2 hF4 ht1 hB1 S1 S2 k2 k3 hk0 hbk hql hq1 hiq hqk h ck hzr hzl
  go_upto_region 2 with fail
  try simp only [Act.put]
  refine pl_begin ?_
  refine pl_take (d := some 7) (v := ?_) (by rfl) ?_ rfl ?_
  rotate_left
  · go_simp
    try with_reducible rfl
  simp only [Act.put, List.setIfInBounds_toArray, List.set_cons_zero, List.set_cons_succ]
  refine pl_take (d := some 8) (v := .int .i64 2) (by rfl) (pl_one rfl rfl hc0 Try.underlying3 rfl) rfl ?_
  simp only [Act.put, List.setIfInBounds_toArray, List.set_cons_zero, List.set_cons_succ]
  refine pl_nil ?_
  clear hc0
  go_upto_region 7 with fail
  try simp only [Act.put]
  refine pl_begin ?_
  refine pl_take (d := some 31) (v := ?_) (by rfl) ?_ rfl ?_
  rotate_left
  · go_simp
    try with_reducible rfl
  simp only [Act.put, List.setIfInBounds_toArray, List.set_cons_zero, List.set_cons_succ]
  refine pl_call (d := some 32) (by rfl) (by go_simp; first | done | exact ⟨rfl, rfl⟩ | with_reducible rfl) rfl ?_
  refine (c_a w3 V3.rs).mono ?_
  rintro _ wd ⟨rfl, Sd, kd⟩
  refine ⟨_, rfl, ?_⟩
  simp only [Act.put, List.setIfInBounds_toArray, List.set_cons_zero, List.set_cons_succ]
  refine pl_take (d := some 33) (v := ?_) (by rfl) ?_ rfl ?_
  rotate_left
  · go_simp
    try with_reducible rfl
  simp only [Act.put, List.setIfInBounds_toArray, List.set_cons_zero, List.set_cons_succ]
  have hv := ok_a V3.rs.st.bs
  have Vd := V3.on kd Sd
  have Ve := Vd.set 7 v_a.cells (put_vt v_a hv Vt.zero_ok Vd.row (Vd.part 7 36 (by decide)))
  have hvl := hv.len
  refine pl_store (w' := wd.setCells w2.heap.size 7 v_a.cells) (by rfl) (ex_put (cs := v_a.cells.toArray) rfl rfl rfl (by simpa [hvl] using Vd.part 7 36 (by decide)) (by simpa [hvl] using iszVo) (all_one (Vt.one v_a))) rfl ?_
  refine pl_nil ?_
  obtain ⟨we, hwe⟩ : ∃ W, wd.setCells w2.heap.size 7 v_a.cells = W := ⟨_, rfl⟩
  rw [hwe] at Ve ⊢
  clear hwe
  clear Vd Sd kd V3
  have rpc := Ve.row
  have hmo : Mg.ok ⟨2, 0, 0, 0, 0, false, ⟨none, 0, []⟩, v_a, 0, 0, 0, ⟨none, 0, []⟩, ⟨none, 0, []⟩, zeros32, Vt.zero, ⟨none, 0, []⟩, ⟨#[]⟩, ⟨none, 0, []⟩⟩ := ⟨hv, Vt.zero_ok, zeros32_len, zeros32_byte⟩
  have hpl : (Mg.ms ⟨2, 0, 0, 0, 0, false, ⟨none, 0, []⟩, v_a, 0, 0, 0, ⟨none, 0, []⟩, ⟨none, 0, []⟩, zeros32, Vt.zero, ⟨none, 0, []⟩, ⟨#[]⟩, ⟨none, 0, []⟩⟩).cells.length = 119 := hmo.ms.len
  have hp1 := hmo.ms.one
  have hip : (Try.prog.info? 37).map (·.size) = some (Mg.ms ⟨2, 0, 0, 0, 0, false, ⟨none, 0, []⟩, v_a, 0, 0, 0, ⟨none, 0, []⟩, ⟨none, 0, []⟩, zeros32, Vt.zero, ⟨none, 0, []⟩, ⟨#[]⟩, ⟨none, 0, []⟩⟩).cells.length := by rw [hpl]; exact iszM
  have rpc : we.rangeAt w2.heap.size 0 (Mg.ms ⟨2, 0, 0, 0, 0, false, ⟨none, 0, []⟩, v_a, 0, 0, 0, ⟨none, 0, []⟩, ⟨none, 0, []⟩, zeros32, Vt.zero, ⟨none, 0, []⟩, ⟨#[]⟩, ⟨none, 0, []⟩⟩).cells := rpc
  obtain ⟨pc, hpc⟩ : ∃ p, Hid ((Mg.ms ⟨2, 0, 0, 0, 0, false, ⟨none, 0, []⟩, v_a, 0, 0, 0, ⟨none, 0, []⟩, ⟨none, 0, []⟩, zeros32, Vt.zero, ⟨none, 0, []⟩, ⟨#[]⟩, ⟨none, 0, []⟩⟩).cells = p) := ⟨_, hide rfl⟩
  simp only [hpc.out] at hpl hip hp1 rpc
  go_upto_region 22 with fail
  try simp only [Act.put]
  refine pl_begin ?_
  refine pl_take (d := some 121) (v := .agg pc.toArray) (by rfl) (ex_mid rfl rfl rpc Try.underlying37 rfl hip) rfl ?_
  simp only [Act.put, List.setIfInBounds_toArray, List.set_cons_zero, List.set_cons_succ]
  refine pl_store (w' := we.setCells w.heap.size 0 pc) (by rfl) (ex_put (cs := pc.toArray) rfl rfl rfl (by simpa [hpl] using Ve.ans) (by simpa using hip) (all_one hp1)) rfl ?_
  refine pl_nil ?_
  have hlow : Below w.heap.size we (we.setCells w.heap.size 0 pc) := below_sets (Nat.le_refl _) pc 0 _ (Below.refl _ we)
  have hrs := run_loadVar_mid (P := Try.prog) (we.setCells w.heap.size 0 pc) w.heap.size 0 37 pc _ (World.rangeAt_setCells_same we w.heap.size 0 pc (by rw [hpl]; exact Ve.ans)) Try.underlying37 rfl hip
  have HF : Hid (∃ m : Mg, Ending.returned (.agg pc.toArray) = .returned (.agg m.ms.cells.toArray) ∧ m.pure = (⟨2, 0, 0, 0, 0, false, [], v_a, 0, 0, 0, [], [], zeros32, Vt.zero, [], ⟨#[]⟩, []⟩ : Mp) ∧ m.ok ∧ m.At (we.setCells w.heap.size 0 pc) ∧ m.Bk (fun b => w.heap.size ≤ b) ∧ RS (we.setCells w.heap.size 0 pc) Q R s_a ∧ Kept w R Q (we.setCells w.heap.size 0 pc)) := hide ⟨⟨2, 0, 0, 0, 0, false, ⟨none, 0, []⟩, v_a, 0, 0, 0, ⟨none, 0, []⟩, ⟨none, 0, []⟩, zeros32, Vt.zero, ⟨none, 0, []⟩, ⟨#[]⟩, ⟨none, 0, []⟩⟩, by rw [hpc.out], rfl, hmo, mg0_at RowsAt.none hds_none RowsAt.none RowsAt.none RowsAt.none, ⟨no_bk, no_bk, no_bk2, no_bk, no_bk, no_bk⟩, Ve.rs.low hlow hQw, Ve.kept.low hlow (Nat.le_refl _)⟩
  clear Ve hlow rpc hpc hmo 
  go_wp2_with fail
  refine bodyPost_ret (v := .agg pc.toArray) ?_ rfl ?_
  · simp [results, Try.results15, Act.put, asAddr, hrs]
  · exact HF.out
end Go.Proofs.Ytahdmajppnffeaa
namespace Go.Proofs.Ytahdmajppnffeaa
open Go.RowKit
open Sha Tal
set_option linter.unusedVariables false
set_option linter.unusedSimpArgs false
set_option maxRecDepth 100000 in
set_option maxHeartbeats 1000000 in
theorem rmsgK3 (Q R : Nat) (s : Rst) (w : World) (h : RS w Q R s) (hl : s.1.length ≤ 40000) (hk : (kiS 8 s).1 = 3) : Calls Try.prog 15 #[.pointer (some ⟨Q, 0, none⟩)] w fun en w' => ∃ m : Mg, en = .returned (.agg m.ms.cells.toArray) ∧ m.pure = (mg3 (kiS 8 s).2).1 ∧ m.ok ∧ m.At w' ∧ m.Bk (fun b => w.heap.size ≤ b) ∧ RS w' Q R (mg3 (kiS 8 s).2).2 ∧ Kept w R Q w' := by
  have hRw := h.st.1.1
  have hQw := h.mr.lt
  have ck := fun w0 h0 => kindRS Q R 8 s w0 h0
  have l0 := kiS_len 8 s
  unfold mg3
  generalize kiS 8 s = p_ at ck l0 hk ⊢
  obtain ⟨k, s0⟩ := p_
  simp only at ck l0 hk ⊢
  subst hk
  have c_a := fun w0 h0 => rchangeS Q R s0 w0 h0 (by omega)
  have l_a : (chS s0).2.1.length ≤ s0.1.length := chS_len _
  generalize chS s0 = p_ at c_a l_a ⊢
  obtain ⟨⟨e_a, m_a, n_a, he_a⟩, s_a⟩ := p_
  simp only at c_a l_a ⊢
  obtain ⟨zc, hzl, hzr⟩ : ∃ z : List Value, z.length = 119 ∧ ∀ w : World, (zeroValue 37).run Try.prog w = .ok (.agg z.toArray) w := ⟨_, (Ms.plain_ok 0 0 0 Vt.zero_ok zeros32_len zeros32_byte).len, zeroM⟩
  have hbk := build_kind 3
  have hql := (ms0_ok 3).len
  have hq1 := (ms0_ok 3).one
  have hiq : (Try.prog.info? 37).map (·.size) = some (Ms.plain 3 0 0 Vt.zero zeros32).cells.length := by rw [hql]; exact iszM
  have hk0 : ∀ (w' : World) b, w'.rangeAt b 0 (Ms.plain 3 0 0 Vt.zero zeros32).cells → w'.cell? ⟨b, 0, none⟩ = some (.int .i64 3) := fun w' b h => ((ms0_ok 3).at h).k
  obtain ⟨qk, hqk⟩ : ∃ q, Hid ((Ms.plain 3 0 0 Vt.zero zeros32).cells = q) := ⟨_, hide rfl⟩
  simp only [hqk.out] at hbk hql hq1 hiq hk0
  obtain ⟨hB1, hr1, hs1⟩ := boxed_new w zc 37
  have ht1 := there_newN w zc.toArray 37 (n := 119) (by simp [hzl])
  go_enter Try.func15, Try.ntmps15
  go_upto_region 0 with fail
  try simp only [Act.put]
  refine pl_begin ?_
  refine pl_run (d := some 2) (v := .pointer (some ⟨w.heap.size, 0, none⟩)) (w' := w.alloc (.cells zc.toArray 37)) (by rfl) (ex_alloc rfl (hzr _)) rfl ?_
  simp only [Act.put, List.setIfInBounds_toArray, List.set_cons_zero, List.set_cons_succ]
  refine pl_nil ?_
  obtain ⟨W1, hW1⟩ : ∃ W, w.alloc (.cells zc.toArray 37) = W := ⟨_, rfl⟩
  rw [hW1] at hB1 hr1 hs1 ht1 ⊢
  clear hW1 hr1
  have S1 := h.below hB1
  go_upto_region 1 with fail
  try simp only [Act.put]
  refine pl_begin ?_
  refine pl_take (d := some 4) (v := ?_) (by rfl) ?_ rfl ?_
  rotate_left
  · go_simp
    try with_reducible rfl
  simp only [Act.put, List.setIfInBounds_toArray, List.set_cons_zero, List.set_cons_succ]
  refine pl_call (d := some 5) (by rfl) (by go_simp; first | done | exact ⟨rfl, rfl⟩ | with_reducible rfl) rfl ?_
  refine (ck W1 S1).mono ?_
  rintro _ w2 ⟨rfl, S2, k2⟩
  refine ⟨_, rfl, ?_⟩
  simp only [Act.put, List.setIfInBounds_toArray, List.set_cons_zero, List.set_cons_succ]
  refine pl_take (d := some 6) (v := .agg qk.toArray) (by rfl) (ex_build (parts := [(0, .tmp 5)]) rfl rfl (hbk _)) rfl ?_
  simp only [Act.put, List.setIfInBounds_toArray, List.set_cons_zero, List.set_cons_succ]
  refine pl_run (d := some 3) (v := .pointer (some ⟨w2.heap.size, 0, none⟩)) (w' := w2.alloc (.cells zc.toArray 37)) (by rfl) (ex_alloc rfl (hzr _)) rfl ?_
  simp only [Act.put, List.setIfInBounds_toArray, List.set_cons_zero, List.set_cons_succ]
  refine pl_store (w' := (w2.alloc (.cells zc.toArray 37)).setCells w2.heap.size 0 qk) (by rfl) (ex_put (cs := qk.toArray) rfl rfl rfl (there_newN _ _ _ (by simp [hzl, hql])) (by simpa using hiq) (all_one hq1)) rfl ?_
  refine pl_nil ?_
  obtain ⟨hF1, hF2, hF3, -⟩ := fresh_store w2 zc.toArray 37 qk (by simp [hzl, hql])
  have hF4 := World.there_setCells (there_newN w2 zc.toArray 37 (n := 119) (by simp [hzl])) w2.heap.size 0 qk
  obtain ⟨w3, hw3⟩ : ∃ W, (w2.alloc (.cells zc.toArray 37)).setCells w2.heap.size 0 qk = W := ⟨_, rfl⟩
  rw [hw3] at hF1 hF2 hF3 hF4 ⊢
  clear hw3
  have hc0 := hk0 _ _ hF1
  have k3 : Kept w R Q w3 := (((Kept.refl w R Q).below hB1).trans k2).below hF2
  have z2 := k2.size
  rw [← hqk.out] at hF1
  have V3 : MV w Q R w.heap.size w2.heap.size 119 (Ms.plain 3 0 0 Vt.zero zeros32).cells s0 w3 := ⟨hF1, hF4, there_below (there_blk ht1 (k2.block _ hs1 (by omega) (by omega))) hF2 (by omega), k3, S2.below hF2, by have := hF2.size; omega, by omega, Nat.le_refl _, by have := hB1.size; omega, by omega, hRw, hQw⟩
  have hww : w.heap.size < w2.heap.size := by omega
  clear hF1 hF2 hF4 ht1 hB1 S1 S2 k2 k3 hk0 hbk hql hq1 hiq hqk h ck hzr hzl
  go_upto_region 2 with fail
  try simp only [Act.put]
  refine pl_begin ?_
  refine pl_take (d := some 7) (v := ?_) (by rfl) ?_ rfl ?_
  rotate_left
  · go_simp
    try with_reducible rfl
  simp only [Act.put, List.setIfInBounds_toArray, List.set_cons_zero, List.set_cons_succ]
  refine pl_take (d := some 8) (v := .int .i64 3) (by rfl) (pl_one rfl rfl hc0 Try.underlying3 rfl) rfl ?_
  simp only [Act.put, List.setIfInBounds_toArray, List.set_cons_zero, List.set_cons_succ]
  refine pl_nil ?_
  clear hc0
  go_upto_region 9 with fail
  try simp only [Act.put]
  refine pl_begin ?_
  refine pl_take (d := some 36) (v := ?_) (by rfl) ?_ rfl ?_
  rotate_left
  · go_simp
    try with_reducible rfl
  simp only [Act.put, List.setIfInBounds_toArray, List.set_cons_zero, List.set_cons_succ]
  refine pl_call (d := some 37) (by rfl) (by go_simp; first | done | exact ⟨rfl, rfl⟩ | with_reducible rfl) rfl ?_
  refine (c_a w3 V3.rs).mono ?_
  rintro _ wd ⟨x, rfl, hx, hA, hB, hB2, Sd, kd⟩
  refine ⟨_, rfl, ?_⟩
  simp only [Act.put, List.setIfInBounds_toArray, List.set_cons_zero, List.set_cons_succ]
  refine pl_take (d := some 38) (v := ?_) (by rfl) ?_ rfl ?_
  rotate_left
  · go_simp
    try with_reducible rfl
  simp only [Act.put, List.setIfInBounds_toArray, List.set_cons_zero, List.set_cons_succ]
  have Vd := V3.on kd Sd
  have Ve := Vd.set 43 [.int .i64 e_a, .int .i64 m_a, .int .i64 n_a, x.val] (put_ch e_a m_a n_a x.val Vt.zero_ok Vd.row (Vd.part 43 4 (by decide)))
  have lb := V3.lb
  have la := V3.la
  have na := V3.kept.size
  refine pl_store (w' := wd.setCells w2.heap.size 43 [.int .i64 e_a, .int .i64 m_a, .int .i64 n_a, x.val]) (by rfl) (ex_put (cs := #[.int .i64 e_a, .int .i64 m_a, .int .i64 n_a, x.val]) rfl rfl rfl (Vd.part 43 4 (by decide)) iszCh (by simp [Value.oneCell', Sl.val])) rfl ?_
  refine pl_nil ?_
  have hA1 := hA.put (B := w2.heap.size) (o := 43) (vs := [.int .i64 e_a, .int .i64 m_a, .int .i64 n_a, x.val]) hB hB2 (fun b hb => by omega)
  obtain ⟨we, hwe⟩ : ∃ W, wd.setCells w2.heap.size 43 [.int .i64 e_a, .int .i64 m_a, .int .i64 n_a, x.val] = W := ⟨_, rfl⟩
  rw [hwe] at Ve hA1 ⊢
  clear hwe
  clear Vd Sd kd V3 hA
  have rpc := Ve.row
  have hmo : Mg.ok ⟨3, 0, 0, 0, 0, false, ⟨none, 0, []⟩, Vt.zero, e_a, m_a, n_a, x, ⟨none, 0, []⟩, zeros32, Vt.zero, ⟨none, 0, []⟩, ⟨#[]⟩, ⟨none, 0, []⟩⟩ := ⟨Vt.zero_ok, Vt.zero_ok, zeros32_len, zeros32_byte⟩
  have hpl : (Mg.ms ⟨3, 0, 0, 0, 0, false, ⟨none, 0, []⟩, Vt.zero, e_a, m_a, n_a, x, ⟨none, 0, []⟩, zeros32, Vt.zero, ⟨none, 0, []⟩, ⟨#[]⟩, ⟨none, 0, []⟩⟩).cells.length = 119 := hmo.ms.len
  have hp1 := hmo.ms.one
  have hip : (Try.prog.info? 37).map (·.size) = some (Mg.ms ⟨3, 0, 0, 0, 0, false, ⟨none, 0, []⟩, Vt.zero, e_a, m_a, n_a, x, ⟨none, 0, []⟩, zeros32, Vt.zero, ⟨none, 0, []⟩, ⟨#[]⟩, ⟨none, 0, []⟩⟩).cells.length := by rw [hpl]; exact iszM
  have rpc : we.rangeAt w2.heap.size 0 (Mg.ms ⟨3, 0, 0, 0, 0, false, ⟨none, 0, []⟩, Vt.zero, e_a, m_a, n_a, x, ⟨none, 0, []⟩, zeros32, Vt.zero, ⟨none, 0, []⟩, ⟨#[]⟩, ⟨none, 0, []⟩⟩).cells := rpc
  obtain ⟨pc, hpc⟩ : ∃ p, Hid ((Mg.ms ⟨3, 0, 0, 0, 0, false, ⟨none, 0, []⟩, Vt.zero, e_a, m_a, n_a, x, ⟨none, 0, []⟩, zeros32, Vt.zero, ⟨none, 0, []⟩, ⟨#[]⟩, ⟨none, 0, []⟩⟩).cells = p) := ⟨_, hide rfl⟩
  simp only [hpc.out] at hpl hip hp1 rpc
  go_upto_region 22 with fail
  try simp only [Act.put]
  refine pl_begin ?_
  refine pl_take (d := some 121) (v := .agg pc.toArray) (by rfl) (ex_mid rfl rfl rpc Try.underlying37 rfl hip) rfl ?_
  simp only [Act.put, List.setIfInBounds_toArray, List.set_cons_zero, List.set_cons_succ]
  refine pl_store (w' := we.setCells w.heap.size 0 pc) (by rfl) (ex_put (cs := pc.toArray) rfl rfl rfl (by simpa [hpl] using Ve.ans) (by simpa using hip) (all_one hp1)) rfl ?_
  refine pl_nil ?_
  have hlow : Below w.heap.size we (we.setCells w.heap.size 0 pc) := below_sets (Nat.le_refl _) pc 0 _ (Below.refl _ we)
  have hrs := run_loadVar_mid (P := Try.prog) (we.setCells w.heap.size 0 pc) w.heap.size 0 37 pc _ (World.rangeAt_setCells_same we w.heap.size 0 pc (by rw [hpl]; exact Ve.ans)) Try.underlying37 rfl hip
  have HF : Hid (∃ m : Mg, Ending.returned (.agg pc.toArray) = .returned (.agg m.ms.cells.toArray) ∧ m.pure = (⟨3, 0, 0, 0, 0, false, [], Vt.zero, e_a, m_a, n_a, he_a, [], zeros32, Vt.zero, [], ⟨#[]⟩, []⟩ : Mp) ∧ m.ok ∧ m.At (we.setCells w.heap.size 0 pc) ∧ m.Bk (fun b => w.heap.size ≤ b) ∧ RS (we.setCells w.heap.size 0 pc) Q R s_a ∧ Kept w R Q (we.setCells w.heap.size 0 pc)) := hide ⟨⟨3, 0, 0, 0, 0, false, ⟨none, 0, []⟩, Vt.zero, e_a, m_a, n_a, x, ⟨none, 0, []⟩, zeros32, Vt.zero, ⟨none, 0, []⟩, ⟨#[]⟩, ⟨none, 0, []⟩⟩, by rw [hpc.out], by rw [← hx]; rfl, hmo, mg0_at RowsAt.none (hA1.put hB hB2 (fun b hb => by omega)) RowsAt.none RowsAt.none RowsAt.none, ⟨no_bk, hB.mono (fun b hb => by omega), fun y hy => (hB2 y hy).mono (fun b hb => by omega), no_bk, no_bk, no_bk⟩, Ve.rs.low hlow hQw, Ve.kept.low hlow (Nat.le_refl _)⟩
  clear Ve hlow rpc hpc hmo hA1 hB hB2 hx
  go_wp2_with fail
  refine bodyPost_ret (v := .agg pc.toArray) ?_ rfl ?_
  · simp [results, Try.results15, Act.put, asAddr, hrs]
  · exact HF.out
end Go.Proofs.Ytahdmajppnffeaa
namespace Go.Proofs.Ytahdmajppnffeaa
open Go.RowKit
open Sha Tal
set_option linter.unusedVariables false
set_option linter.unusedSimpArgs false
set_option maxRecDepth 100000 in
set_option maxHeartbeats 1000000 in
theorem rmsgK4 (Q R : Nat) (s : Rst) (w : World) (h : RS w Q R s) (hl : s.1.length ≤ 40000) (hk : (kiS 8 s).1 = 4) : Calls Try.prog 15 #[.pointer (some ⟨Q, 0, none⟩)] w fun en w' => ∃ m : Mg, en = .returned (.agg m.ms.cells.toArray) ∧ m.pure = (mg4 (kiS 8 s).2).1 ∧ m.ok ∧ m.At w' ∧ m.Bk (fun b => w.heap.size ≤ b) ∧ RS w' Q R (mg4 (kiS 8 s).2).2 ∧ Kept w R Q w' := by
  have hRw := h.st.1.1
  have hQw := h.mr.lt
  have ck := fun w0 h0 => kindRS Q R 8 s w0 h0
  have l0 := kiS_len 8 s
  unfold mg4
  generalize kiS 8 s = p_ at ck l0 hk ⊢
  obtain ⟨k, s0⟩ := p_
  simp only at ck l0 hk ⊢
  subst hk
  have c_a := fun w0 h0 => numRS Q R 1048576 s0 w0 h0
  have l_a : (nuS 1048576 s0).2.1.length ≤ s0.1.length := nuS_len _ _
  generalize nuS 1048576 s0 = p_ at c_a l_a ⊢
  obtain ⟨v_a, s_a⟩ := p_
  simp only at c_a l_a ⊢
  have c_b := fun w0 h0 => numRS Q R 64 s_a w0 h0
  have l_b : (nuS 64 s_a).2.1.length ≤ s_a.1.length := nuS_len _ _
  generalize nuS 64 s_a = p_ at c_b l_b ⊢
  obtain ⟨v_b, s_b⟩ := p_
  simp only at c_b l_b ⊢
  have c_c := fun w0 h0 => numRS Q R 1099511627776 s_b w0 h0
  have l_c : (nuS 1099511627776 s_b).2.1.length ≤ s_b.1.length := nuS_len _ _
  generalize nuS 1099511627776 s_b = p_ at c_c l_c ⊢
  obtain ⟨v_c, s_c⟩ := p_
  simp only at c_c l_c ⊢
  have c_d := fun w0 h0 => rlistE_any Q R s_c w0 h0 (by omega)
  have l_d : (lsS 64 enS s_c).2.1.length ≤ s_c.1.length := lsS_len enS_len _ _
  generalize lsS 64 enS s_c = p_ at c_d l_d ⊢
  obtain ⟨v_d, s_d⟩ := p_
  simp only at c_d l_d ⊢
  obtain ⟨zc, hzl, hzr⟩ : ∃ z : List Value, z.length = 119 ∧ ∀ w : World, (zeroValue 37).run Try.prog w = .ok (.agg z.toArray) w := ⟨_, (Ms.plain_ok 0 0 0 Vt.zero_ok zeros32_len zeros32_byte).len, zeroM⟩
  have hbk := build_kind 4
  have hql := (ms0_ok 4).len
  have hq1 := (ms0_ok 4).one
  have hiq : (Try.prog.info? 37).map (·.size) = some (Ms.plain 4 0 0 Vt.zero zeros32).cells.length := by rw [hql]; exact iszM
  have hk0 : ∀ (w' : World) b, w'.rangeAt b 0 (Ms.plain 4 0 0 Vt.zero zeros32).cells → w'.cell? ⟨b, 0, none⟩ = some (.int .i64 4) := fun w' b h => ((ms0_ok 4).at h).k
  obtain ⟨qk, hqk⟩ : ∃ q, Hid ((Ms.plain 4 0 0 Vt.zero zeros32).cells = q) := ⟨_, hide rfl⟩
  simp only [hqk.out] at hbk hql hq1 hiq hk0
  obtain ⟨hB1, hr1, hs1⟩ := boxed_new w zc 37
  have ht1 := there_newN w zc.toArray 37 (n := 119) (by simp [hzl])
  go_enter Try.func15, Try.ntmps15
  go_upto_region 0 with fail
  try simp only [Act.put]
  refine pl_begin ?_
  refine pl_run (d := some 2) (v := .pointer (some ⟨w.heap.size, 0, none⟩)) (w' := w.alloc (.cells zc.toArray 37)) (by rfl) (ex_alloc rfl (hzr _)) rfl ?_
  simp only [Act.put, List.setIfInBounds_toArray, List.set_cons_zero, List.set_cons_succ]
  refine pl_nil ?_
  obtain ⟨W1, hW1⟩ : ∃ W, w.alloc (.cells zc.toArray 37) = W := ⟨_, rfl⟩
  rw [hW1] at hB1 hr1 hs1 ht1 ⊢
  clear hW1 hr1
  have S1 := h.below hB1
  go_upto_region 1 with fail
  try simp only [Act.put]
  refine pl_begin ?_
  refine pl_take (d := some 4) (v := ?_) (by rfl) ?_ rfl ?_
  rotate_left
  · go_simp
    try with_reducible rfl
  simp only [Act.put, List.setIfInBounds_toArray, List.set_cons_zero, List.set_cons_succ]
  refine pl_call (d := some 5) (by rfl) (by go_simp; first | done | exact ⟨rfl, rfl⟩ | with_reducible rfl) rfl ?_
  refine (ck W1 S1).mono ?_
  rintro _ w2 ⟨rfl, S2, k2⟩
  refine ⟨_, rfl, ?_⟩
  simp only [Act.put, List.setIfInBounds_toArray, List.set_cons_zero, List.set_cons_succ]
  refine pl_take (d := some 6) (v := .agg qk.toArray) (by rfl) (ex_build (parts := [(0, .tmp 5)]) rfl rfl (hbk _)) rfl ?_
  simp only [Act.put, List.setIfInBounds_toArray, List.set_cons_zero, List.set_cons_succ]
  refine pl_run (d := some 3) (v := .pointer (some ⟨w2.heap.size, 0, none⟩)) (w' := w2.alloc (.cells zc.toArray 37)) (by rfl) (ex_alloc rfl (hzr _)) rfl ?_
  simp only [Act.put, List.setIfInBounds_toArray, List.set_cons_zero, List.set_cons_succ]
  refine pl_store (w' := (w2.alloc (.cells zc.toArray 37)).setCells w2.heap.size 0 qk) (by rfl) (ex_put (cs := qk.toArray) rfl rfl rfl (there_newN _ _ _ (by simp [hzl, hql])) (by simpa using hiq) (all_one hq1)) rfl ?_
  refine pl_nil ?_
  obtain ⟨hF1, hF2, hF3, -⟩ := fresh_store w2 zc.toArray 37 qk (by simp [hzl, hql])
  have hF4 := World.there_setCells (there_newN w2 zc.toArray 37 (n := 119) (by simp [hzl])) w2.heap.size 0 qk
  obtain ⟨w3, hw3⟩ : ∃ W, (w2.alloc (.cells zc.toArray 37)).setCells w2.heap.size 0 qk = W := ⟨_, rfl⟩
  rw [hw3] at hF1 hF2 hF3 hF4 ⊢
  clear hw3
  have hc0 := hk0 _ _ hF1
  have k3 : Kept w R Q w3 := (((Kept.refl w R Q).below hB1).trans k2).below hF2
  have z2 := k2.size
  rw [← hqk.out] at hF1
  have V3 : MV w Q R w.heap.size w2.heap.size 119 (Ms.plain 4 0 0 Vt.zero zeros32).cells s0 w3 := ⟨hF1, hF4, there_below (there_blk ht1 (k2.block _ hs1 (by omega) (by omega))) hF2 (by omega), k3, S2.below hF2, by have := hF2.size; omega, by omega, Nat.le_refl _, by have := hB1.size; omega, by omega, hRw, hQw⟩
  have hww : w.heap.size < w2.heap.size := by omega
  clear hF1 hF2 hF4 ht1 hB1 S1 S2 k2 k3 hk0 hbk hql hq1 hiq hqk h ck hzr hzl
  go_upto_region 2 with fail
  try simp only [Act.put]
  refine pl_begin ?_
  refine pl_take (d := some 7) (v := ?_) (by rfl) ?_ rfl ?_
  rotate_left
  · go_simp
    try with_reducible rfl
  simp only [Act.put, List.setIfInBounds_toArray, List.set_cons_zero, List.set_cons_succ]
  refine pl_take (d := some 8) (v := .int .i64 4) (by rfl) (pl_one rfl rfl hc0 Try.underlying3 rfl) rfl ?_
  simp only [Act.put, List.setIfInBounds_toArray, List.set_cons_zero, List.set_cons_succ]
  refine pl_nil ?_
  clear hc0
  go_upto_region 11 with fail
  have V8 := V3.drew
  refine hs_begin (S := (fun W' => W'.cell? ⟨Q, 0, none⟩ = some (.pointer (some ⟨R, 0, none⟩)))) 21 rfl (by kernel_rfl) ?_
  obtain ⟨w8, hw8⟩ : ∃ W, w3.drew = W := ⟨_, rfl⟩
  rw [hw8] at V8 ⊢
  clear hw8 V3
  have hS : (fun W' => W'.cell? ⟨Q, 0, none⟩ = some (.pointer (some ⟨R, 0, none⟩))) w8 := V8.rs.mr.c0
  refine hs_take (i := 0) (d := some 41) (v := ?_) rfl (by kernel_rfl) (by kernel_rfl) (by kernel_rfl) (by rfl) ?_ hS rfl ?_
  rotate_left
  · intro w' hw
    go_simp
    try with_reducible rfl
  simp only [Act.put, List.setIfInBounds_toArray, List.set_cons_zero, List.set_cons_succ]
  refine hs_take (i := 1) (d := some 42) (v := ?_) rfl (by kernel_rfl) (by kernel_rfl) (by kernel_rfl) (by rfl) ?_ hS rfl ?_
  rotate_left
  · intro w' hw
    go_simp
    try with_reducible rfl
  simp only [Act.put, List.setIfInBounds_toArray, List.set_cons_zero, List.set_cons_succ]
  refine hs_take (i := 2) (d := some 43) (v := ?_) rfl (by kernel_rfl) (by kernel_rfl) (by kernel_rfl) (by rfl) ?_ hS rfl ?_
  rotate_left
  · intro w' hw
    go_simp
    try with_reducible rfl
  simp only [Act.put, List.setIfInBounds_toArray, List.set_cons_zero, List.set_cons_succ]
  refine hs_take (i := 3) (d := some 44) (v := .pointer (some ⟨R, 0, none⟩)) rfl (by kernel_rfl) (by kernel_rfl) (by kernel_rfl) (by rfl) (fun w' hw => pl_one rfl rfl hw Try.underlying88 rfl) hS rfl ?_
  simp only [Act.put, List.setIfInBounds_toArray, List.set_cons_zero, List.set_cons_succ]
  refine hs_take (i := 5) (d := some 46) (v := ?_) rfl (by kernel_rfl) (by kernel_rfl) (by kernel_rfl) (by rfl) ?_ hS rfl ?_
  rotate_left
  · intro w' hw
    go_simp
    try with_reducible rfl
  simp only [Act.put, List.setIfInBounds_toArray, List.set_cons_zero, List.set_cons_succ]
  refine hs_take (i := 6) (d := some 47) (v := ?_) rfl (by kernel_rfl) (by kernel_rfl) (by kernel_rfl) (by rfl) ?_ hS rfl ?_
  rotate_left
  · intro w' hw
    go_simp
    try with_reducible rfl
  simp only [Act.put, List.setIfInBounds_toArray, List.set_cons_zero, List.set_cons_succ]
  refine hs_take (i := 7) (d := some 48) (v := ?_) rfl (by kernel_rfl) (by kernel_rfl) (by kernel_rfl) (by rfl) ?_ hS rfl ?_
  rotate_left
  · intro w' hw
    go_simp
    try with_reducible rfl
  simp only [Act.put, List.setIfInBounds_toArray, List.set_cons_zero, List.set_cons_succ]
  refine hs_take (i := 8) (d := some 49) (v := .pointer (some ⟨R, 0, none⟩)) rfl (by kernel_rfl) (by kernel_rfl) (by kernel_rfl) (by rfl) (fun w' hw => pl_one rfl rfl hw Try.underlying88 rfl) hS rfl ?_
  simp only [Act.put, List.setIfInBounds_toArray, List.set_cons_zero, List.set_cons_succ]
  refine hs_take (i := 10) (d := some 51) (v := ?_) rfl (by kernel_rfl) (by kernel_rfl) (by kernel_rfl) (by rfl) ?_ hS rfl ?_
  rotate_left
  · intro w' hw
    go_simp
    try with_reducible rfl
  simp only [Act.put, List.setIfInBounds_toArray, List.set_cons_zero, List.set_cons_succ]
  refine hs_take (i := 11) (d := some 52) (v := ?_) rfl (by kernel_rfl) (by kernel_rfl) (by kernel_rfl) (by rfl) ?_ hS rfl ?_
  rotate_left
  · intro w' hw
    go_simp
    try with_reducible rfl
  simp only [Act.put, List.setIfInBounds_toArray, List.set_cons_zero, List.set_cons_succ]
  refine hs_take (i := 12) (d := some 53) (v := ?_) rfl (by kernel_rfl) (by kernel_rfl) (by kernel_rfl) (by rfl) ?_ hS rfl ?_
  rotate_left
  · intro w' hw
    go_simp
    try with_reducible rfl
  simp only [Act.put, List.setIfInBounds_toArray, List.set_cons_zero, List.set_cons_succ]
  refine hs_take (i := 13) (d := some 54) (v := .pointer (some ⟨R, 0, none⟩)) rfl (by kernel_rfl) (by kernel_rfl) (by kernel_rfl) (by rfl) (fun w' hw => pl_one rfl rfl hw Try.underlying88 rfl) hS rfl ?_
  simp only [Act.put, List.setIfInBounds_toArray, List.set_cons_zero, List.set_cons_succ]
  refine hs_call (i := 4) (d := some 45) rfl (by kernel_rfl) (by rfl) (by go_simp; first | done | exact ⟨rfl, rfl⟩ | with_reducible rfl) rfl ?_
  refine (c_a w8 V8.rs).mono ?_
  rintro _ w5 ⟨rfl, S5, k5⟩
  have hS : (fun W' => W'.cell? ⟨Q, 0, none⟩ = some (.pointer (some ⟨R, 0, none⟩))) w5 := S5.mr.c0
  refine ⟨_, rfl, hS, ?_⟩
  simp only [Act.put, List.setIfInBounds_toArray, List.set_cons_zero, List.set_cons_succ]
  refine hs_take (i := 15) (d := some 56) (v := ?_) rfl (by kernel_rfl) (by kernel_rfl) (by kernel_rfl) (by rfl) ?_ hS rfl ?_
  rotate_left
  · intro w' hw
    go_simp
    try with_reducible rfl
  simp only [Act.put, List.setIfInBounds_toArray, List.set_cons_zero, List.set_cons_succ]
  refine hs_call (i := 9) (d := some 50) rfl (by kernel_rfl) (by rfl) (by go_simp; first | done | exact ⟨rfl, rfl⟩ | with_reducible rfl) rfl ?_
  refine (c_b w5 S5).mono ?_
  rintro _ w6 ⟨rfl, S6, k6⟩
  have hS : (fun W' => W'.cell? ⟨Q, 0, none⟩ = some (.pointer (some ⟨R, 0, none⟩))) w6 := S6.mr.c0
  refine ⟨_, rfl, hS, ?_⟩
  simp only [Act.put, List.setIfInBounds_toArray, List.set_cons_zero, List.set_cons_succ]
  refine hs_call (i := 14) (d := some 55) rfl (by kernel_rfl) (by rfl) (by go_simp; first | done | exact ⟨rfl, rfl⟩ | with_reducible rfl) rfl ?_
  refine (c_c w6 S6).mono ?_
  rintro _ w7 ⟨rfl, S7, k7⟩
  have hS : (fun W' => W'.cell? ⟨Q, 0, none⟩ = some (.pointer (some ⟨R, 0, none⟩))) w7 := S7.mr.c0
  refine ⟨_, rfl, hS, ?_⟩
  simp only [Act.put, List.setIfInBounds_toArray, List.set_cons_zero, List.set_cons_succ]
  have V_0 := (((V8.on k5 S5).on k6 S6).on k7 S7)
  have V_1 := V_0.set 1 [.int .i64 v_a] (put_e v_a V_0.row (V_0.part 1 1 (by decide)))
  refine hs_store (i := 16) (w' := w7.setCells w2.heap.size 1 [.int .i64 v_a]) rfl (by kernel_rfl) (by rfl) (ex_put1 (n := 119) rfl rfl rfl V_0.box (by decide) iszI rfl rfl) rfl V_1.rs.mr.c0 ?_
  obtain ⟨w_16, hw_16⟩ : ∃ W, w7.setCells w2.heap.size 1 [.int .i64 v_a] = W := ⟨_, rfl⟩
  rw [hw_16] at V_1 ⊢
  clear hw_16
  have hS : (fun W' => W'.cell? ⟨Q, 0, none⟩ = some (.pointer (some ⟨R, 0, none⟩))) w_16 := V_1.rs.mr.c0
  refine hs_take (i := 17) (d := some 57) (v := ?_) rfl (by kernel_rfl) (by kernel_rfl) (by kernel_rfl) (by rfl) ?_ hS rfl ?_
  rotate_left
  · intro w' hw
    go_simp
    try with_reducible rfl
  simp only [Act.put, List.setIfInBounds_toArray, List.set_cons_zero, List.set_cons_succ]
  have V_2 := V_1.set 2 [.int .i64 v_b] (put_l v_b V_1.row (V_1.part 2 1 (by decide)))
  refine hs_store (i := 18) (w' := w_16.setCells w2.heap.size 2 [.int .i64 v_b]) rfl (by kernel_rfl) (by rfl) (ex_put1 (n := 119) rfl rfl rfl V_1.box (by decide) iszI rfl rfl) rfl V_2.rs.mr.c0 ?_
  obtain ⟨w_18, hw_18⟩ : ∃ W, w_16.setCells w2.heap.size 2 [.int .i64 v_b] = W := ⟨_, rfl⟩
  rw [hw_18] at V_2 ⊢
  clear hw_18
  have hS : (fun W' => W'.cell? ⟨Q, 0, none⟩ = some (.pointer (some ⟨R, 0, none⟩))) w_18 := V_2.rs.mr.c0
  refine hs_take (i := 19) (d := some 58) (v := ?_) rfl (by kernel_rfl) (by kernel_rfl) (by kernel_rfl) (by rfl) ?_ hS rfl ?_
  rotate_left
  · intro w' hw
    go_simp
    try with_reducible rfl
  simp only [Act.put, List.setIfInBounds_toArray, List.set_cons_zero, List.set_cons_succ]
  have V_3 := V_2.set 3 [.int .i64 v_c] (put_v v_c V_2.row (V_2.part 3 1 (by decide)))
  refine hs_store (i := 20) (w' := w_18.setCells w2.heap.size 3 [.int .i64 v_c]) rfl (by kernel_rfl) (by rfl) (ex_put1 (n := 119) rfl rfl rfl V_2.box (by decide) iszI rfl rfl) rfl V_3.rs.mr.c0 ?_
  obtain ⟨w_20, hw_20⟩ : ∃ W, w_18.setCells w2.heap.size 3 [.int .i64 v_c] = W := ⟨_, rfl⟩
  rw [hw_20] at V_3 ⊢
  clear hw_20
  have hS : (fun W' => W'.cell? ⟨Q, 0, none⟩ = some (.pointer (some ⟨R, 0, none⟩))) w_20 := V_3.rs.mr.c0
  refine hs_done (by kernel_rfl) ?_
  clear hS V8 S5 k5 S6 k6 S7 k7 V_0 V_1 V_2 c_a c_b c_c
  go_upto_region 12 with fail
  try simp only [Act.put]
  refine pl_begin ?_
  refine pl_take (d := some 59) (v := ?_) (by rfl) ?_ rfl ?_
  rotate_left
  · go_simp
    try with_reducible rfl
  simp only [Act.put, List.setIfInBounds_toArray, List.set_cons_zero, List.set_cons_succ]
  refine pl_take (d := some 60) (v := ?_) (by rfl) ?_ rfl ?_
  rotate_left
  · go_simp
    try with_reducible rfl
  simp only [Act.put, List.setIfInBounds_toArray, List.set_cons_zero, List.set_cons_succ]
  refine pl_take (d := some 61) (v := ?_) (by rfl) ?_ rfl ?_
  rotate_left
  · go_simp
    try with_reducible rfl
  simp only [Act.put, List.setIfInBounds_toArray, List.set_cons_zero, List.set_cons_succ]
  refine pl_take (d := some 62) (v := .pointer (some ⟨R, 0, none⟩)) (by rfl) (pl_one rfl rfl V_3.rs.mr.c0 Try.underlying88 rfl) rfl ?_
  simp only [Act.put, List.setIfInBounds_toArray, List.set_cons_zero, List.set_cons_succ]
  refine pl_take (d := some 63) (v := ?_) (by rfl) ?_ rfl ?_
  rotate_left
  · go_simp
    try with_reducible rfl
  simp only [Act.put, List.setIfInBounds_toArray, List.set_cons_zero, List.set_cons_succ]
  refine pl_take (d := some 64) (v := ?_) (by rfl) ?_ rfl ?_
  rotate_left
  · go_simp
    try with_reducible rfl
  simp only [Act.put, List.setIfInBounds_toArray, List.set_cons_zero, List.set_cons_succ]
  refine pl_take (d := some 65) (v := ?_) (by rfl) ?_ rfl ?_
  rotate_left
  · go_simp
    try with_reducible rfl
  simp only [Act.put, List.setIfInBounds_toArray, List.set_cons_zero, List.set_cons_succ]
  refine pl_call (d := some 66) (by rfl) (by go_simp; first | done | exact ⟨rfl, rfl⟩ | with_reducible rfl) rfl ?_
  refine (c_d w_20 V_3.rs).mono ?_
  rintro _ wd ⟨x, rfl, hx, hA, hB, Sd, kd⟩
  refine ⟨_, rfl, ?_⟩
  simp only [Act.put, List.setIfInBounds_toArray, List.set_cons_zero, List.set_cons_succ]
  refine pl_take (d := some 67) (v := ?_) (by rfl) ?_ rfl ?_
  rotate_left
  · go_simp
    try with_reducible rfl
  simp only [Act.put, List.setIfInBounds_toArray, List.set_cons_zero, List.set_cons_succ]
  have Vd := V_3.on kd Sd
  have Ve := Vd.set 47 [x.val] (put_ne x.val Vt.zero_ok Vd.row (Vd.part 47 1 (by decide)))
  have lb := V_3.lb
  have la := V_3.la
  have na := V_3.kept.size
  refine pl_store (w' := wd.setCells w2.heap.size 47 [x.val]) (by rfl) (ex_put1 (n := 119) rfl rfl rfl Vd.box (by decide) iszEvs rfl rfl) rfl ?_
  refine pl_nil ?_
  have hA1 := hA.put (B := w2.heap.size) (o := 47) (vs := [x.val]) hB (fun b hb => by omega)
  obtain ⟨we, hwe⟩ : ∃ W, wd.setCells w2.heap.size 47 [x.val] = W := ⟨_, rfl⟩
  rw [hwe] at Ve hA1 ⊢
  clear hwe
  clear Vd Sd kd V_3 hA
  have rpc := Ve.row
  have hmo : Mg.ok ⟨4, v_a, v_b, v_c, 0, false, ⟨none, 0, []⟩, Vt.zero, 0, 0, 0, ⟨none, 0, []⟩, x, zeros32, Vt.zero, ⟨none, 0, []⟩, ⟨#[]⟩, ⟨none, 0, []⟩⟩ := ⟨Vt.zero_ok, Vt.zero_ok, zeros32_len, zeros32_byte⟩
  have hpl : (Mg.ms ⟨4, v_a, v_b, v_c, 0, false, ⟨none, 0, []⟩, Vt.zero, 0, 0, 0, ⟨none, 0, []⟩, x, zeros32, Vt.zero, ⟨none, 0, []⟩, ⟨#[]⟩, ⟨none, 0, []⟩⟩).cells.length = 119 := hmo.ms.len
  have hp1 := hmo.ms.one
  have hip : (Try.prog.info? 37).map (·.size) = some (Mg.ms ⟨4, v_a, v_b, v_c, 0, false, ⟨none, 0, []⟩, Vt.zero, 0, 0, 0, ⟨none, 0, []⟩, x, zeros32, Vt.zero, ⟨none, 0, []⟩, ⟨#[]⟩, ⟨none, 0, []⟩⟩).cells.length := by rw [hpl]; exact iszM
  have rpc : we.rangeAt w2.heap.size 0 (Mg.ms ⟨4, v_a, v_b, v_c, 0, false, ⟨none, 0, []⟩, Vt.zero, 0, 0, 0, ⟨none, 0, []⟩, x, zeros32, Vt.zero, ⟨none, 0, []⟩, ⟨#[]⟩, ⟨none, 0, []⟩⟩).cells := rpc
  obtain ⟨pc, hpc⟩ : ∃ p, Hid ((Mg.ms ⟨4, v_a, v_b, v_c, 0, false, ⟨none, 0, []⟩, Vt.zero, 0, 0, 0, ⟨none, 0, []⟩, x, zeros32, Vt.zero, ⟨none, 0, []⟩, ⟨#[]⟩, ⟨none, 0, []⟩⟩).cells = p) := ⟨_, hide rfl⟩
  simp only [hpc.out] at hpl hip hp1 rpc
  go_upto_region 22 with fail
  try simp only [Act.put]
  refine pl_begin ?_
  refine pl_take (d := some 121) (v := .agg pc.toArray) (by rfl) (ex_mid rfl rfl rpc Try.underlying37 rfl hip) rfl ?_
  simp only [Act.put, List.setIfInBounds_toArray, List.set_cons_zero, List.set_cons_succ]
  refine pl_store (w' := we.setCells w.heap.size 0 pc) (by rfl) (ex_put (cs := pc.toArray) rfl rfl rfl (by simpa [hpl] using Ve.ans) (by simpa using hip) (all_one hp1)) rfl ?_
  refine pl_nil ?_
  have hlow : Below w.heap.size we (we.setCells w.heap.size 0 pc) := below_sets (Nat.le_refl _) pc 0 _ (Below.refl _ we)
  have hrs := run_loadVar_mid (P := Try.prog) (we.setCells w.heap.size 0 pc) w.heap.size 0 37 pc _ (World.rangeAt_setCells_same we w.heap.size 0 pc (by rw [hpl]; exact Ve.ans)) Try.underlying37 rfl hip
  have HF : Hid (∃ m : Mg, Ending.returned (.agg pc.toArray) = .returned (.agg m.ms.cells.toArray) ∧ m.pure = (⟨4, v_a, v_b, v_c, 0, false, [], Vt.zero, 0, 0, 0, [], v_d, zeros32, Vt.zero, [], ⟨#[]⟩, []⟩ : Mp) ∧ m.ok ∧ m.At (we.setCells w.heap.size 0 pc) ∧ m.Bk (fun b => w.heap.size ≤ b) ∧ RS (we.setCells w.heap.size 0 pc) Q R s_d ∧ Kept w R Q (we.setCells w.heap.size 0 pc)) := hide ⟨⟨4, v_a, v_b, v_c, 0, false, ⟨none, 0, []⟩, Vt.zero, 0, 0, 0, ⟨none, 0, []⟩, x, zeros32, Vt.zero, ⟨none, 0, []⟩, ⟨#[]⟩, ⟨none, 0, []⟩⟩, by rw [hpc.out], by rw [← hx]; rfl, hmo, mg0_at RowsAt.none hds_none (hA1.put hB (fun b hb => by omega)) RowsAt.none RowsAt.none, ⟨no_bk, no_bk, no_bk2, hB.mono (fun b hb => by omega), no_bk, no_bk⟩, Ve.rs.low hlow hQw, Ve.kept.low hlow (Nat.le_refl _)⟩
  clear Ve hlow rpc hpc hmo hA1 hB hx
  go_wp2_with fail
  refine bodyPost_ret (v := .agg pc.toArray) ?_ rfl ?_
  · simp [results, Try.results15, Act.put, asAddr, hrs]
  · exact HF.out
end Go.Proofs.Ytahdmajppnffeaa
namespace Go.Proofs.Ytahdmajppnffeaa
open Go.RowKit
open Sha Tal
set_option linter.unusedVariables false
set_option linter.unusedSimpArgs false
set_option maxRecDepth 100000 in
set_option maxHeartbeats 1000000 in
theorem rmsgK5 (Q R : Nat) (s : Rst) (w : World) (h : RS w Q R s) (hl : s.1.length ≤ 40000) (hk : (kiS 8 s).1 = 5) : Calls Try.prog 15 #[.pointer (some ⟨Q, 0, none⟩)] w fun en w' => ∃ m : Mg, en = .returned (.agg m.ms.cells.toArray) ∧ m.pure = (mg5 (kiS 8 s).2).1 ∧ m.ok ∧ m.At w' ∧ m.Bk (fun b => w.heap.size ≤ b) ∧ RS w' Q R (mg5 (kiS 8 s).2).2 ∧ Kept w R Q w' := by
  have hRw := h.st.1.1
  have hQw := h.mr.lt
  have ck := fun w0 h0 => kindRS Q R 8 s w0 h0
  have l0 := kiS_len 8 s
  unfold mg5
  generalize kiS 8 s = p_ at ck l0 hk ⊢
  obtain ⟨k, s0⟩ := p_
  simp only at ck l0 hk ⊢
  subst hk
  have c_a := fun w0 h0 => numRS Q R 1048576 s0 w0 h0
  have l_a : (nuS 1048576 s0).2.1.length ≤ s0.1.length := nuS_len _ _
  generalize nuS 1048576 s0 = p_ at c_a l_a ⊢
  obtain ⟨v_a, s_a⟩ := p_
  simp only at c_a l_a ⊢
  have c_b := fun w0 h0 => digRS Q R s_a w0 h0 (by omega)
  have l_b : (dgS s_a).2.1.length ≤ s_a.1.length := dgS_len _
  have ok_b := fun hb => dgS_ok s_a hb
  generalize dgS s_a = p_ at c_b l_b ok_b ⊢
  obtain ⟨v_b, s_b⟩ := p_
  simp only at c_b l_b ok_b ⊢
  obtain ⟨zc, hzl, hzr⟩ : ∃ z : List Value, z.length = 119 ∧ ∀ w : World, (zeroValue 37).run Try.prog w = .ok (.agg z.toArray) w := ⟨_, (Ms.plain_ok 0 0 0 Vt.zero_ok zeros32_len zeros32_byte).len, zeroM⟩
  have hbk := build_kind 5
  have hql := (ms0_ok 5).len
  have hq1 := (ms0_ok 5).one
  have hiq : (Try.prog.info? 37).map (·.size) = some (Ms.plain 5 0 0 Vt.zero zeros32).cells.length := by rw [hql]; exact iszM
  have hk0 : ∀ (w' : World) b, w'.rangeAt b 0 (Ms.plain 5 0 0 Vt.zero zeros32).cells → w'.cell? ⟨b, 0, none⟩ = some (.int .i64 5) := fun w' b h => ((ms0_ok 5).at h).k
  obtain ⟨qk, hqk⟩ : ∃ q, Hid ((Ms.plain 5 0 0 Vt.zero zeros32).cells = q) := ⟨_, hide rfl⟩
  simp only [hqk.out] at hbk hql hq1 hiq hk0
  obtain ⟨hB1, hr1, hs1⟩ := boxed_new w zc 37
  have ht1 := there_newN w zc.toArray 37 (n := 119) (by simp [hzl])
  go_enter Try.func15, Try.ntmps15
  go_upto_region 0 with fail
  try simp only [Act.put]
  refine pl_begin ?_
  refine pl_run (d := some 2) (v := .pointer (some ⟨w.heap.size, 0, none⟩)) (w' := w.alloc (.cells zc.toArray 37)) (by rfl) (ex_alloc rfl (hzr _)) rfl ?_
  simp only [Act.put, List.setIfInBounds_toArray, List.set_cons_zero, List.set_cons_succ]
  refine pl_nil ?_
  obtain ⟨W1, hW1⟩ : ∃ W, w.alloc (.cells zc.toArray 37) = W := ⟨_, rfl⟩
  rw [hW1] at hB1 hr1 hs1 ht1 ⊢
  clear hW1 hr1
  have S1 := h.below hB1
  go_upto_region 1 with fail
  try simp only [Act.put]
  refine pl_begin ?_
  refine pl_take (d := some 4) (v := ?_) (by rfl) ?_ rfl ?_
  rotate_left
  · go_simp
    try with_reducible rfl
  simp only [Act.put, List.setIfInBounds_toArray, List.set_cons_zero, List.set_cons_succ]
  refine pl_call (d := some 5) (by rfl) (by go_simp; first | done | exact ⟨rfl, rfl⟩ | with_reducible rfl) rfl ?_
  refine (ck W1 S1).mono ?_
  rintro _ w2 ⟨rfl, S2, k2⟩
  refine ⟨_, rfl, ?_⟩
  simp only [Act.put, List.setIfInBounds_toArray, List.set_cons_zero, List.set_cons_succ]
  refine pl_take (d := some 6) (v := .agg qk.toArray) (by rfl) (ex_build (parts := [(0, .tmp 5)]) rfl rfl (hbk _)) rfl ?_
  simp only [Act.put, List.setIfInBounds_toArray, List.set_cons_zero, List.set_cons_succ]
  refine pl_run (d := some 3) (v := .pointer (some ⟨w2.heap.size, 0, none⟩)) (w' := w2.alloc (.cells zc.toArray 37)) (by rfl) (ex_alloc rfl (hzr _)) rfl ?_
  simp only [Act.put, List.setIfInBounds_toArray, List.set_cons_zero, List.set_cons_succ]
  refine pl_store (w' := (w2.alloc (.cells zc.toArray 37)).setCells w2.heap.size 0 qk) (by rfl) (ex_put (cs := qk.toArray) rfl rfl rfl (there_newN _ _ _ (by simp [hzl, hql])) (by simpa using hiq) (all_one hq1)) rfl ?_
  refine pl_nil ?_
  obtain ⟨hF1, hF2, hF3, -⟩ := fresh_store w2 zc.toArray 37 qk (by simp [hzl, hql])
  have hF4 := World.there_setCells (there_newN w2 zc.toArray 37 (n := 119) (by simp [hzl])) w2.heap.size 0 qk
  obtain ⟨w3, hw3⟩ : ∃ W, (w2.alloc (.cells zc.toArray 37)).setCells w2.heap.size 0 qk = W := ⟨_, rfl⟩
  rw [hw3] at hF1 hF2 hF3 hF4 ⊢
  clear hw3
  have hc0 := hk0 _ _ hF1
  have k3 : Kept w R Q w3 := (((Kept.refl w R Q).below hB1).trans k2).below hF2
  have z2 := k2.size
  rw [← hqk.out] at hF1
  have V3 : MV w Q R w.heap.size w2.heap.size 119 (Ms.plain 5 0 0 Vt.zero zeros32).cells s0 w3 := ⟨hF1, hF4, there_below (there_blk ht1 (k2.block _ hs1 (by omega) (by omega))) hF2 (by omega), k3, S2.below hF2, by have := hF2.size; omega, by omega, Nat.le_refl _, by have := hB1.size; omega, by omega, hRw, hQw⟩
  have hww : w.heap.size < w2.heap.size := by omega
  clear hF1 hF2 hF4 ht1 hB1 S1 S2 k2 k3 hk0 hbk hql hq1 hiq hqk h ck hzr hzl
  go_upto_region 2 with fail
  try simp only [Act.put]
  refine pl_begin ?_
  refine pl_take (d := some 7) (v := ?_) (by rfl) ?_ rfl ?_
  rotate_left
  · go_simp
    try with_reducible rfl
  simp only [Act.put, List.setIfInBounds_toArray, List.set_cons_zero, List.set_cons_succ]
  refine pl_take (d := some 8) (v := .int .i64 5) (by rfl) (pl_one rfl rfl hc0 Try.underlying3 rfl) rfl ?_
  simp only [Act.put, List.setIfInBounds_toArray, List.set_cons_zero, List.set_cons_succ]
  refine pl_nil ?_
  clear hc0
  go_upto_region 14 with fail
  try simp only [Act.put]
  refine pl_begin ?_
  refine pl_take (d := some 70) (v := ?_) (by rfl) ?_ rfl ?_
  rotate_left
  · go_simp
    try with_reducible rfl
  simp only [Act.put, List.setIfInBounds_toArray, List.set_cons_zero, List.set_cons_succ]
  refine pl_take (d := some 71) (v := ?_) (by rfl) ?_ rfl ?_
  rotate_left
  · go_simp
    try with_reducible rfl
  simp only [Act.put, List.setIfInBounds_toArray, List.set_cons_zero, List.set_cons_succ]
  refine pl_take (d := some 72) (v := ?_) (by rfl) ?_ rfl ?_
  rotate_left
  · go_simp
    try with_reducible rfl
  simp only [Act.put, List.setIfInBounds_toArray, List.set_cons_zero, List.set_cons_succ]
  refine pl_take (d := some 73) (v := .pointer (some ⟨R, 0, none⟩)) (by rfl) (pl_one rfl rfl V3.rs.mr.c0 Try.underlying88 rfl) rfl ?_
  simp only [Act.put, List.setIfInBounds_toArray, List.set_cons_zero, List.set_cons_succ]
  refine pl_call (d := some 74) (by rfl) (by go_simp; first | done | exact ⟨rfl, rfl⟩ | with_reducible rfl) rfl ?_
  refine (c_a w3 V3.rs).mono ?_
  rintro _ w5 ⟨rfl, S5, k5⟩
  refine ⟨_, rfl, ?_⟩
  simp only [Act.put, List.setIfInBounds_toArray, List.set_cons_zero, List.set_cons_succ]
  refine pl_take (d := some 75) (v := ?_) (by rfl) ?_ rfl ?_
  rotate_left
  · go_simp
    try with_reducible rfl
  simp only [Act.put, List.setIfInBounds_toArray, List.set_cons_zero, List.set_cons_succ]
  refine pl_call (d := some 76) (by rfl) (by go_simp; first | done | exact ⟨rfl, rfl⟩ | with_reducible rfl) rfl ?_
  refine (c_b w5 S5).mono ?_
  rintro _ w6 ⟨rfl, S6, k6⟩
  refine ⟨_, rfl, ?_⟩
  simp only [Act.put, List.setIfInBounds_toArray, List.set_cons_zero, List.set_cons_succ]
  refine pl_take (d := some 77) (v := ?_) (by rfl) ?_ rfl ?_
  rotate_left
  · go_simp
    try with_reducible rfl
  simp only [Act.put, List.setIfInBounds_toArray, List.set_cons_zero, List.set_cons_succ]
  have hd := ok_b S5.st.bs
  have V6 := (V3.on k5 S5).on k6 S6
  have Va := V6.set 1 [.int .i64 v_a] (put_e v_a V6.row (V6.part 1 1 (by decide)))
  refine pl_store (w' := w6.setCells w2.heap.size 1 [.int .i64 v_a]) (by rfl) (ex_put1 (n := 119) rfl rfl rfl V6.box (by decide) iszI rfl rfl) rfl ?_
  obtain ⟨wd, hwd⟩ : ∃ W, w6.setCells w2.heap.size 1 [.int .i64 v_a] = W := ⟨_, rfl⟩
  rw [hwd] at Va ⊢
  clear hwd
  refine pl_take (d := some 78) (v := ?_) (by rfl) ?_ rfl ?_
  rotate_left
  · go_simp
    try with_reducible rfl
  simp only [Act.put, List.setIfInBounds_toArray, List.set_cons_zero, List.set_cons_succ]
  have Ve := Va.set 48 (v8 v_b) (put_d v_b hd.1 zeros32_len Vt.zero_ok Va.row (Va.part 48 32 (by decide)))
  have hdl : (v8 v_b).length = 32 := by rw [v8_length]; exact hd.1
  refine pl_store (w' := wd.setCells w2.heap.size 48 (v8 v_b)) (by rfl) (ex_put (cs := (v8 v_b).toArray) rfl rfl rfl (by simpa [hdl] using Va.part 48 32 (by decide)) (by simpa [hdl] using iszD) (all_one (v8_one v_b))) rfl ?_
  refine pl_nil ?_
  obtain ⟨we, hwe⟩ : ∃ W, wd.setCells w2.heap.size 48 (v8 v_b) = W := ⟨_, rfl⟩
  rw [hwe] at Ve ⊢
  clear hwe
  clear Va V6 V3 S5 S6 k5 k6
  have rpc := Ve.row
  have hmo : Mg.ok ⟨5, v_a, 0, 0, 0, false, ⟨none, 0, []⟩, Vt.zero, 0, 0, 0, ⟨none, 0, []⟩, ⟨none, 0, []⟩, v_b, Vt.zero, ⟨none, 0, []⟩, ⟨#[]⟩, ⟨none, 0, []⟩⟩ := ⟨Vt.zero_ok, Vt.zero_ok, hd.1, hd.2⟩
  have hpl : (Mg.ms ⟨5, v_a, 0, 0, 0, false, ⟨none, 0, []⟩, Vt.zero, 0, 0, 0, ⟨none, 0, []⟩, ⟨none, 0, []⟩, v_b, Vt.zero, ⟨none, 0, []⟩, ⟨#[]⟩, ⟨none, 0, []⟩⟩).cells.length = 119 := hmo.ms.len
  have hp1 := hmo.ms.one
  have hip : (Try.prog.info? 37).map (·.size) = some (Mg.ms ⟨5, v_a, 0, 0, 0, false, ⟨none, 0, []⟩, Vt.zero, 0, 0, 0, ⟨none, 0, []⟩, ⟨none, 0, []⟩, v_b, Vt.zero, ⟨none, 0, []⟩, ⟨#[]⟩, ⟨none, 0, []⟩⟩).cells.length := by rw [hpl]; exact iszM
  have rpc : we.rangeAt w2.heap.size 0 (Mg.ms ⟨5, v_a, 0, 0, 0, false, ⟨none, 0, []⟩, Vt.zero, 0, 0, 0, ⟨none, 0, []⟩, ⟨none, 0, []⟩, v_b, Vt.zero, ⟨none, 0, []⟩, ⟨#[]⟩, ⟨none, 0, []⟩⟩).cells := rpc
  obtain ⟨pc, hpc⟩ : ∃ p, Hid ((Mg.ms ⟨5, v_a, 0, 0, 0, false, ⟨none, 0, []⟩, Vt.zero, 0, 0, 0, ⟨none, 0, []⟩, ⟨none, 0, []⟩, v_b, Vt.zero, ⟨none, 0, []⟩, ⟨#[]⟩, ⟨none, 0, []⟩⟩).cells = p) := ⟨_, hide rfl⟩
  simp only [hpc.out] at hpl hip hp1 rpc
  go_upto_region 22 with fail
  try simp only [Act.put]
  refine pl_begin ?_
  refine pl_take (d := some 121) (v := .agg pc.toArray) (by rfl) (ex_mid rfl rfl rpc Try.underlying37 rfl hip) rfl ?_
  simp only [Act.put, List.setIfInBounds_toArray, List.set_cons_zero, List.set_cons_succ]
  refine pl_store (w' := we.setCells w.heap.size 0 pc) (by rfl) (ex_put (cs := pc.toArray) rfl rfl rfl (by simpa [hpl] using Ve.ans) (by simpa using hip) (all_one hp1)) rfl ?_
  refine pl_nil ?_
  have hlow : Below w.heap.size we (we.setCells w.heap.size 0 pc) := below_sets (Nat.le_refl _) pc 0 _ (Below.refl _ we)
  have hrs := run_loadVar_mid (P := Try.prog) (we.setCells w.heap.size 0 pc) w.heap.size 0 37 pc _ (World.rangeAt_setCells_same we w.heap.size 0 pc (by rw [hpl]; exact Ve.ans)) Try.underlying37 rfl hip
  have HF : Hid (∃ m : Mg, Ending.returned (.agg pc.toArray) = .returned (.agg m.ms.cells.toArray) ∧ m.pure = (⟨5, v_a, 0, 0, 0, false, [], Vt.zero, 0, 0, 0, [], [], v_b, Vt.zero, [], ⟨#[]⟩, []⟩ : Mp) ∧ m.ok ∧ m.At (we.setCells w.heap.size 0 pc) ∧ m.Bk (fun b => w.heap.size ≤ b) ∧ RS (we.setCells w.heap.size 0 pc) Q R s_b ∧ Kept w R Q (we.setCells w.heap.size 0 pc)) := hide ⟨⟨5, v_a, 0, 0, 0, false, ⟨none, 0, []⟩, Vt.zero, 0, 0, 0, ⟨none, 0, []⟩, ⟨none, 0, []⟩, v_b, Vt.zero, ⟨none, 0, []⟩, ⟨#[]⟩, ⟨none, 0, []⟩⟩, by rw [hpc.out], rfl, hmo, mg0_at RowsAt.none hds_none RowsAt.none RowsAt.none RowsAt.none, ⟨no_bk, no_bk, no_bk2, no_bk, no_bk, no_bk⟩, Ve.rs.low hlow hQw, Ve.kept.low hlow (Nat.le_refl _)⟩
  clear Ve hlow rpc hpc hmo 
  go_wp2_with fail
  refine bodyPost_ret (v := .agg pc.toArray) ?_ rfl ?_
  · simp [results, Try.results15, Act.put, asAddr, hrs]
  · exact HF.out
end Go.Proofs.Ytahdmajppnffeaa
namespace Go.Proofs.Ytahdmajppnffeaa
open Go.RowKit
open Sha Tal
set_option linter.unusedVariables false
set_option linter.unusedSimpArgs false
set_option maxRecDepth 100000 in
set_option maxHeartbeats 1000000 in
theorem rmsgK6 (Q R : Nat) (s : Rst) (w : World) (h : RS w Q R s) (hl : s.1.length ≤ 40000) (hk : (kiS 8 s).1 = 6) : Calls Try.prog 15 #[.pointer (some ⟨Q, 0, none⟩)] w fun en w' => ∃ m : Mg, en = .returned (.agg m.ms.cells.toArray) ∧ m.pure = (mg6 (kiS 8 s).2).1 ∧ m.ok ∧ m.At w' ∧ m.Bk (fun b => w.heap.size ≤ b) ∧ RS w' Q R (mg6 (kiS 8 s).2).2 ∧ Kept w R Q w' := by
  have hRw := h.st.1.1
  have hQw := h.mr.lt
  have ck := fun w0 h0 => kindRS Q R 8 s w0 h0
  have l0 := kiS_len 8 s
  unfold mg6
  generalize kiS 8 s = p_ at ck l0 hk ⊢
  obtain ⟨k, s0⟩ := p_
  simp only at ck l0 hk ⊢
  subst hk
  have c_a := fun w0 h0 => numRS Q R 1048576 s0 w0 h0
  have l_a : (nuS 1048576 s0).2.1.length ≤ s0.1.length := nuS_len _ _
  generalize nuS 1048576 s0 = p_ at c_a l_a ⊢
  obtain ⟨v_a, s_a⟩ := p_
  simp only at c_a l_a ⊢
  have c_b := fun w0 h0 => numRS Q R 1099511627776 s_a w0 h0
  have l_b : (nuS 1099511627776 s_a).2.1.length ≤ s_a.1.length := nuS_len _ _
  generalize nuS 1099511627776 s_a = p_ at c_b l_b ⊢
  obtain ⟨v_b, s_b⟩ := p_
  simp only at c_b l_b ⊢
  obtain ⟨zc, hzl, hzr⟩ : ∃ z : List Value, z.length = 119 ∧ ∀ w : World, (zeroValue 37).run Try.prog w = .ok (.agg z.toArray) w := ⟨_, (Ms.plain_ok 0 0 0 Vt.zero_ok zeros32_len zeros32_byte).len, zeroM⟩
  have hbk := build_kind 6
  have hql := (ms0_ok 6).len
  have hq1 := (ms0_ok 6).one
  have hiq : (Try.prog.info? 37).map (·.size) = some (Ms.plain 6 0 0 Vt.zero zeros32).cells.length := by rw [hql]; exact iszM
  have hk0 : ∀ (w' : World) b, w'.rangeAt b 0 (Ms.plain 6 0 0 Vt.zero zeros32).cells → w'.cell? ⟨b, 0, none⟩ = some (.int .i64 6) := fun w' b h => ((ms0_ok 6).at h).k
  obtain ⟨qk, hqk⟩ : ∃ q, Hid ((Ms.plain 6 0 0 Vt.zero zeros32).cells = q) := ⟨_, hide rfl⟩
  simp only [hqk.out] at hbk hql hq1 hiq hk0
  obtain ⟨hB1, hr1, hs1⟩ := boxed_new w zc 37
  have ht1 := there_newN w zc.toArray 37 (n := 119) (by simp [hzl])
  go_enter Try.func15, Try.ntmps15
  go_upto_region 0 with fail
  try simp only [Act.put]
  refine pl_begin ?_
  refine pl_run (d := some 2) (v := .pointer (some ⟨w.heap.size, 0, none⟩)) (w' := w.alloc (.cells zc.toArray 37)) (by rfl) (ex_alloc rfl (hzr _)) rfl ?_
  simp only [Act.put, List.setIfInBounds_toArray, List.set_cons_zero, List.set_cons_succ]
  refine pl_nil ?_
  obtain ⟨W1, hW1⟩ : ∃ W, w.alloc (.cells zc.toArray 37) = W := ⟨_, rfl⟩
  rw [hW1] at hB1 hr1 hs1 ht1 ⊢
  clear hW1 hr1
  have S1 := h.below hB1
  go_upto_region 1 with fail
  try simp only [Act.put]
  refine pl_begin ?_
  refine pl_take (d := some 4) (v := ?_) (by rfl) ?_ rfl ?_
  rotate_left
  · go_simp
    try with_reducible rfl
  simp only [Act.put, List.setIfInBounds_toArray, List.set_cons_zero, List.set_cons_succ]
  refine pl_call (d := some 5) (by rfl) (by go_simp; first | done | exact ⟨rfl, rfl⟩ | with_reducible rfl) rfl ?_
  refine (ck W1 S1).mono ?_
  rintro _ w2 ⟨rfl, S2, k2⟩
  refine ⟨_, rfl, ?_⟩
  simp only [Act.put, List.setIfInBounds_toArray, List.set_cons_zero, List.set_cons_succ]
  refine pl_take (d := some 6) (v := .agg qk.toArray) (by rfl) (ex_build (parts := [(0, .tmp 5)]) rfl rfl (hbk _)) rfl ?_
  simp only [Act.put, List.setIfInBounds_toArray, List.set_cons_zero, List.set_cons_succ]
  refine pl_run (d := some 3) (v := .pointer (some ⟨w2.heap.size, 0, none⟩)) (w' := w2.alloc (.cells zc.toArray 37)) (by rfl) (ex_alloc rfl (hzr _)) rfl ?_
  simp only [Act.put, List.setIfInBounds_toArray, List.set_cons_zero, List.set_cons_succ]
  refine pl_store (w' := (w2.alloc (.cells zc.toArray 37)).setCells w2.heap.size 0 qk) (by rfl) (ex_put (cs := qk.toArray) rfl rfl rfl (there_newN _ _ _ (by simp [hzl, hql])) (by simpa using hiq) (all_one hq1)) rfl ?_
  refine pl_nil ?_
  obtain ⟨hF1, hF2, hF3, -⟩ := fresh_store w2 zc.toArray 37 qk (by simp [hzl, hql])
  have hF4 := World.there_setCells (there_newN w2 zc.toArray 37 (n := 119) (by simp [hzl])) w2.heap.size 0 qk
  obtain ⟨w3, hw3⟩ : ∃ W, (w2.alloc (.cells zc.toArray 37)).setCells w2.heap.size 0 qk = W := ⟨_, rfl⟩
  rw [hw3] at hF1 hF2 hF3 hF4 ⊢
  clear hw3
  have hc0 := hk0 _ _ hF1
  have k3 : Kept w R Q w3 := (((Kept.refl w R Q).below hB1).trans k2).below hF2
  have z2 := k2.size
  rw [← hqk.out] at hF1
  have V3 : MV w Q R w.heap.size w2.heap.size 119 (Ms.plain 6 0 0 Vt.zero zeros32).cells s0 w3 := ⟨hF1, hF4, there_below (there_blk ht1 (k2.block _ hs1 (by omega) (by omega))) hF2 (by omega), k3, S2.below hF2, by have := hF2.size; omega, by omega, Nat.le_refl _, by have := hB1.size; omega, by omega, hRw, hQw⟩
  have hww : w.heap.size < w2.heap.size := by omega
  clear hF1 hF2 hF4 ht1 hB1 S1 S2 k2 k3 hk0 hbk hql hq1 hiq hqk h ck hzr hzl
  go_upto_region 2 with fail
  try simp only [Act.put]
  refine pl_begin ?_
  refine pl_take (d := some 7) (v := ?_) (by rfl) ?_ rfl ?_
  rotate_left
  · go_simp
    try with_reducible rfl
  simp only [Act.put, List.setIfInBounds_toArray, List.set_cons_zero, List.set_cons_succ]
  refine pl_take (d := some 8) (v := .int .i64 6) (by rfl) (pl_one rfl rfl hc0 Try.underlying3 rfl) rfl ?_
  simp only [Act.put, List.setIfInBounds_toArray, List.set_cons_zero, List.set_cons_succ]
  refine pl_nil ?_
  clear hc0
  go_upto_region 16 with fail
  have V8 := V3.drew
  refine hs_begin (S := (fun W' => W'.cell? ⟨Q, 0, none⟩ = some (.pointer (some ⟨R, 0, none⟩)))) 14 rfl (by kernel_rfl) ?_
  obtain ⟨w8, hw8⟩ : ∃ W, w3.drew = W := ⟨_, rfl⟩
  rw [hw8] at V8 ⊢
  clear hw8 V3
  have hS : (fun W' => W'.cell? ⟨Q, 0, none⟩ = some (.pointer (some ⟨R, 0, none⟩))) w8 := V8.rs.mr.c0
  refine hs_take (i := 0) (d := some 81) (v := ?_) rfl (by kernel_rfl) (by kernel_rfl) (by kernel_rfl) (by rfl) ?_ hS rfl ?_
  rotate_left
  · intro w' hw
    go_simp
    try with_reducible rfl
  simp only [Act.put, List.setIfInBounds_toArray, List.set_cons_zero, List.set_cons_succ]
  refine hs_take (i := 1) (d := some 82) (v := ?_) rfl (by kernel_rfl) (by kernel_rfl) (by kernel_rfl) (by rfl) ?_ hS rfl ?_
  rotate_left
  · intro w' hw
    go_simp
    try with_reducible rfl
  simp only [Act.put, List.setIfInBounds_toArray, List.set_cons_zero, List.set_cons_succ]
  refine hs_take (i := 2) (d := some 83) (v := ?_) rfl (by kernel_rfl) (by kernel_rfl) (by kernel_rfl) (by rfl) ?_ hS rfl ?_
  rotate_left
  · intro w' hw
    go_simp
    try with_reducible rfl
  simp only [Act.put, List.setIfInBounds_toArray, List.set_cons_zero, List.set_cons_succ]
  refine hs_take (i := 3) (d := some 84) (v := .pointer (some ⟨R, 0, none⟩)) rfl (by kernel_rfl) (by kernel_rfl) (by kernel_rfl) (by rfl) (fun w' hw => pl_one rfl rfl hw Try.underlying88 rfl) hS rfl ?_
  simp only [Act.put, List.setIfInBounds_toArray, List.set_cons_zero, List.set_cons_succ]
  refine hs_take (i := 5) (d := some 86) (v := ?_) rfl (by kernel_rfl) (by kernel_rfl) (by kernel_rfl) (by rfl) ?_ hS rfl ?_
  rotate_left
  · intro w' hw
    go_simp
    try with_reducible rfl
  simp only [Act.put, List.setIfInBounds_toArray, List.set_cons_zero, List.set_cons_succ]
  refine hs_take (i := 6) (d := some 87) (v := ?_) rfl (by kernel_rfl) (by kernel_rfl) (by kernel_rfl) (by rfl) ?_ hS rfl ?_
  rotate_left
  · intro w' hw
    go_simp
    try with_reducible rfl
  simp only [Act.put, List.setIfInBounds_toArray, List.set_cons_zero, List.set_cons_succ]
  refine hs_take (i := 7) (d := some 88) (v := ?_) rfl (by kernel_rfl) (by kernel_rfl) (by kernel_rfl) (by rfl) ?_ hS rfl ?_
  rotate_left
  · intro w' hw
    go_simp
    try with_reducible rfl
  simp only [Act.put, List.setIfInBounds_toArray, List.set_cons_zero, List.set_cons_succ]
  refine hs_take (i := 8) (d := some 89) (v := .pointer (some ⟨R, 0, none⟩)) rfl (by kernel_rfl) (by kernel_rfl) (by kernel_rfl) (by rfl) (fun w' hw => pl_one rfl rfl hw Try.underlying88 rfl) hS rfl ?_
  simp only [Act.put, List.setIfInBounds_toArray, List.set_cons_zero, List.set_cons_succ]
  refine hs_call (i := 4) (d := some 85) rfl (by kernel_rfl) (by rfl) (by go_simp; first | done | exact ⟨rfl, rfl⟩ | with_reducible rfl) rfl ?_
  refine (c_a w8 V8.rs).mono ?_
  rintro _ w5 ⟨rfl, S5, k5⟩
  have hS : (fun W' => W'.cell? ⟨Q, 0, none⟩ = some (.pointer (some ⟨R, 0, none⟩))) w5 := S5.mr.c0
  refine ⟨_, rfl, hS, ?_⟩
  simp only [Act.put, List.setIfInBounds_toArray, List.set_cons_zero, List.set_cons_succ]
  refine hs_take (i := 10) (d := some 91) (v := ?_) rfl (by kernel_rfl) (by kernel_rfl) (by kernel_rfl) (by rfl) ?_ hS rfl ?_
  rotate_left
  · intro w' hw
    go_simp
    try with_reducible rfl
  simp only [Act.put, List.setIfInBounds_toArray, List.set_cons_zero, List.set_cons_succ]
  refine hs_call (i := 9) (d := some 90) rfl (by kernel_rfl) (by rfl) (by go_simp; first | done | exact ⟨rfl, rfl⟩ | with_reducible rfl) rfl ?_
  refine (c_b w5 S5).mono ?_
  rintro _ w6 ⟨rfl, S6, k6⟩
  have hS : (fun W' => W'.cell? ⟨Q, 0, none⟩ = some (.pointer (some ⟨R, 0, none⟩))) w6 := S6.mr.c0
  refine ⟨_, rfl, hS, ?_⟩
  simp only [Act.put, List.setIfInBounds_toArray, List.set_cons_zero, List.set_cons_succ]
  have V_0 := ((V8.on k5 S5).on k6 S6)
  have V_1 := V_0.set 1 [.int .i64 v_a] (put_e v_a V_0.row (V_0.part 1 1 (by decide)))
  refine hs_store (i := 11) (w' := w6.setCells w2.heap.size 1 [.int .i64 v_a]) rfl (by kernel_rfl) (by rfl) (ex_put1 (n := 119) rfl rfl rfl V_0.box (by decide) iszI rfl rfl) rfl V_1.rs.mr.c0 ?_
  obtain ⟨w_11, hw_11⟩ : ∃ W, w6.setCells w2.heap.size 1 [.int .i64 v_a] = W := ⟨_, rfl⟩
  rw [hw_11] at V_1 ⊢
  clear hw_11
  have hS : (fun W' => W'.cell? ⟨Q, 0, none⟩ = some (.pointer (some ⟨R, 0, none⟩))) w_11 := V_1.rs.mr.c0
  refine hs_take (i := 12) (d := some 92) (v := ?_) rfl (by kernel_rfl) (by kernel_rfl) (by kernel_rfl) (by rfl) ?_ hS rfl ?_
  rotate_left
  · intro w' hw
    go_simp
    try with_reducible rfl
  simp only [Act.put, List.setIfInBounds_toArray, List.set_cons_zero, List.set_cons_succ]
  have V_2 := V_1.set 4 [.int .i64 v_b] (put_s v_b V_1.row (V_1.part 4 1 (by decide)))
  refine hs_store (i := 13) (w' := w_11.setCells w2.heap.size 4 [.int .i64 v_b]) rfl (by kernel_rfl) (by rfl) (ex_put1 (n := 119) rfl rfl rfl V_1.box (by decide) iszI rfl rfl) rfl V_2.rs.mr.c0 ?_
  obtain ⟨w_13, hw_13⟩ : ∃ W, w_11.setCells w2.heap.size 4 [.int .i64 v_b] = W := ⟨_, rfl⟩
  rw [hw_13] at V_2 ⊢
  clear hw_13
  have hS : (fun W' => W'.cell? ⟨Q, 0, none⟩ = some (.pointer (some ⟨R, 0, none⟩))) w_13 := V_2.rs.mr.c0
  refine hs_done (by kernel_rfl) ?_
  clear hS V8 S5 k5 S6 k6 V_0 V_1 c_a c_b
  have Ve := V_2
  have rpc := Ve.row
  have hmo : Mg.ok ⟨6, v_a, 0, 0, v_b, false, ⟨none, 0, []⟩, Vt.zero, 0, 0, 0, ⟨none, 0, []⟩, ⟨none, 0, []⟩, zeros32, Vt.zero, ⟨none, 0, []⟩, ⟨#[]⟩, ⟨none, 0, []⟩⟩ := ⟨Vt.zero_ok, Vt.zero_ok, zeros32_len, zeros32_byte⟩
  have hpl : (Mg.ms ⟨6, v_a, 0, 0, v_b, false, ⟨none, 0, []⟩, Vt.zero, 0, 0, 0, ⟨none, 0, []⟩, ⟨none, 0, []⟩, zeros32, Vt.zero, ⟨none, 0, []⟩, ⟨#[]⟩, ⟨none, 0, []⟩⟩).cells.length = 119 := hmo.ms.len
  have hp1 := hmo.ms.one
  have hip : (Try.prog.info? 37).map (·.size) = some (Mg.ms ⟨6, v_a, 0, 0, v_b, false, ⟨none, 0, []⟩, Vt.zero, 0, 0, 0, ⟨none, 0, []⟩, ⟨none, 0, []⟩, zeros32, Vt.zero, ⟨none, 0, []⟩, ⟨#[]⟩, ⟨none, 0, []⟩⟩).cells.length := by rw [hpl]; exact iszM
  have rpc : w_13.rangeAt w2.heap.size 0 (Mg.ms ⟨6, v_a, 0, 0, v_b, false, ⟨none, 0, []⟩, Vt.zero, 0, 0, 0, ⟨none, 0, []⟩, ⟨none, 0, []⟩, zeros32, Vt.zero, ⟨none, 0, []⟩, ⟨#[]⟩, ⟨none, 0, []⟩⟩).cells := rpc
  obtain ⟨pc, hpc⟩ : ∃ p, Hid ((Mg.ms ⟨6, v_a, 0, 0, v_b, false, ⟨none, 0, []⟩, Vt.zero, 0, 0, 0, ⟨none, 0, []⟩, ⟨none, 0, []⟩, zeros32, Vt.zero, ⟨none, 0, []⟩, ⟨#[]⟩, ⟨none, 0, []⟩⟩).cells = p) := ⟨_, hide rfl⟩
  simp only [hpc.out] at hpl hip hp1 rpc
  go_upto_region 22 with fail
  try simp only [Act.put]
  refine pl_begin ?_
  refine pl_take (d := some 121) (v := .agg pc.toArray) (by rfl) (ex_mid rfl rfl rpc Try.underlying37 rfl hip) rfl ?_
  simp only [Act.put, List.setIfInBounds_toArray, List.set_cons_zero, List.set_cons_succ]
  refine pl_store (w' := w_13.setCells w.heap.size 0 pc) (by rfl) (ex_put (cs := pc.toArray) rfl rfl rfl (by simpa [hpl] using Ve.ans) (by simpa using hip) (all_one hp1)) rfl ?_
  refine pl_nil ?_
  have hlow : Below w.heap.size w_13 (w_13.setCells w.heap.size 0 pc) := below_sets (Nat.le_refl _) pc 0 _ (Below.refl _ w_13)
  have hrs := run_loadVar_mid (P := Try.prog) (w_13.setCells w.heap.size 0 pc) w.heap.size 0 37 pc _ (World.rangeAt_setCells_same w_13 w.heap.size 0 pc (by rw [hpl]; exact Ve.ans)) Try.underlying37 rfl hip
  have HF : Hid (∃ m : Mg, Ending.returned (.agg pc.toArray) = .returned (.agg m.ms.cells.toArray) ∧ m.pure = (⟨6, v_a, 0, 0, v_b, false, [], Vt.zero, 0, 0, 0, [], [], zeros32, Vt.zero, [], ⟨#[]⟩, []⟩ : Mp) ∧ m.ok ∧ m.At (w_13.setCells w.heap.size 0 pc) ∧ m.Bk (fun b => w.heap.size ≤ b) ∧ RS (w_13.setCells w.heap.size 0 pc) Q R s_b ∧ Kept w R Q (w_13.setCells w.heap.size 0 pc)) := hide ⟨⟨6, v_a, 0, 0, v_b, false, ⟨none, 0, []⟩, Vt.zero, 0, 0, 0, ⟨none, 0, []⟩, ⟨none, 0, []⟩, zeros32, Vt.zero, ⟨none, 0, []⟩, ⟨#[]⟩, ⟨none, 0, []⟩⟩, by rw [hpc.out], rfl, hmo, mg0_at RowsAt.none hds_none RowsAt.none RowsAt.none RowsAt.none, ⟨no_bk, no_bk, no_bk2, no_bk, no_bk, no_bk⟩, Ve.rs.low hlow hQw, Ve.kept.low hlow (Nat.le_refl _)⟩
  clear Ve hlow rpc hpc hmo V_2
  go_wp2_with fail
  refine bodyPost_ret (v := .agg pc.toArray) ?_ rfl ?_
  · simp [results, Try.results15, Act.put, asAddr, hrs]
  · exact HF.out
end Go.Proofs.Ytahdmajppnffeaa
