/- messages, read: kind 7; messages, read: kind 8; the program's Decode; messages come back, and have one form: what is pure -/
import Derived.Test.YtahdmajppnffeaaJM19
import Derived.Test.YtahdmajppnffeaaJM20
namespace Go.Proofs.Ytahdmajppnffeaa
open Go.RowKit
open Sha Tal
set_option linter.unusedVariables false
set_option linter.unusedSimpArgs false
set_option maxRecDepth 100000 in
set_option maxHeartbeats 1000000 in
theorem rmsgK7 (Q R : Nat) (s : Rst) (w : World) (h : RS w Q R s) (hl : s.1.length ≤ 40000) (hk : (kiS 8 s).1 = 7) : Calls Try.prog 15 #[.pointer (some ⟨Q, 0, none⟩)] w fun en w' => ∃ m : Mg, en = .returned (.agg m.ms.cells.toArray) ∧ m.pure = (mg7 (kiS 8 s).2).1 ∧ m.ok ∧ m.At w' ∧ m.Bk (fun b => w.heap.size ≤ b) ∧ RS w' Q R (mg7 (kiS 8 s).2).2 ∧ Kept w R Q w' := by
  have hRw := h.st.1.1
  have hQw := h.mr.lt
  have ck := fun w0 h0 => kindRS Q R 8 s w0 h0
  have l0 := kiS_len 8 s
  unfold mg7
  generalize kiS 8 s = p_ at ck l0 hk ⊢
  obtain ⟨k, s0⟩ := p_
  simp only at ck l0 hk ⊢
  subst hk
  have c_a := fun w0 h0 => bgetS Q R s0 w0 h0 (by omega)
  have l_a : (baS s0).2.1.length ≤ s0.1.length := baS_len _
  generalize baS s0 = p_ at c_a l_a ⊢
  obtain ⟨⟨q_a, rs_a⟩, s_a⟩ := p_
  simp only at c_a l_a ⊢
  have c_b := fun w0 h0 => rcertS Q R s_a w0 h0 (by omega)
  have l_b : (ceS s_a).2.1.length ≤ s_a.1.length := ceS_len _
  generalize ceS s_a = p_ at c_b l_b ⊢
  obtain ⟨⟨vt_b, sg_b⟩, s_b⟩ := p_
  simp only at c_b l_b ⊢
  obtain ⟨zc, hzl, hzr⟩ : ∃ z : List Value, z.length = 119 ∧ ∀ w : World, (zeroValue 37).run Try.prog w = .ok (.agg z.toArray) w := ⟨_, (Ms.plain_ok 0 0 0 Vt.zero_ok zeros32_len zeros32_byte).len, zeroM⟩
  have hbk := build_kind 7
  have hql := (ms0_ok 7).len
  have hq1 := (ms0_ok 7).one
  have hiq : (Try.prog.info? 37).map (·.size) = some (Ms.plain 7 0 0 Vt.zero zeros32).cells.length := by rw [hql]; exact iszM
  have hk0 : ∀ (w' : World) b, w'.rangeAt b 0 (Ms.plain 7 0 0 Vt.zero zeros32).cells → w'.cell? ⟨b, 0, none⟩ = some (.int .i64 7) := fun w' b h => ((ms0_ok 7).at h).k
  obtain ⟨qk, hqk⟩ : ∃ q, Hid ((Ms.plain 7 0 0 Vt.zero zeros32).cells = q) := ⟨_, hide rfl⟩
  simp only [hqk.out] at hbk hql hq1 hiq hk0
  obtain ⟨hB1, hr1, hs1⟩ := boxed_new w zc 37
  have ht1 := there_newN w zc.toArray 37 (n := 119) (by simp [hzl])
  go_enter Try.func15, Try.ntmps15
  go_upto_region 0 with fail
  try simp only [Act.put]
  refine pl_begin ?_
  refine pl_run (d := some 2) (v := .pointer (some ⟨w.heap.size, 0, none⟩)) (w' := w.alloc (.cells zc.toArray 37)) (by rfl) (ex_alloc rfl (hzr _)) rfl ?_
  simp only [Act.put, List.setIfInBounds_toArray, List.set_cons_zero, List.set_cons_succ]
  refine pl_nil ?_
  obtain ⟨W1, hW1⟩ : ∃ W, w.alloc (.cells zc.toArray 37) = W := ⟨_, rfl⟩
  rw [hW1] at hB1 hr1 hs1 ht1 ⊢
  clear hW1 hr1
  have S1 := h.below hB1
  go_upto_region 1 with fail
  try simp only [Act.put]
  refine pl_begin ?_
  refine pl_take (d := some 4) (v := ?_) (by rfl) ?_ rfl ?_
  rotate_left
  · go_simp
    try with_reducible rfl
  simp only [Act.put, List.setIfInBounds_toArray, List.set_cons_zero, List.set_cons_succ]
  refine pl_call (d := some 5) (by rfl) (by go_simp; first | done | exact ⟨rfl, rfl⟩ | with_reducible rfl) rfl ?_
  refine (ck W1 S1).mono ?_
  rintro _ w2 ⟨rfl, S2, k2⟩
  refine ⟨_, rfl, ?_⟩
  simp only [Act.put, List.setIfInBounds_toArray, List.set_cons_zero, List.set_cons_succ]
  refine pl_take (d := some 6) (v := .agg qk.toArray) (by rfl) (ex_build (parts := [(0, .tmp 5)]) rfl rfl (hbk _)) rfl ?_
  simp only [Act.put, List.setIfInBounds_toArray, List.set_cons_zero, List.set_cons_succ]
  refine pl_run (d := some 3) (v := .pointer (some ⟨w2.heap.size, 0, none⟩)) (w' := w2.alloc (.cells zc.toArray 37)) (by rfl) (ex_alloc rfl (hzr _)) rfl ?_
  simp only [Act.put, List.setIfInBounds_toArray, List.set_cons_zero, List.set_cons_succ]
  refine pl_store (w' := (w2.alloc (.cells zc.toArray 37)).setCells w2.heap.size 0 qk) (by rfl) (ex_put (cs := qk.toArray) rfl rfl rfl (there_newN _ _ _ (by simp [hzl, hql])) (by simpa using hiq) (all_one hq1)) rfl ?_
  refine pl_nil ?_
  obtain ⟨hF1, hF2, hF3, -⟩ := fresh_store w2 zc.toArray 37 qk (by simp [hzl, hql])
  have hF4 := World.there_setCells (there_newN w2 zc.toArray 37 (n := 119) (by simp [hzl])) w2.heap.size 0 qk
  obtain ⟨w3, hw3⟩ : ∃ W, (w2.alloc (.cells zc.toArray 37)).setCells w2.heap.size 0 qk = W := ⟨_, rfl⟩
  rw [hw3] at hF1 hF2 hF3 hF4 ⊢
  clear hw3
  have hc0 := hk0 _ _ hF1
  have k3 : Kept w R Q w3 := (((Kept.refl w R Q).below hB1).trans k2).below hF2
  have z2 := k2.size
  rw [← hqk.out] at hF1
  have V3 : MV w Q R w.heap.size w2.heap.size 119 (Ms.plain 7 0 0 Vt.zero zeros32).cells s0 w3 := ⟨hF1, hF4, there_below (there_blk ht1 (k2.block _ hs1 (by omega) (by omega))) hF2 (by omega), k3, S2.below hF2, by have := hF2.size; omega, by omega, Nat.le_refl _, by have := hB1.size; omega, by omega, hRw, hQw⟩
  have hww : w.heap.size < w2.heap.size := by omega
  clear hF1 hF2 hF4 ht1 hB1 S1 S2 k2 k3 hk0 hbk hql hq1 hiq hqk h ck hzr hzl
  go_upto_region 2 with fail
  try simp only [Act.put]
  refine pl_begin ?_
  refine pl_take (d := some 7) (v := ?_) (by rfl) ?_ rfl ?_
  rotate_left
  · go_simp
    try with_reducible rfl
  simp only [Act.put, List.setIfInBounds_toArray, List.set_cons_zero, List.set_cons_succ]
  refine pl_take (d := some 8) (v := .int .i64 7) (by rfl) (pl_one rfl rfl hc0 Try.underlying3 rfl) rfl ?_
  simp only [Act.put, List.setIfInBounds_toArray, List.set_cons_zero, List.set_cons_succ]
  refine pl_nil ?_
  clear hc0
  go_upto_region 18 with fail
  try simp only [Act.put]
  refine pl_begin ?_
  refine pl_take (d := some 95) (v := ?_) (by rfl) ?_ rfl ?_
  rotate_left
  · go_simp
    try with_reducible rfl
  simp only [Act.put, List.setIfInBounds_toArray, List.set_cons_zero, List.set_cons_succ]
  refine pl_take (d := some 96) (v := ?_) (by rfl) ?_ rfl ?_
  rotate_left
  · go_simp
    try with_reducible rfl
  simp only [Act.put, List.setIfInBounds_toArray, List.set_cons_zero, List.set_cons_succ]
  refine pl_take (d := some 97) (v := ?_) (by rfl) ?_ rfl ?_
  rotate_left
  · go_simp
    try with_reducible rfl
  simp only [Act.put, List.setIfInBounds_toArray, List.set_cons_zero, List.set_cons_succ]
  refine pl_take (d := some 98) (v := .pointer (some ⟨R, 0, none⟩)) (by rfl) (pl_one rfl rfl V3.rs.mr.c0 Try.underlying88 rfl) rfl ?_
  simp only [Act.put, List.setIfInBounds_toArray, List.set_cons_zero, List.set_cons_succ]
  refine pl_call (d := some 99) (by rfl) (by go_simp; first | done | exact ⟨rfl, rfl⟩ | with_reducible rfl) rfl ?_
  refine (c_a w3 V3.rs).mono ?_
  rintro _ w5 ⟨x, rfl, hx, hA, hB, S5, k5⟩
  refine ⟨_, rfl, ?_⟩
  simp only [Act.put, List.setIfInBounds_toArray, List.set_cons_zero, List.set_cons_succ]
  refine pl_take (d := some 100) (v := ?_) (by rfl) ?_ rfl ?_
  rotate_left
  · go_simp
    try with_reducible rfl
  simp only [Act.put, List.setIfInBounds_toArray, List.set_cons_zero, List.set_cons_succ]
  refine pl_call (d := some 101) (by rfl) (by go_simp; first | done | exact ⟨rfl, rfl⟩ | with_reducible rfl) rfl ?_
  refine (c_b w5 S5).mono ?_
  rintro _ w6 ⟨y, rfl, hy, hC, hD, hvt, S6, k6⟩
  refine ⟨_, rfl, ?_⟩
  simp only [Act.put, List.setIfInBounds_toArray, List.set_cons_zero, List.set_cons_succ]
  refine pl_take (d := some 102) (v := ?_) (by rfl) ?_ rfl ?_
  rotate_left
  · go_simp
    try with_reducible rfl
  simp only [Act.put, List.setIfInBounds_toArray, List.set_cons_zero, List.set_cons_succ]
  have lb := V3.lb
  have la := V3.la
  have na := V3.kept.size
  have z5 := k5.size
  have V6 := (V3.on k5 S5).on k6 S6
  have hA5 : x.At RqE w6 := hA.kept k6 (n := w3.heap.size) (by omega) (by omega) hB (fun b hb => hb.1)
  have Va := V6.set 5 [.bool q_a, x.val] (put_b q_a x.val V6.row (V6.part 5 2 (by decide)))
  refine pl_store (w' := w6.setCells w2.heap.size 5 [.bool q_a, x.val]) (by rfl) (ex_put (cs := #[.bool q_a, x.val]) rfl rfl rfl (V6.part 5 2 (by decide)) iszBa (by simp [Value.oneCell', Sl.val])) rfl ?_
  have hA6 := hA5.put (B := w2.heap.size) (o := 5) (vs := [.bool q_a, x.val]) hB (fun b hb => by omega)
  have hC6 := hC.put (B := w2.heap.size) (o := 5) (vs := [.bool q_a, x.val]) hD (fun b hb => by omega)
  obtain ⟨wd, hwd⟩ : ∃ W, w6.setCells w2.heap.size 5 [.bool q_a, x.val] = W := ⟨_, rfl⟩
  rw [hwd] at Va hA6 hC6 ⊢
  clear hwd
  refine pl_take (d := some 103) (v := ?_) (by rfl) ?_ rfl ?_
  rotate_left
  · go_simp
    try with_reducible rfl
  simp only [Act.put, List.setIfInBounds_toArray, List.set_cons_zero, List.set_cons_succ]
  have hcl : (certL vt_b y).length = 37 := by have := hvt.len; simp [certL]; omega
  have hc1 : ∀ v ∈ certL vt_b y, v.oneCell' = true := fun v hv => by
    rcases List.mem_append.1 hv with g | g
    · exact Vt.one vt_b v g
    · rw [List.mem_singleton.1 g]; rfl
  have Ve := Va.set 80 (certL vt_b y) (put_ct vt_b y.val hvt Vt.zero_ok zeros32_len Vt.zero_ok Va.row (Va.part 80 37 (by decide)))
  refine pl_store (w' := wd.setCells w2.heap.size 80 (certL vt_b y)) (by rfl) (ex_put (cs := (certL vt_b y).toArray) rfl rfl rfl (by simpa [hcl] using Va.part 80 37 (by decide)) (by simpa [hcl] using iszCe) (all_one hc1)) rfl ?_
  refine pl_nil ?_
  have hA7 := hA6.put (B := w2.heap.size) (o := 80) (vs := certL vt_b y) hB (fun b hb => by omega)
  have hC7 := hC6.put (B := w2.heap.size) (o := 80) (vs := certL vt_b y) hD (fun b hb => by omega)
  obtain ⟨we, hwe⟩ : ∃ W, wd.setCells w2.heap.size 80 (certL vt_b y) = W := ⟨_, rfl⟩
  rw [hwe] at Ve hA7 hC7 ⊢
  clear hwe
  clear Va V6 V3 S5 S6 k5 k6 hA hC hA5 hA6 hC6
  have rpc := Ve.row
  have hmo : Mg.ok ⟨7, 0, 0, 0, 0, q_a, x, Vt.zero, 0, 0, 0, ⟨none, 0, []⟩, ⟨none, 0, []⟩, zeros32, vt_b, y, ⟨#[]⟩, ⟨none, 0, []⟩⟩ := ⟨Vt.zero_ok, hvt, zeros32_len, zeros32_byte⟩
  have hpl : (Mg.ms ⟨7, 0, 0, 0, 0, q_a, x, Vt.zero, 0, 0, 0, ⟨none, 0, []⟩, ⟨none, 0, []⟩, zeros32, vt_b, y, ⟨#[]⟩, ⟨none, 0, []⟩⟩).cells.length = 119 := hmo.ms.len
  have hp1 := hmo.ms.one
  have hip : (Try.prog.info? 37).map (·.size) = some (Mg.ms ⟨7, 0, 0, 0, 0, q_a, x, Vt.zero, 0, 0, 0, ⟨none, 0, []⟩, ⟨none, 0, []⟩, zeros32, vt_b, y, ⟨#[]⟩, ⟨none, 0, []⟩⟩).cells.length := by rw [hpl]; exact iszM
  have rpc : we.rangeAt w2.heap.size 0 (Mg.ms ⟨7, 0, 0, 0, 0, q_a, x, Vt.zero, 0, 0, 0, ⟨none, 0, []⟩, ⟨none, 0, []⟩, zeros32, vt_b, y, ⟨#[]⟩, ⟨none, 0, []⟩⟩).cells := rpc
  obtain ⟨pc, hpc⟩ : ∃ p, Hid ((Mg.ms ⟨7, 0, 0, 0, 0, q_a, x, Vt.zero, 0, 0, 0, ⟨none, 0, []⟩, ⟨none, 0, []⟩, zeros32, vt_b, y, ⟨#[]⟩, ⟨none, 0, []⟩⟩).cells = p) := ⟨_, hide rfl⟩
  simp only [hpc.out] at hpl hip hp1 rpc
  go_upto_region 22 with fail
  try simp only [Act.put]
  refine pl_begin ?_
  refine pl_take (d := some 121) (v := .agg pc.toArray) (by rfl) (ex_mid rfl rfl rpc Try.underlying37 rfl hip) rfl ?_
  simp only [Act.put, List.setIfInBounds_toArray, List.set_cons_zero, List.set_cons_succ]
  refine pl_store (w' := we.setCells w.heap.size 0 pc) (by rfl) (ex_put (cs := pc.toArray) rfl rfl rfl (by simpa [hpl] using Ve.ans) (by simpa using hip) (all_one hp1)) rfl ?_
  refine pl_nil ?_
  have hlow : Below w.heap.size we (we.setCells w.heap.size 0 pc) := below_sets (Nat.le_refl _) pc 0 _ (Below.refl _ we)
  have hrs := run_loadVar_mid (P := Try.prog) (we.setCells w.heap.size 0 pc) w.heap.size 0 37 pc _ (World.rangeAt_setCells_same we w.heap.size 0 pc (by rw [hpl]; exact Ve.ans)) Try.underlying37 rfl hip
  have HF : Hid (∃ m : Mg, Ending.returned (.agg pc.toArray) = .returned (.agg m.ms.cells.toArray) ∧ m.pure = (⟨7, 0, 0, 0, 0, q_a, rs_a, Vt.zero, 0, 0, 0, [], [], zeros32, vt_b, sg_b, ⟨#[]⟩, []⟩ : Mp) ∧ m.ok ∧ m.At (we.setCells w.heap.size 0 pc) ∧ m.Bk (fun b => w.heap.size ≤ b) ∧ RS (we.setCells w.heap.size 0 pc) Q R s_b ∧ Kept w R Q (we.setCells w.heap.size 0 pc)) := hide ⟨⟨7, 0, 0, 0, 0, q_a, x, Vt.zero, 0, 0, 0, ⟨none, 0, []⟩, ⟨none, 0, []⟩, zeros32, vt_b, y, ⟨#[]⟩, ⟨none, 0, []⟩⟩, by rw [hpc.out], by rw [← hx, ← hy]; rfl, hmo, mg0_at (hA7.put hB (fun b hb => by omega)) hds_none RowsAt.none (hC7.put hD (fun b hb => by omega)) RowsAt.none, ⟨hB.mono (fun b hb => by omega), no_bk, no_bk2, no_bk, hD.mono (fun b hb => by omega), no_bk⟩, Ve.rs.low hlow hQw, Ve.kept.low hlow (Nat.le_refl _)⟩
  clear Ve hlow rpc hpc hmo hA7 hC7 hB hD hx hy
  go_wp2_with fail
  refine bodyPost_ret (v := .agg pc.toArray) ?_ rfl ?_
  · simp [results, Try.results15, Act.put, asAddr, hrs]
  · exact HF.out
end Go.Proofs.Ytahdmajppnffeaa
namespace Go.Proofs.Ytahdmajppnffeaa
open Go.RowKit
open Sha Tal
set_option linter.unusedVariables false
set_option linter.unusedSimpArgs false
set_option maxRecDepth 100000 in
set_option maxHeartbeats 1000000 in
theorem rmsgK8 (Q R : Nat) (s : Rst) (w : World) (h : RS w Q R s) (hl : s.1.length ≤ 40000) (hk : (kiS 8 s).1 = 8) : Calls Try.prog 15 #[.pointer (some ⟨Q, 0, none⟩)] w fun en w' => ∃ m : Mg, en = .returned (.agg m.ms.cells.toArray) ∧ m.pure = (mg8 (kiS 8 s).2).1 ∧ m.ok ∧ m.At w' ∧ m.Bk (fun b => w.heap.size ≤ b) ∧ RS w' Q R (mg8 (kiS 8 s).2).2 ∧ Kept w R Q w' := by
  have hRw := h.st.1.1
  have hQw := h.mr.lt
  have ck := fun w0 h0 => kindRS Q R 8 s w0 h0
  have l0 := kiS_len 8 s
  unfold mg8
  generalize kiS 8 s = p_ at ck l0 hk ⊢
  obtain ⟨k, s0⟩ := p_
  simp only at ck l0 hk ⊢
  subst hk
  have c_a := fun w0 h0 => textRS Q R 4194304 s0 w0 h0
  have l_a : (txS 4194304 s0).2.1.length ≤ s0.1.length := txS_len _ _
  generalize txS 4194304 s0 = p_ at c_a l_a ⊢
  obtain ⟨v_a, s_a⟩ := p_
  simp only at c_a l_a ⊢
  have c_b := fun w0 h0 => rlistS_any Q R s_a w0 h0 (by omega)
  have l_b : (lsS 64 siS s_a).2.1.length ≤ s_a.1.length := lsS_len siS_len _ _
  generalize lsS 64 siS s_a = p_ at c_b l_b ⊢
  obtain ⟨v_b, s_b⟩ := p_
  simp only at c_b l_b ⊢
  obtain ⟨zc, hzl, hzr⟩ : ∃ z : List Value, z.length = 119 ∧ ∀ w : World, (zeroValue 37).run Try.prog w = .ok (.agg z.toArray) w := ⟨_, (Ms.plain_ok 0 0 0 Vt.zero_ok zeros32_len zeros32_byte).len, zeroM⟩
  have hbk := build_kind 8
  have hql := (ms0_ok 8).len
  have hq1 := (ms0_ok 8).one
  have hiq : (Try.prog.info? 37).map (·.size) = some (Ms.plain 8 0 0 Vt.zero zeros32).cells.length := by rw [hql]; exact iszM
  have hk0 : ∀ (w' : World) b, w'.rangeAt b 0 (Ms.plain 8 0 0 Vt.zero zeros32).cells → w'.cell? ⟨b, 0, none⟩ = some (.int .i64 8) := fun w' b h => ((ms0_ok 8).at h).k
  obtain ⟨qk, hqk⟩ : ∃ q, Hid ((Ms.plain 8 0 0 Vt.zero zeros32).cells = q) := ⟨_, hide rfl⟩
  simp only [hqk.out] at hbk hql hq1 hiq hk0
  obtain ⟨hB1, hr1, hs1⟩ := boxed_new w zc 37
  have ht1 := there_newN w zc.toArray 37 (n := 119) (by simp [hzl])
  go_enter Try.func15, Try.ntmps15
  go_upto_region 0 with fail
  try simp only [Act.put]
  refine pl_begin ?_
  refine pl_run (d := some 2) (v := .pointer (some ⟨w.heap.size, 0, none⟩)) (w' := w.alloc (.cells zc.toArray 37)) (by rfl) (ex_alloc rfl (hzr _)) rfl ?_
  simp only [Act.put, List.setIfInBounds_toArray, List.set_cons_zero, List.set_cons_succ]
  refine pl_nil ?_
  obtain ⟨W1, hW1⟩ : ∃ W, w.alloc (.cells zc.toArray 37) = W := ⟨_, rfl⟩
  rw [hW1] at hB1 hr1 hs1 ht1 ⊢
  clear hW1 hr1
  have S1 := h.below hB1
  go_upto_region 1 with fail
  try simp only [Act.put]
  refine pl_begin ?_
  refine pl_take (d := some 4) (v := ?_) (by rfl) ?_ rfl ?_
  rotate_left
  · go_simp
    try with_reducible rfl
  simp only [Act.put, List.setIfInBounds_toArray, List.set_cons_zero, List.set_cons_succ]
  refine pl_call (d := some 5) (by rfl) (by go_simp; first | done | exact ⟨rfl, rfl⟩ | with_reducible rfl) rfl ?_
  refine (ck W1 S1).mono ?_
  rintro _ w2 ⟨rfl, S2, k2⟩
  refine ⟨_, rfl, ?_⟩
  simp only [Act.put, List.setIfInBounds_toArray, List.set_cons_zero, List.set_cons_succ]
  refine pl_take (d := some 6) (v := .agg qk.toArray) (by rfl) (ex_build (parts := [(0, .tmp 5)]) rfl rfl (hbk _)) rfl ?_
  simp only [Act.put, List.setIfInBounds_toArray, List.set_cons_zero, List.set_cons_succ]
  refine pl_run (d := some 3) (v := .pointer (some ⟨w2.heap.size, 0, none⟩)) (w' := w2.alloc (.cells zc.toArray 37)) (by rfl) (ex_alloc rfl (hzr _)) rfl ?_
  simp only [Act.put, List.setIfInBounds_toArray, List.set_cons_zero, List.set_cons_succ]
  refine pl_store (w' := (w2.alloc (.cells zc.toArray 37)).setCells w2.heap.size 0 qk) (by rfl) (ex_put (cs := qk.toArray) rfl rfl rfl (there_newN _ _ _ (by simp [hzl, hql])) (by simpa using hiq) (all_one hq1)) rfl ?_
  refine pl_nil ?_
  obtain ⟨hF1, hF2, hF3, -⟩ := fresh_store w2 zc.toArray 37 qk (by simp [hzl, hql])
  have hF4 := World.there_setCells (there_newN w2 zc.toArray 37 (n := 119) (by simp [hzl])) w2.heap.size 0 qk
  obtain ⟨w3, hw3⟩ : ∃ W, (w2.alloc (.cells zc.toArray 37)).setCells w2.heap.size 0 qk = W := ⟨_, rfl⟩
  rw [hw3] at hF1 hF2 hF3 hF4 ⊢
  clear hw3
  have hc0 := hk0 _ _ hF1
  have k3 : Kept w R Q w3 := (((Kept.refl w R Q).below hB1).trans k2).below hF2
  have z2 := k2.size
  rw [← hqk.out] at hF1
  have V3 : MV w Q R w.heap.size w2.heap.size 119 (Ms.plain 8 0 0 Vt.zero zeros32).cells s0 w3 := ⟨hF1, hF4, there_below (there_blk ht1 (k2.block _ hs1 (by omega) (by omega))) hF2 (by omega), k3, S2.below hF2, by have := hF2.size; omega, by omega, Nat.le_refl _, by have := hB1.size; omega, by omega, hRw, hQw⟩
  have hww : w.heap.size < w2.heap.size := by omega
  clear hF1 hF2 hF4 ht1 hB1 S1 S2 k2 k3 hk0 hbk hql hq1 hiq hqk h ck hzr hzl
  go_upto_region 2 with fail
  try simp only [Act.put]
  refine pl_begin ?_
  refine pl_take (d := some 7) (v := ?_) (by rfl) ?_ rfl ?_
  rotate_left
  · go_simp
    try with_reducible rfl
  simp only [Act.put, List.setIfInBounds_toArray, List.set_cons_zero, List.set_cons_succ]
  refine pl_take (d := some 8) (v := .int .i64 8) (by rfl) (pl_one rfl rfl hc0 Try.underlying3 rfl) rfl ?_
  simp only [Act.put, List.setIfInBounds_toArray, List.set_cons_zero, List.set_cons_succ]
  refine pl_nil ?_
  clear hc0
  go_upto_region 20 with fail
  try simp only [Act.put]
  refine pl_begin ?_
  refine pl_take (d := some 106) (v := ?_) (by rfl) ?_ rfl ?_
  rotate_left
  · go_simp
    try with_reducible rfl
  simp only [Act.put, List.setIfInBounds_toArray, List.set_cons_zero, List.set_cons_succ]
  refine pl_take (d := some 107) (v := ?_) (by rfl) ?_ rfl ?_
  rotate_left
  · go_simp
    try with_reducible rfl
  simp only [Act.put, List.setIfInBounds_toArray, List.set_cons_zero, List.set_cons_succ]
  refine pl_take (d := some 108) (v := ?_) (by rfl) ?_ rfl ?_
  rotate_left
  · go_simp
    try with_reducible rfl
  simp only [Act.put, List.setIfInBounds_toArray, List.set_cons_zero, List.set_cons_succ]
  refine pl_take (d := some 109) (v := .pointer (some ⟨R, 0, none⟩)) (by rfl) (pl_one rfl rfl V3.rs.mr.c0 Try.underlying88 rfl) rfl ?_
  simp only [Act.put, List.setIfInBounds_toArray, List.set_cons_zero, List.set_cons_succ]
  refine pl_call (d := some 110) (by rfl) (by go_simp; first | done | exact ⟨rfl, rfl⟩ | with_reducible rfl) rfl ?_
  refine (c_a w3 V3.rs).mono ?_
  rintro _ w5 ⟨rfl, S5, k5⟩
  refine ⟨_, rfl, ?_⟩
  simp only [Act.put, List.setIfInBounds_toArray, List.set_cons_zero, List.set_cons_succ]
  refine pl_take (d := some 111) (v := ?_) (by rfl) ?_ rfl ?_
  rotate_left
  · go_simp
    try with_reducible rfl
  simp only [Act.put, List.setIfInBounds_toArray, List.set_cons_zero, List.set_cons_succ]
  have V5 := V3.on k5 S5
  have Va := V5.set 117 [.string v_a] (put_st v_a Vt.zero_ok zeros32_len Vt.zero_ok V5.row (V5.part 117 1 (by decide)))
  refine pl_store (w' := w5.setCells w2.heap.size 117 [.string v_a]) (by rfl) (ex_put1 (n := 119) rfl rfl rfl V5.box (by decide) iszStr rfl rfl) rfl ?_
  refine pl_nil ?_
  obtain ⟨w6, hw6⟩ : ∃ W, w5.setCells w2.heap.size 117 [.string v_a] = W := ⟨_, rfl⟩
  rw [hw6] at Va ⊢
  clear hw6
  clear V5 V3 S5 k5
  go_upto_region 21 with fail
  try simp only [Act.put]
  refine pl_begin ?_
  refine pl_take (d := some 112) (v := ?_) (by rfl) ?_ rfl ?_
  rotate_left
  · go_simp
    try with_reducible rfl
  simp only [Act.put, List.setIfInBounds_toArray, List.set_cons_zero, List.set_cons_succ]
  refine pl_take (d := some 113) (v := ?_) (by rfl) ?_ rfl ?_
  rotate_left
  · go_simp
    try with_reducible rfl
  simp only [Act.put, List.setIfInBounds_toArray, List.set_cons_zero, List.set_cons_succ]
  refine pl_take (d := some 114) (v := ?_) (by rfl) ?_ rfl ?_
  rotate_left
  · go_simp
    try with_reducible rfl
  simp only [Act.put, List.setIfInBounds_toArray, List.set_cons_zero, List.set_cons_succ]
  refine pl_take (d := some 115) (v := .pointer (some ⟨R, 0, none⟩)) (by rfl) (pl_one rfl rfl Va.rs.mr.c0 Try.underlying88 rfl) rfl ?_
  simp only [Act.put, List.setIfInBounds_toArray, List.set_cons_zero, List.set_cons_succ]
  refine pl_take (d := some 116) (v := ?_) (by rfl) ?_ rfl ?_
  rotate_left
  · go_simp
    try with_reducible rfl
  simp only [Act.put, List.setIfInBounds_toArray, List.set_cons_zero, List.set_cons_succ]
  refine pl_take (d := some 117) (v := ?_) (by rfl) ?_ rfl ?_
  rotate_left
  · go_simp
    try with_reducible rfl
  simp only [Act.put, List.setIfInBounds_toArray, List.set_cons_zero, List.set_cons_succ]
  refine pl_take (d := some 118) (v := ?_) (by rfl) ?_ rfl ?_
  rotate_left
  · go_simp
    try with_reducible rfl
  simp only [Act.put, List.setIfInBounds_toArray, List.set_cons_zero, List.set_cons_succ]
  refine pl_call (d := some 119) (by rfl) (by go_simp; first | done | exact ⟨rfl, rfl⟩ | with_reducible rfl) rfl ?_
  refine (c_b w6 Va.rs).mono ?_
  rintro _ wd ⟨x, rfl, hx, hA, hB, Sd, kd⟩
  refine ⟨_, rfl, ?_⟩
  simp only [Act.put, List.setIfInBounds_toArray, List.set_cons_zero, List.set_cons_succ]
  refine pl_take (d := some 120) (v := ?_) (by rfl) ?_ rfl ?_
  rotate_left
  · go_simp
    try with_reducible rfl
  simp only [Act.put, List.setIfInBounds_toArray, List.set_cons_zero, List.set_cons_succ]
  have Vd := Va.on kd Sd
  have Ve := Vd.set 118 [x.val] (put_sg x.val Vt.zero_ok zeros32_len Vt.zero_ok Vd.row (Vd.part 118 1 (by decide)))
  have lb := Va.lb
  have la := Va.la
  have na := Va.kept.size
  refine pl_store (w' := wd.setCells w2.heap.size 118 [x.val]) (by rfl) (ex_put1 (n := 119) rfl rfl rfl Vd.box (by decide) iszSgs rfl rfl) rfl ?_
  refine pl_nil ?_
  have hA1 := hA.put (B := w2.heap.size) (o := 118) (vs := [x.val]) hB (fun b hb => by omega)
  obtain ⟨we, hwe⟩ : ∃ W, wd.setCells w2.heap.size 118 [x.val] = W := ⟨_, rfl⟩
  rw [hwe] at Ve hA1 ⊢
  clear hwe
  clear Vd Sd kd Va hA
  have rpc := Ve.row
  have hmo : Mg.ok ⟨8, 0, 0, 0, 0, false, ⟨none, 0, []⟩, Vt.zero, 0, 0, 0, ⟨none, 0, []⟩, ⟨none, 0, []⟩, zeros32, Vt.zero, ⟨none, 0, []⟩, v_a, x⟩ := ⟨Vt.zero_ok, Vt.zero_ok, zeros32_len, zeros32_byte⟩
  have hpl : (Mg.ms ⟨8, 0, 0, 0, 0, false, ⟨none, 0, []⟩, Vt.zero, 0, 0, 0, ⟨none, 0, []⟩, ⟨none, 0, []⟩, zeros32, Vt.zero, ⟨none, 0, []⟩, v_a, x⟩).cells.length = 119 := hmo.ms.len
  have hp1 := hmo.ms.one
  have hip : (Try.prog.info? 37).map (·.size) = some (Mg.ms ⟨8, 0, 0, 0, 0, false, ⟨none, 0, []⟩, Vt.zero, 0, 0, 0, ⟨none, 0, []⟩, ⟨none, 0, []⟩, zeros32, Vt.zero, ⟨none, 0, []⟩, v_a, x⟩).cells.length := by rw [hpl]; exact iszM
  have rpc : we.rangeAt w2.heap.size 0 (Mg.ms ⟨8, 0, 0, 0, 0, false, ⟨none, 0, []⟩, Vt.zero, 0, 0, 0, ⟨none, 0, []⟩, ⟨none, 0, []⟩, zeros32, Vt.zero, ⟨none, 0, []⟩, v_a, x⟩).cells := rpc
  obtain ⟨pc, hpc⟩ : ∃ p, Hid ((Mg.ms ⟨8, 0, 0, 0, 0, false, ⟨none, 0, []⟩, Vt.zero, 0, 0, 0, ⟨none, 0, []⟩, ⟨none, 0, []⟩, zeros32, Vt.zero, ⟨none, 0, []⟩, v_a, x⟩).cells = p) := ⟨_, hide rfl⟩
  simp only [hpc.out] at hpl hip hp1 rpc
  go_upto_region 22 with fail
  try simp only [Act.put]
  refine pl_begin ?_
  refine pl_take (d := some 121) (v := .agg pc.toArray) (by rfl) (ex_mid rfl rfl rpc Try.underlying37 rfl hip) rfl ?_
  simp only [Act.put, List.setIfInBounds_toArray, List.set_cons_zero, List.set_cons_succ]
  refine pl_store (w' := we.setCells w.heap.size 0 pc) (by rfl) (ex_put (cs := pc.toArray) rfl rfl rfl (by simpa [hpl] using Ve.ans) (by simpa using hip) (all_one hp1)) rfl ?_
  refine pl_nil ?_
  have hlow : Below w.heap.size we (we.setCells w.heap.size 0 pc) := below_sets (Nat.le_refl _) pc 0 _ (Below.refl _ we)
  have hrs := run_loadVar_mid (P := Try.prog) (we.setCells w.heap.size 0 pc) w.heap.size 0 37 pc _ (World.rangeAt_setCells_same we w.heap.size 0 pc (by rw [hpl]; exact Ve.ans)) Try.underlying37 rfl hip
  have HF : Hid (∃ m : Mg, Ending.returned (.agg pc.toArray) = .returned (.agg m.ms.cells.toArray) ∧ m.pure = (⟨8, 0, 0, 0, 0, false, [], Vt.zero, 0, 0, 0, [], [], zeros32, Vt.zero, [], v_a, v_b⟩ : Mp) ∧ m.ok ∧ m.At (we.setCells w.heap.size 0 pc) ∧ m.Bk (fun b => w.heap.size ≤ b) ∧ RS (we.setCells w.heap.size 0 pc) Q R s_b ∧ Kept w R Q (we.setCells w.heap.size 0 pc)) := hide ⟨⟨8, 0, 0, 0, 0, false, ⟨none, 0, []⟩, Vt.zero, 0, 0, 0, ⟨none, 0, []⟩, ⟨none, 0, []⟩, zeros32, Vt.zero, ⟨none, 0, []⟩, v_a, x⟩, by rw [hpc.out], by rw [← hx]; rfl, hmo, mg0_at RowsAt.none hds_none RowsAt.none RowsAt.none (hA1.put hB (fun b hb => by omega)), ⟨no_bk, no_bk, no_bk2, no_bk, no_bk, hB.mono (fun b hb => by omega)⟩, Ve.rs.low hlow hQw, Ve.kept.low hlow (Nat.le_refl _)⟩
  clear Ve hlow rpc hpc hmo hA1 hB hx
  go_wp2_with fail
  refine bodyPost_ret (v := .agg pc.toArray) ?_ rfl ?_
  · simp [results, Try.results15, Act.put, asAddr, hrs]
  · exact HF.out
end Go.Proofs.Ytahdmajppnffeaa
namespace Go.Proofs.Ytahdmajppnffeaa
open Go.RowKit
open Sha Tal
set_option linter.unusedVariables false
set_option linter.unusedSimpArgs false
theorem rmsgS (Q R : Nat) (s : Rst) (w : World) (h : RS w Q R s) (hl : s.1.length ≤ 40000) : Calls Try.prog 15 #[.pointer (some ⟨Q, 0, none⟩)] w fun en w' => ∃ m : Mg, en = .returned (.agg m.ms.cells.toArray) ∧ m.pure = (mgS s).1 ∧ m.ok ∧ m.At w' ∧ m.Bk (fun b => w.heap.size ≤ b) ∧ RS w' Q R (mgS s).2 ∧ Kept w R Q w' := by
  unfold mgS mgF
  by_cases n1 : (kiS 8 s).1 = 1
  · rw [if_pos n1]; exact rmsgK1 Q R s w h hl n1
  rw [if_neg n1]
  by_cases n2 : (kiS 8 s).1 = 2
  · rw [if_pos n2]; exact rmsgK2 Q R s w h hl n2
  rw [if_neg n2]
  by_cases n3 : (kiS 8 s).1 = 3
  · rw [if_pos n3]; exact rmsgK3 Q R s w h hl n3
  rw [if_neg n3]
  by_cases n4 : (kiS 8 s).1 = 4
  · rw [if_pos n4]; exact rmsgK4 Q R s w h hl n4
  rw [if_neg n4]
  by_cases n5 : (kiS 8 s).1 = 5
  · rw [if_pos n5]; exact rmsgK5 Q R s w h hl n5
  rw [if_neg n5]
  by_cases n6 : (kiS 8 s).1 = 6
  · rw [if_pos n6]; exact rmsgK6 Q R s w h hl n6
  rw [if_neg n6]
  by_cases n7 : (kiS 8 s).1 = 7
  · rw [if_pos n7]; exact rmsgK7 Q R s w h hl n7
  rw [if_neg n7]
  by_cases n8 : (kiS 8 s).1 = 8
  · rw [if_pos n8]; exact rmsgK8 Q R s w h hl n8
  rw [if_neg n8]
  exact rmsgK0 Q R s w h hl n1 n2 n3 n4 n5 n6 n7 n8
set_option maxRecDepth 100000 in
set_option maxHeartbeats 2000000 in
theorem newReaderS (s : ByteArray) (hs : s.size ≤ 1099511627) (w : World) : Calls Try.prog 14 #[.string s] w fun e w' => ∃ Q R, e = .returned (.pointer (some ⟨Q, 0, none⟩)) ∧ w.heap.size ≤ R ∧ RS w' Q R (strL s, 0, false) ∧ Below w.heap.size w w' := by
  obtain ⟨c, w1, hc, hr, hB⟩ := bytes_of s hs w
  have hl : (strL s).length ≤ 549755813888 := by rw [strL_length]; omega
  have cr := read_any (some ⟨w.heap.size, 0, none⟩) c (strL s) w1 hr hl
  generalize strL s = zs at *
  go_enter Try.func14, Try.ntmps14
  go_wp2_with fail
  refine cr.mono ?_
  rintro e w2 ⟨R, rfl, hR, hSt, hb2⟩
  have hB2 := hB.trans (hb2.mono hB.size)
  have hB3 : Below w2.heap.size w2 (w2.alloc (.cells #[.pointer (some ⟨R, 0, none⟩), .bool false] 91)) := (Below.refl _ _).alloc (Nat.le_refl _) _
  have hB4 := hB2.trans (hB3.mono hB2.size)
  have hRl := hSt.1.1
  have hSt3 := hSt.below hB3
  have hQ : MrAt (w2.alloc (.cells #[.pointer (some ⟨R, 0, none⟩), .bool false] 91)) w2.heap.size R false :=
    ⟨by simp, hRl, World.cell?_alloc_at _ _ _ _ rfl, World.cell?_alloc_at _ _ _ _ rfl, World.frozen?_alloc_at _ _ _ _ rfl⟩
  have hQt := there_newN w2 #[.pointer (some ⟨R, 0, none⟩), .bool false] 91 (n := 2) rfl
  have hRw : w.heap.size ≤ R := by have := hB.size; omega
  clear cr hc hr hSt hB3 hB2 hb2 hB
  go_wp2_with fail
  go_ret
  exact ⟨_, R, rfl, hRw, ⟨hSt3, hQ, hQt⟩, hB4⟩
/-- what is wrong with the bytes -/
def faE (s : Rst) : Int := if s.2.2 = true then 130 else doneE s.1 s.2.1
set_option maxRecDepth 100000 in
set_option maxHeartbeats 1000000 in
theorem faultS (Q R : Nat) (s : Rst) (w : World) (h : RS w Q R s) : Calls Try.prog 16 #[.pointer (some ⟨Q, 0, none⟩)] w fun en w' => en = .returned (.int .i64 (faE s)) ∧ w' = w := by
  obtain ⟨rest, e, z⟩ := s
  unfold faE
  cases z
  · exact fault_ok Q R rest e w h.st h.mr
  · have c0 := h.mr.c0
    have c1 := h.mr.c1
    simp only at c0 c1
    clear h
    go_enter Try.func16, Try.ntmps16
    go_wp2_with fail
    go_ret
    exact ⟨rfl, rfl⟩
def Mp.none : Mp := ⟨0, 0, 0, 0, 0, false, [], Vt.zero, 0, 0, 0, [], [], zeros32, Vt.zero, [], ⟨#[]⟩, []⟩
/-- bytes, read as a message: the message, the error -/
def decS (zs : List Int) : Mp × Int := if faE (mgS (zs, 0, false)).2 = 0 then ((mgS (zs, 0, false)).1, 0) else (Mp.none, faE (mgS (zs, 0, false)).2)
def Mg.none : Mg := ⟨0, 0, 0, 0, 0, false, ⟨Option.none, 0, []⟩, Vt.zero, 0, 0, 0, ⟨Option.none, 0, []⟩, ⟨Option.none, 0, []⟩, zeros32, Vt.zero, ⟨Option.none, 0, []⟩, ⟨#[]⟩, ⟨Option.none, 0, []⟩⟩
theorem Mg.none_ok : Mg.none.ok := ⟨Vt.zero_ok, Vt.zero_ok, zeros32_len, zeros32_byte⟩
theorem Mg.none_at (w : World) : Mg.none.At w := mg0_at RowsAt.none hds_none RowsAt.none RowsAt.none RowsAt.none
theorem Mg.At.put {m : Mg} {W : World} {n o : Nat} {vs : List Value} (h : m.At W) (k : Mg.Bk m (fun b => n < b)) : m.At (W.setCells n o vs) := by
  obtain ⟨k1, k2, k2', k3, k4, k5⟩ := k
  have f : ∀ b, n < b → b ≠ n := fun b hb => by omega
  exact ⟨h.rs.put k1 f, h.he.put k2 k2' f, h.ne.put k3 f, h.cs.put k4 f, h.sg.put k5 f⟩
theorem build_none (w : World) : (Instr.build 37 #[]).run Try.prog w = .ok (.agg Mg.none.ms.cells.toArray) w := build_msg #[] _ w rfl
set_option maxRecDepth 100000 in
set_option maxHeartbeats 1000000 in
theorem decode_any (sb : ByteArray) (hs : sb.size ≤ 40000) (w : World) : Calls Try.prog 8 #[.string sb] w fun en w' => ∃ m : Mg, en = .returned (.tuple #[.agg m.ms.cells.toArray, .int .i64 (decS (strL sb)).2]) ∧ m.pure = (decS (strL sb)).1 ∧ m.ok ∧ m.At w' ∧ m.Bk (fun b => w.heap.size ≤ b) ∧ Below w.heap.size w w' := by
  obtain ⟨zc, hzc, hzl, hz1, hzr, hb0⟩ : ∃ z : List Value, Hid (z = Mg.none.ms.cells) ∧ z.length = 119 ∧ (∀ v ∈ z, v.oneCell' = true) ∧ (∀ w : World, (zeroValue 37).run Try.prog w = .ok (.agg z.toArray) w) ∧ ∀ w : World, (Instr.build 37 #[]).run Try.prog w = .ok (.agg z.toArray) w := ⟨_, hide rfl, Mg.none_ok.ms.len, Mg.none_ok.ms.one, zeroM, build_none⟩
  have hiz : (Try.prog.info? 37).map (·.size) = some zc.length := by rw [hzl]; exact iszM
  have cn := fun w0 => newReaderS sb (by omega) w0
  have cr := fun Q R w0 h0 => rmsgS Q R (strL sb, 0, false) w0 h0 (by show (strL sb).length ≤ 40000; rw [strL_length]; exact hs)
  have hs' : (sb.size : Int) ≤ 4194304 := by omega
  unfold decS
  generalize strL sb = zs at cn cr ⊢
  generalize mgS (zs, 0, false) = p_ at cr ⊢
  obtain ⟨mp, t⟩ := p_
  simp only at cr ⊢
  have cf := fun Q R w0 h0 => faultS Q R t w0 h0
  generalize faE t = f at cf ⊢
  obtain ⟨hB1, hr1, hs1⟩ := boxed_new w zc 37
  have ht1 := there_newN w zc.toArray 37 (n := 119) (by simp [hzl])
  go_enter Try.func8, Try.ntmps8
  go_upto_region 0 with fail
  try simp only [Act.put]
  refine pl_begin ?_
  refine pl_run (d := some 2) (v := .pointer (some ⟨w.heap.size, 0, none⟩)) (w' := w.alloc (.cells zc.toArray 37)) (by rfl) (ex_alloc rfl (hzr _)) rfl ?_
  simp only [Act.put, List.setIfInBounds_toArray, List.set_cons_zero, List.set_cons_succ]
  refine pl_take (d := some 3) (v := ?_) (by rfl) ?_ rfl ?_
  rotate_left
  · go_simp
    try with_reducible rfl
  simp only [Act.put, List.setIfInBounds_toArray, List.set_cons_zero, List.set_cons_succ]
  refine pl_nil ?_
  obtain ⟨W1, hW1⟩ : ∃ W, w.alloc (.cells zc.toArray 37) = W := ⟨_, rfl⟩
  rw [hW1] at hB1 hr1 hs1 ht1 ⊢
  clear hW1 hr1
  go_upto_region 3 with fail
  try simp only [Act.put]
  refine pl_begin ?_
  refine pl_take (d := some 11) (v := ?_) (by rfl) ?_ rfl ?_
  rotate_left
  · go_simp
    try with_reducible rfl
  simp only [Act.put, List.setIfInBounds_toArray, List.set_cons_zero, List.set_cons_succ]
  refine pl_call (d := some 12) (by rfl) (by go_simp; first | done | exact ⟨rfl, rfl⟩ | with_reducible rfl) rfl ?_
  refine (cn W1).mono ?_
  rintro _ w2 ⟨Q, R, rfl, hRw, S2, hb2⟩
  refine ⟨_, rfl, ?_⟩
  simp only [Act.put, List.setIfInBounds_toArray, List.set_cons_zero, List.set_cons_succ]
  refine pl_take (d := some 4) (v := ?_) (by rfl) ?_ rfl ?_
  rotate_left
  · go_simp
    try with_reducible rfl
  simp only [Act.put, List.setIfInBounds_toArray, List.set_cons_zero, List.set_cons_succ]
  refine pl_nil ?_
  have hT2 := there_below ht1 hb2 hs1
  have hRQ := S2.mr.ne
  have hB2 := hB1.trans (hb2.mono hB1.size)
  have z2 := hb2.size
  clear cn
  go_upto_region 4 with fail
  try simp only [Act.put]
  refine pl_begin ?_
  refine pl_take (d := some 13) (v := ?_) (by rfl) ?_ rfl ?_
  rotate_left
  · go_simp
    try with_reducible rfl
  simp only [Act.put, List.setIfInBounds_toArray, List.set_cons_zero, List.set_cons_succ]
  refine pl_call (d := some 14) (by rfl) (by go_simp; first | done | exact ⟨rfl, rfl⟩ | with_reducible rfl) rfl ?_
  refine (cr Q R w2 S2).mono ?_
  rintro _ w3 ⟨m, rfl, hp, hmo, hA, hB, S3, k3⟩
  refine ⟨_, rfl, ?_⟩
  simp only [Act.put, List.setIfInBounds_toArray, List.set_cons_zero, List.set_cons_succ]
  have hql := hmo.ms.len
  have hq1 := hmo.ms.one
  have hiq : (Try.prog.info? 37).map (·.size) = some m.ms.cells.length := by rw [hql]; exact iszM
  obtain ⟨q, hqq⟩ : ∃ q, Hid (m.ms.cells = q) := ⟨_, hide rfl⟩
  simp only [hqq.out] at hql hq1 hiq ⊢
  refine pl_run (d := some 5) (v := .pointer (some ⟨w3.heap.size, 0, none⟩)) (w' := w3.alloc (.cells zc.toArray 37)) (by rfl) (ex_alloc rfl (hzr _)) rfl ?_
  simp only [Act.put, List.setIfInBounds_toArray, List.set_cons_zero, List.set_cons_succ]
  refine pl_store (w' := (w3.alloc (.cells zc.toArray 37)).setCells w3.heap.size 0 q) (by rfl) (ex_put (cs := q.toArray) rfl rfl rfl (there_newN _ _ _ (by simp [hzl, hql])) (by simpa using hiq) (all_one hq1)) rfl ?_
  refine pl_nil ?_
  obtain ⟨r4, hF2, hF3, -⟩ := fresh_store w3 zc.toArray 37 q (by simp [hzl, hql])
  have hT3 := there_blk hT2 (k3.block w.heap.size (by omega) (by omega) (by omega))
  have hB3 : Below w.heap.size w w3 := k3.to hB2 (by omega) (by omega)
  have z3 := k3.size
  obtain ⟨w4, hw4⟩ : ∃ W, (w3.alloc (.cells zc.toArray 37)).setCells w3.heap.size 0 q = W := ⟨_, rfl⟩
  rw [hw4] at r4 hF2 hF3 ⊢
  clear hw4
  have S4 := S3.below hF2
  have hT4 := there_below hT3 hF2 (by omega)
  have hB4 := hB3.trans (hF2.mono hB3.size)
  have hA4 := hA.below hF2
  have cf := cf Q R
  have hBk : m.Bk (fun b => w.heap.size < b) := ⟨hB.1.mono (fun b hb => by omega), hB.2.1.mono (fun b hb => by omega), fun y hy => (hB.2.2.1 y hy).mono (fun b hb => by omega), hB.2.2.2.1.mono (fun b hb => by omega), hB.2.2.2.2.1.mono (fun b hb => by omega), hB.2.2.2.2.2.mono (fun b hb => by omega)⟩
  have hBk0 : m.Bk (fun b => w.heap.size ≤ b) := ⟨hB.1.mono (fun b hb => by omega), hB.2.1.mono (fun b hb => by omega), fun y hy => (hB.2.2.1 y hy).mono (fun b hb => by omega), hB.2.2.2.1.mono (fun b hb => by omega), hB.2.2.2.2.1.mono (fun b hb => by omega), hB.2.2.2.2.2.mono (fun b hb => by omega)⟩
  have B9 := fun vs => below_sets (Nat.le_refl w.heap.size) vs 0 _ hB4
  have A9 := fun vs => Mg.At.put (o := 0) (vs := vs) hA4 hBk
  have HM := hide (show m.pure = mp ∧ m.ok ∧ m.Bk (fun b => w.heap.size ≤ b) from ⟨hp, hmo, hBk0⟩)
  clear hF2 hA hB hBk hBk0 hT3 hB3 S3 k3 hT2 hB2 hp hmo hA4 cr S2 hb2
  go_upto_region 5 with fail
  try simp only [Act.put]
  refine pl_begin ?_
  refine pl_take (d := some 15) (v := ?_) (by rfl) ?_ rfl ?_
  rotate_left
  · go_simp
    try with_reducible rfl
  simp only [Act.put, List.setIfInBounds_toArray, List.set_cons_zero, List.set_cons_succ]
  refine pl_call (d := some 16) (by rfl) (by go_simp; first | done | exact ⟨rfl, rfl⟩ | with_reducible rfl) rfl ?_
  refine (cf w4 S4).mono ?_
  rintro _ w5 ⟨rfl, hx⟩
  obtain rfl := hx.symm
  clear hx
  refine ⟨_, rfl, ?_⟩
  simp only [Act.put, List.setIfInBounds_toArray, List.set_cons_zero, List.set_cons_succ]
  refine pl_take (d := some 6) (v := ?_) (by rfl) ?_ rfl ?_
  rotate_left
  · go_simp
    try with_reducible rfl
  simp only [Act.put, List.setIfInBounds_toArray, List.set_cons_zero, List.set_cons_succ]
  refine pl_nil ?_
  clear cf S4
  by_cases hf : f = 0
  · subst hf
    go_upto_region 8 with fail
    try simp only [Act.put]
    refine pl_begin ?_
    refine pl_take (d := some 21) (v := .agg q.toArray) (by rfl) (ex_mid rfl rfl r4 Try.underlying37 rfl hiq) rfl ?_
    simp only [Act.put, List.setIfInBounds_toArray, List.set_cons_zero, List.set_cons_succ]
    refine pl_store (w' := w4.setCells w.heap.size 0 q) (by rfl) (ex_put (cs := q.toArray) rfl rfl rfl (by simpa [hql] using hT4) (by simpa using hiq) (all_one hq1)) rfl ?_
    refine pl_take (d := some 3) (v := ?_) (by rfl) ?_ rfl ?_
    rotate_left
    · go_simp
      try with_reducible rfl
    simp only [Act.put, List.setIfInBounds_toArray, List.set_cons_zero, List.set_cons_succ]
    refine pl_nil ?_
    have hrs := run_loadVar_mid (P := Try.prog) (w4.setCells w.heap.size 0 q) w.heap.size 0 37 q _ (World.rangeAt_setCells_same w4 w.heap.size 0 q (by rw [hql]; exact hT4)) Try.underlying37 rfl hiq
    have HF : Hid (∃ g : Mg, Ending.returned (.tuple #[.agg q.toArray, .int .i64 0]) = .returned (.tuple #[.agg g.ms.cells.toArray, .int .i64 0]) ∧ g.pure = mp ∧ g.ok ∧ g.At (w4.setCells w.heap.size 0 q) ∧ g.Bk (fun b => w.heap.size ≤ b) ∧ Below w.heap.size w (w4.setCells w.heap.size 0 q)) := hide ⟨m, by rw [hqq.out], HM.out.1, HM.out.2.1, A9 q, HM.out.2.2, B9 q⟩
    clear HM A9 B9 r4 hT4 hB4 hqq
    go_wp2_with fail
    refine bodyPost_ret (results_ct rfl _ _ _ rfl hrs) rfl ?_
    exact HF.out
  · have hfb : (f != 0) = true := by simpa using hf
    go_upto_region 7 with fail
    try simp only [Act.put]
    refine pl_begin ?_
    refine pl_take (d := some 19) (v := .agg zc.toArray) (by rfl) (ex_build (parts := []) rfl rfl (hb0 _)) rfl ?_
    simp only [Act.put, List.setIfInBounds_toArray, List.set_cons_zero, List.set_cons_succ]
    refine pl_take (d := some 20) (v := ?_) (by rfl) ?_ rfl ?_
    rotate_left
    · go_simp
      try with_reducible rfl
    simp only [Act.put, List.setIfInBounds_toArray, List.set_cons_zero, List.set_cons_succ]
    refine pl_store (w' := w4.setCells w.heap.size 0 zc) (by rfl) (ex_put (cs := zc.toArray) rfl rfl rfl (by simpa [hzl] using hT4) (by simpa using hiz) (all_one hz1)) rfl ?_
    refine pl_take (d := some 3) (v := ?_) (by rfl) ?_ rfl ?_
    rotate_left
    · go_simp
      try with_reducible rfl
    simp only [Act.put, List.setIfInBounds_toArray, List.set_cons_zero, List.set_cons_succ]
    refine pl_nil ?_
    have hrs := run_loadVar_mid (P := Try.prog) (w4.setCells w.heap.size 0 zc) w.heap.size 0 37 zc _ (World.rangeAt_setCells_same w4 w.heap.size 0 zc (by rw [hzl]; exact hT4)) Try.underlying37 rfl hiz
    have HF : Hid (∃ g : Mg, Ending.returned (.tuple #[.agg zc.toArray, .int .i64 f]) = .returned (.tuple #[.agg g.ms.cells.toArray, .int .i64 f]) ∧ g.pure = Mp.none ∧ g.ok ∧ g.At (w4.setCells w.heap.size 0 zc) ∧ g.Bk (fun b => w.heap.size ≤ b) ∧ Below w.heap.size w (w4.setCells w.heap.size 0 zc)) := hide ⟨Mg.none, by rw [hzc.out], rfl, Mg.none_ok, Mg.none_at _, ⟨no_bk, no_bk, no_bk2, no_bk, no_bk, no_bk⟩, B9 zc⟩
    clear HM A9 B9 r4 hT4 hB4 hqq hzc
    go_wp2_with fail
    refine bodyPost_ret (results_ct rfl _ _ _ rfl hrs) rfl ?_
    first | exact HF.out | (rw [if_neg hf]; exact HF.out) | (simp only [if_neg hf]; exact HF.out)
end Go.Proofs.Ytahdmajppnffeaa
namespace Go.Proofs.Ytahdmajppnffeaa
open Go.RowKit
open Sha Tal
set_option linter.unusedVariables false
set_option linter.unusedSimpArgs false
theorem Codec.same {α : Type} {f f' : Rst → α × Rst} {enc : α → List Int} {ok : α → Prop} (p : Codec f enc ok) (h2 : ∀ s, (f' s).2 = (f s).2) (h1 : ∀ r, cod (f (r, 0, false)).2 = 0 → (f' (r, 0, false)).1 = (f (r, 0, false)).1) : Codec f' enc ok := by
  refine ⟨fun s h => by rw [h2]; exact p.bad s h, fun a q h => ?_, fun r hb hc => ?_⟩
  · have e := p.back a q h
    have c0 : cod (f (enc a ++ q, 0, false)).2 = 0 := by rw [e]; rfl
    rw [← e]
    exact Prod.ext (h1 _ c0) (h2 _)
  · rw [h2] at hc
    obtain ⟨a, q, k1, k2, k3⟩ := p.form r hb hc
    exact ⟨a, q, k1, by rw [← k2]; exact Prod.ext (h1 _ hc) (h2 _), k3⟩
/-- a request -/
def rqS (s : Rst) : Rq × Rst := ((rqOf (rgetR s.1 s.2.1)).un, (rgetR s.1 s.2.1).rest, (rgetR s.1 s.2.1).err, s.2.2)
def rqOk (r : Rq) : Prop := (0 ≤ r.c ∧ r.c ≤ 8) ∧ ((0 ≤ r.n ∧ r.n ≤ 1099511627776) ∧ ((r.s.size : Int) ≤ 64 ∧ (r.t.length = 16 ∧ Bs r.t)))
def rqL (r : Rq) : List Int := (BRq.of r).bytes
theorem rq_codec : Codec rqS rqL rqOk := by
  refine Codec.same (f := fun s => _) ((Codec.map (fun (c : Int × (Int × (ByteArray × List Int))) => (⟨c.1, c.2.1, c.2.2.1, c.2.2.2⟩ : Rq)) (fun r => (r.c, (r.n, (r.s, r.t)))) (fun _ => rfl) (Codec.bind (nu_codec 8 (by decide)) (Codec.bind (nu_codec 1099511627776 (by decide)) (Codec.bind (tx_codec 64 (by decide)) (pad_codec 16 16 rfl))))).as rfl (fun r => by simp [rqL, BRq.bytes, BRq.of, List.append_assoc]) (fun a => ⟨fun h => ⟨h, rfl⟩, fun h => h.1⟩)) (fun _ => rfl) (fun r hc => ?_)
  have he : (rgetR r 0).err = 0 := (cod0 (z := false) hc).2
  have e0 : rqOf (rgetR r 0) = ⟨(rgetR r 0).c, (rgetR r 0).n, strOf (rgetR r 0).s, (rgetR r 0).t⟩ := by
    unfold rqOf
    rw [if_pos he]
  show (rqOf (rgetR r 0)).un = _
  rw [e0]
  have hl := (rawS_16 _ _).2 (show (rawS (textS (numS (numS r 0 8).2.1 (numS r 0 8).2.2 1099511627776).2.1 (numS (numS r 0 8).2.1 (numS r 0 8).2.2 1099511627776).2.2 64).2.1 (textS (numS (numS r 0 8).2.1 (numS r 0 8).2.2 1099511627776).2.1 (numS (numS r 0 8).2.1 (numS r 0 8).2.2 1099511627776).2.2 64).2.2 16).2.2 = 0 from he)
  have ep : padN 16 (rawS (textS (numS (numS r 0 8).2.1 (numS r 0 8).2.2 1099511627776).2.1 (numS (numS r 0 8).2.1 (numS r 0 8).2.2 1099511627776).2.2 64).2.1 (textS (numS (numS r 0 8).2.1 (numS r 0 8).2.2 1099511627776).2.1 (numS (numS r 0 8).2.1 (numS r 0 8).2.2 1099511627776).2.2 64).2.2 16).1 = (rawS (textS (numS (numS r 0 8).2.1 (numS r 0 8).2.2 1099511627776).2.1 (numS (numS r 0 8).2.1 (numS r 0 8).2.2 1099511627776).2.2 64).2.1 (textS (numS (numS r 0 8).2.1 (numS r 0 8).2.2 1099511627776).2.1 (numS (numS r 0 8).2.1 (numS r 0 8).2.2 1099511627776).2.2 64).2.2 16).1 := by
    unfold padN
    rw [if_pos hl]
  show (⟨_, _, _, (rawS (textS (numS (numS r 0 8).2.1 (numS r 0 8).2.2 1099511627776).2.1 (numS (numS r 0 8).2.1 (numS r 0 8).2.2 1099511627776).2.2 64).2.1 (textS (numS (numS r 0 8).2.1 (numS r 0 8).2.2 1099511627776).2.1 (numS (numS r 0 8).2.1 (numS r 0 8).2.2 1099511627776).2.2 64).2.2 16).1⟩ : Rq) = ⟨_, _, _, padN 16 (rawS (textS (numS (numS r 0 8).2.1 (numS r 0 8).2.2 1099511627776).2.1 (numS (numS r 0 8).2.1 (numS r 0 8).2.2 1099511627776).2.2 64).2.1 (textS (numS (numS r 0 8).2.1 (numS r 0 8).2.2 1099511627776).2.1 (numS (numS r 0 8).2.1 (numS r 0 8).2.2 1099511627776).2.2 64).2.2 16).1⟩
  rw [ep]
  rfl
theorem it_getRs (k : Nat) (r : List Int) (e : Int) (z : Bool) : itG rqS (r, e, z) k = ((getRs k r e).1.map BRq.un, (getRs k r e).2.1, (getRs k r e).2.2, z) := by
  induction k with
  | zero => rfl
  | succ k ih =>
    show ((itG rqS (r, e, z) k).1 ++ [(rqS (itG rqS (r, e, z) k).2).1], (rqS (itG rqS (r, e, z) k).2).2) = _
    rw [ih]
    show ((getRs k r e).1.map BRq.un ++ [(rqOf (rgetR (getRs k r e).2.1 (getRs k r e).2.2)).un], _) = (((getRs k r e).1 ++ [rqOf (rgetR (getRs k r e).2.1 (getRs k r e).2.2)]).map BRq.un, _)
    rw [List.map_append]
    rfl
/-- a batch -/
def baL (c : Bool × List Rq) : List Int := batL c.1 (c.2.map BRq.of)
def baOk (c : Bool × List Rq) : Prop := (c.1 = true → c.2 = []) ∧ (c.2.length ≤ 4 ∧ ∀ r ∈ c.2, rqOk r)
theorem ba_codec : Codec baS baL baOk := by
  refine ⟨fun s h => ?_, fun c t hc => ?_, fun r hb hc => ?_⟩
  · obtain ⟨r, e, z⟩ := s
    cases z
    · have h : e ≠ 0 := h
      show (getB r e).err = e
      have h1 := numS_bad 5 r e h
      have h2 : (numS r e 5).1 = 0 := numS_zero (by rw [h1]; exact h)
      unfold getB
      rw [if_pos h2]
      exact h1
    · rfl
  · obtain ⟨q, rs⟩ := c
    obtain ⟨h1, h2, h3⟩ := hc
    show (((getB (batL q (rs.map BRq.of) ++ t) 0).q, (getB (batL q (rs.map BRq.of) ++ t) 0).rs.map BRq.un), (getB (batL q (rs.map BRq.of) ++ t) 0).rest, (getB (batL q (rs.map BRq.of) ++ t) 0).err, false) = _
    cases q
    · have e : batL false (rs.map BRq.of) = putL ((rs.length : Int) + 1) ++ rs.flatMap rqL := by
        unfold batL
        rw [if_neg (by decide), List.length_map, List.flatMap_map]
        rfl
      have h2 : rs.length ≤ 4 := h2
      rw [e, List.append_assoc]
      have hn := numS_back ((rs.length : Int) + 1) 5 (by omega) (by omega) (by omega) (rs.flatMap rqL ++ t)
      have hi := it_back rq_codec t rs h3 rs.length (Nat.le_refl _)
      rw [it_getRs] at hi
      simp only [List.take_length, List.drop_length, List.flatMap_nil, List.nil_append, Prod.mk.injEq, and_true] at hi
      obtain ⟨i1, i2, i3⟩ := hi
      unfold getB
      rw [hn]
      simp only
      rw [if_neg (by omega), show ((rs.length : Int) + 1 - 1).toNat = rs.length by omega, if_pos i3]
      simp only
      rw [i1, i2, i3]
    · obtain rfl : rs = [] := h1 rfl
      have hn := numS_back 0 5 (by omega) (by omega) (by omega) t
      have e : batL true (([] : List Rq).map BRq.of) = putL 0 := rfl
      rw [e]
      unfold getB
      rw [hn]
      rfl
  · have he : (getB r 0).err = 0 := (cod0 (z := false) hc).2
    show ∃ a q, _ ∧ (((getB r 0).q, (getB r 0).rs.map BRq.un), (getB r 0).rest, (getB r 0).err, false) = _ ∧ _
    have hn : (numS r 0 5).2.2 = 0 := by
      by_cases c : (numS r 0 5).2.2 = 0
      · exact c
      · have h2 : (numS r 0 5).1 = 0 := numS_zero c
        unfold getB at he
        rw [if_pos h2] at he
        exact absurd he c
    obtain ⟨n, q, k1, k2, k3⟩ := num_form hb hn
    unfold getB at he ⊢
    rw [k2] at he ⊢
    simp only at he ⊢
    by_cases h0 : n = 0
    · subst h0
      rw [if_pos rfl]
      exact ⟨(true, []), q, ⟨(fun _ => rfl), (by simp), (fun r hr => by cases hr)⟩, rfl, k3⟩
    · rw [if_neg h0] at he ⊢
      have he : (getRs (n - 1).toNat q 0).2.2 = 0 := he
      have hc2 : cod (itG rqS (q, 0, false) (n - 1).toNat).2 = 0 := by rw [it_getRs]; exact he
      obtain ⟨xs, q', j1, j2, j3, j4⟩ := it_form rq_codec q (by rw [k3] at hb; exact hb.right) _ hc2
      rw [it_getRs] at j3
      simp only [Prod.mk.injEq, and_true] at j3
      obtain ⟨i1, i2, i3⟩ := j3
      refine ⟨(false, xs), q', ⟨(fun e => by cases e), (by show xs.length ≤ 4; omega), j2⟩, ?_, ?_⟩
      · rw [if_pos he]
        simp only
        rw [i1, i2, i3]
      · show r = batL false (xs.map BRq.of) ++ q'
        unfold batL
        rw [if_neg (by decide), List.length_map, List.flatMap_map, k3, j4, List.append_assoc, show ((xs.length : Nat) : Int) + 1 = n by omega]
        rfl
/-- a cert, what was held, a change -/
def ceOk (c : Vt × List Sg) : Prop := vtOk c.1 ∧ ((c.2.length : Int) ≤ 64 ∧ ∀ x ∈ c.2, sgOk x)
theorem ce_codec : Codec ceS (fun c => ctL c.1 c.2) ceOk := (Codec.bind vo_codec (ls_codec 64 (by decide) si_codec)).as rfl (fun _ => rfl) (fun _ => Iff.rfl)
def hpL (h : Hp) : List Int := baL (h.q, h.rs) ++ ctL h.vt h.sg
def hpOk (h : Hp) : Prop := baOk (h.q, h.rs) ∧ ceOk (h.vt, h.sg)
theorem he_codec : Codec heS hpL hpOk := (Codec.map (fun (c : (Bool × List Rq) × (Vt × List Sg)) => (⟨c.1.1, c.1.2, c.2.1, c.2.2⟩ : Hp)) (fun h => ((h.q, h.rs), (h.vt, h.sg))) (fun _ => rfl) (Codec.bind ba_codec ce_codec)).as rfl (fun _ => rfl) (fun a => ⟨fun h => ⟨h, rfl⟩, fun h => h.1⟩)
def cpL (c : Cp) : List Int := putL c.e ++ (putL c.l ++ (putL c.v ++ (putL c.he.length ++ c.he.flatMap hpL)))
def cpOk (c : Cp) : Prop := (0 ≤ c.e ∧ c.e ≤ 1048576) ∧ ((0 ≤ c.l ∧ c.l ≤ 64) ∧ ((0 ≤ c.v ∧ c.v ≤ 1099511627776) ∧ ((c.he.length : Int) ≤ 4 ∧ ∀ x ∈ c.he, hpOk x)))
theorem ch_codec : Codec chS cpL cpOk := (Codec.map (fun (c : Int × (Int × (Int × List Hp))) => (⟨c.1, c.2.1, c.2.2.1, c.2.2.2⟩ : Cp)) (fun c => (c.e, (c.l, (c.v, c.he)))) (fun _ => rfl) (Codec.bind (nu_codec 1048576 (by decide)) (Codec.bind (nu_codec 64 (by decide)) (Codec.bind (nu_codec 1099511627776 (by decide)) (ls_codec 4 (by decide) he_codec))))).as rfl (fun _ => rfl) (fun a => ⟨fun h => ⟨h, rfl⟩, fun h => h.1⟩)
def onlyP1 (c : Int × (Int × (Bool × List Rq))) : Mp := ⟨1, c.1, 0, 0, c.2.1, c.2.2.1, c.2.2.2, Vt.zero, 0, 0, 0, [], [], zeros32, Vt.zero, [], ⟨#[]⟩, []⟩
def body1 (m : Mp) : List Int := putL m.e ++ (putL m.s ++ baL (m.q, m.rs))
def kok1 (m : Mp) : Prop := ((0 ≤ m.e ∧ m.e ≤ 1048576) ∧ ((0 ≤ m.s ∧ m.s ≤ 1099511627776) ∧ baOk (m.q, m.rs))) ∧ onlyP1 (m.e, (m.s, (m.q, m.rs))) = m
theorem mg1_codec : Codec mg1 body1 kok1 := (Codec.map onlyP1 (fun m => (m.e, (m.s, (m.q, m.rs)))) (fun _ => rfl) (Codec.bind (nu_codec 1048576 (by decide)) (Codec.bind (nu_codec 1099511627776 (by decide)) ba_codec))).as rfl (fun _ => rfl) (fun _ => Iff.rfl)
def onlyP2 (c : Vt) : Mp := ⟨2, 0, 0, 0, 0, false, [], c, 0, 0, 0, [], [], zeros32, Vt.zero, [], ⟨#[]⟩, []⟩
def body2 (m : Mp) : List Int := vtL m.vt
def kok2 (m : Mp) : Prop := (vtOk m.vt) ∧ onlyP2 m.vt = m
theorem mg2_codec : Codec mg2 body2 kok2 := (Codec.map onlyP2 (fun m => m.vt) (fun _ => rfl) vo_codec).as rfl (fun _ => rfl) (fun _ => Iff.rfl)
def onlyP3 (c : Cp) : Mp := ⟨3, 0, 0, 0, 0, false, [], Vt.zero, c.e, c.l, c.v, c.he, [], zeros32, Vt.zero, [], ⟨#[]⟩, []⟩
def body3 (m : Mp) : List Int := cpL ⟨m.ce, m.cl, m.cv, m.he⟩
def kok3 (m : Mp) : Prop := (cpOk ⟨m.ce, m.cl, m.cv, m.he⟩) ∧ onlyP3 ⟨m.ce, m.cl, m.cv, m.he⟩ = m
theorem mg3_codec : Codec mg3 body3 kok3 := (Codec.map onlyP3 (fun m => ⟨m.ce, m.cl, m.cv, m.he⟩) (fun _ => rfl) ch_codec).as rfl (fun _ => rfl) (fun _ => Iff.rfl)
def onlyP4 (c : Int × (Int × (Int × List Ev))) : Mp := ⟨4, c.1, c.2.1, c.2.2.1, 0, false, [], Vt.zero, 0, 0, 0, [], c.2.2.2, zeros32, Vt.zero, [], ⟨#[]⟩, []⟩
def body4 (m : Mp) : List Int := putL m.e ++ (putL m.l ++ (putL m.v ++ evsL m.ne))
def kok4 (m : Mp) : Prop := ((0 ≤ m.e ∧ m.e ≤ 1048576) ∧ ((0 ≤ m.l ∧ m.l ≤ 64) ∧ ((0 ≤ m.v ∧ m.v ≤ 1099511627776) ∧ ((m.ne.length : Int) ≤ 64 ∧ ∀ x ∈ m.ne, evOk x)))) ∧ onlyP4 (m.e, (m.l, (m.v, m.ne))) = m
theorem mg4_codec : Codec mg4 body4 kok4 := (Codec.map onlyP4 (fun m => (m.e, (m.l, (m.v, m.ne)))) (fun _ => rfl) (Codec.bind (nu_codec 1048576 (by decide)) (Codec.bind (nu_codec 64 (by decide)) (Codec.bind (nu_codec 1099511627776 (by decide)) (ls_codec 64 (by decide) en_codec))))).as rfl (fun _ => rfl) (fun _ => Iff.rfl)
def onlyP5 (c : Int × List Int) : Mp := ⟨5, c.1, 0, 0, 0, false, [], Vt.zero, 0, 0, 0, [], [], c.2, Vt.zero, [], ⟨#[]⟩, []⟩
def body5 (m : Mp) : List Int := putL m.e ++ m.d
def kok5 (m : Mp) : Prop := ((0 ≤ m.e ∧ m.e ≤ 1048576) ∧ (m.d.length = 32 ∧ Bs m.d)) ∧ onlyP5 (m.e, m.d) = m
theorem mg5_codec : Codec mg5 body5 kok5 := (Codec.map onlyP5 (fun m => (m.e, m.d)) (fun _ => rfl) (Codec.bind (nu_codec 1048576 (by decide)) (pad_codec 32 32 rfl))).as rfl (fun _ => rfl) (fun _ => Iff.rfl)
def onlyP6 (c : Int × Int) : Mp := ⟨6, c.1, 0, 0, c.2, false, [], Vt.zero, 0, 0, 0, [], [], zeros32, Vt.zero, [], ⟨#[]⟩, []⟩
def body6 (m : Mp) : List Int := putL m.e ++ putL m.s
def kok6 (m : Mp) : Prop := ((0 ≤ m.e ∧ m.e ≤ 1048576) ∧ (0 ≤ m.s ∧ m.s ≤ 1099511627776)) ∧ onlyP6 (m.e, m.s) = m
theorem mg6_codec : Codec mg6 body6 kok6 := (Codec.map onlyP6 (fun m => (m.e, m.s)) (fun _ => rfl) (Codec.bind (nu_codec 1048576 (by decide)) (nu_codec 1099511627776 (by decide)))).as rfl (fun _ => rfl) (fun _ => Iff.rfl)
def onlyP7 (c : (Bool × List Rq) × (Vt × List Sg)) : Mp := ⟨7, 0, 0, 0, 0, c.1.1, c.1.2, Vt.zero, 0, 0, 0, [], [], zeros32, c.2.1, c.2.2, ⟨#[]⟩, []⟩
def body7 (m : Mp) : List Int := baL (m.q, m.rs) ++ ctL m.ct m.cs
def kok7 (m : Mp) : Prop := (baOk (m.q, m.rs) ∧ ceOk (m.ct, m.cs)) ∧ onlyP7 ((m.q, m.rs), (m.ct, m.cs)) = m
theorem mg7_codec : Codec mg7 body7 kok7 := (Codec.map onlyP7 (fun m => ((m.q, m.rs), (m.ct, m.cs))) (fun _ => rfl) (Codec.bind ba_codec ce_codec)).as rfl (fun _ => rfl) (fun _ => Iff.rfl)
def onlyP8 (c : ByteArray × List Sg) : Mp := ⟨8, 0, 0, 0, 0, false, [], Vt.zero, 0, 0, 0, [], [], zeros32, Vt.zero, [], c.1, c.2⟩
def body8 (m : Mp) : List Int := textL m.st ++ sgsL m.sg
def kok8 (m : Mp) : Prop := ((m.st.size : Int) ≤ 4194304 ∧ ((m.sg.length : Int) ≤ 64 ∧ ∀ x ∈ m.sg, sgOk x)) ∧ onlyP8 (m.st, m.sg) = m
theorem mg8_codec : Codec mg8 body8 kok8 := (Codec.map onlyP8 (fun m => (m.st, m.sg)) (fun _ => rfl) (Codec.bind (tx_codec 4194304 (by decide)) (ls_codec 64 (by decide) si_codec))).as rfl (fun _ => rfl) (fun _ => Iff.rfl)
/-- the bytes of a message -/
def Mp.bytes (m : Mp) : List Int := putL m.k ++ (if m.k = 1 then body1 m else if m.k = 2 then body2 m else if m.k = 3 then body3 m else if m.k = 4 then body4 m else if m.k = 5 then body5 m else if m.k = 6 then body6 m else if m.k = 7 then body7 m else body8 m)
def Mp.good (m : Mp) : Prop := (m.k = 1 ∧ kok1 m) ∨ (m.k = 2 ∧ kok2 m) ∨ (m.k = 3 ∧ kok3 m) ∨ (m.k = 4 ∧ kok4 m) ∨ (m.k = 5 ∧ kok5 m) ∨ (m.k = 6 ∧ kok6 m) ∨ (m.k = 7 ∧ kok7 m) ∨ (m.k = 8 ∧ kok8 m)
theorem done0 (q : List Int) : faE (q, 0, false) = if q.length = 0 then 0 else 12 := rfl
theorem mgS_back {m : Mp} (h : m.good) (q : List Int) : mgS (m.bytes ++ q, 0, false) = (m, q, 0, false) := by
  have hk : 1 ≤ m.k ∧ m.k ≤ 8 := by
    rcases h with h | h | h | h | h | h | h | h <;> (have := h.1; omega)
  have kb := (ki_codec 8 (by decide)).back m.k
  unfold mgS Mp.bytes
  rw [List.append_assoc, kb _ hk]
  simp only
  rcases h with ⟨h, k⟩ | ⟨h, k⟩ | ⟨h, k⟩ | ⟨h, k⟩ | ⟨h, k⟩ | ⟨h, k⟩ | ⟨h, k⟩ | ⟨h, k⟩
  · rw [h]
    exact mg1_codec.back m q k
  · rw [h]
    exact mg2_codec.back m q k
  · rw [h]
    exact mg3_codec.back m q k
  · rw [h]
    exact mg4_codec.back m q k
  · rw [h]
    exact mg5_codec.back m q k
  · rw [h]
    exact mg6_codec.back m q k
  · rw [h]
    exact mg7_codec.back m q k
  · rw [h]
    exact mg8_codec.back m q k
theorem dec_more {m : Mp} (h : m.good) (q : List Int) : decS (m.bytes ++ q) = if q.length = 0 then (m, 0) else (Mp.none, 12) := by
  unfold decS
  rw [mgS_back h q, done0]
  by_cases c : q.length = 0
  · rw [if_pos c, if_pos rfl, if_pos c]
  · rw [if_neg c, if_neg (by decide), if_neg c]
theorem dec_back {m : Mp} (h : m.good) : decS m.bytes = (m, 0) := by
  have := dec_more h []
  rw [List.append_nil] at this
  exact this
theorem dec_form {zs : List Int} (hb : Bs zs) (h : (decS zs).2 = 0) : (decS zs).1.good ∧ zs = (decS zs).1.bytes := by
  have hf : faE (mgS (zs, 0, false)).2 = 0 := by
    by_cases c : faE (mgS (zs, 0, false)).2 = 0
    · exact c
    · unfold decS at h
      rw [if_neg c] at h
      exact h
  have hd : decS zs = ((mgS (zs, 0, false)).1, 0) := by
    unfold decS
    rw [if_pos hf]
  rw [hd]
  simp only
  have hc : cod (mgS (zs, 0, false)).2 = 0 := by
    generalize (mgS (zs, 0, false)).2 = s at hf
    obtain ⟨r, e, z⟩ := s
    cases z
    · show e = 0
      have hf : doneE r e = 0 := hf
      unfold doneE at hf
      by_cases c : e = 0
      · exact c
      · rw [if_neg c] at hf; exact hf
    · exact absurd hf (show (130 : Int) ≠ 0 by decide)
  have hr : (mgS (zs, 0, false)).2.1 = [] := by
    generalize (mgS (zs, 0, false)).2 = s at hf hc
    obtain ⟨r, e, z⟩ := s
    obtain ⟨rfl, rfl⟩ := cod0 hc
    rw [done0] at hf
    by_cases c : r.length = 0
    · exact List.eq_nil_of_length_eq_zero c
    · rw [if_neg c] at hf; exact absurd hf (by decide)
  have hbad : ∀ k s, cod s ≠ 0 → cod (mgF k s).2 = cod s := fun k s hs => by
    unfold mgF
    by_cases n1 : k = 1
    · rw [if_pos n1]; exact mg1_codec.bad s hs
    rw [if_neg n1]
    by_cases n2 : k = 2
    · rw [if_pos n2]; exact mg2_codec.bad s hs
    rw [if_neg n2]
    by_cases n3 : k = 3
    · rw [if_pos n3]; exact mg3_codec.bad s hs
    rw [if_neg n3]
    by_cases n4 : k = 4
    · rw [if_pos n4]; exact mg4_codec.bad s hs
    rw [if_neg n4]
    by_cases n5 : k = 5
    · rw [if_pos n5]; exact mg5_codec.bad s hs
    rw [if_neg n5]
    by_cases n6 : k = 6
    · rw [if_pos n6]; exact mg6_codec.bad s hs
    rw [if_neg n6]
    by_cases n7 : k = 7
    · rw [if_pos n7]; exact mg7_codec.bad s hs
    rw [if_neg n7]
    by_cases n8 : k = 8
    · rw [if_pos n8]; exact mg8_codec.bad s hs
    rw [if_neg n8]
  unfold mgS at hc hr ⊢
  have ck : cod (kiS 8 (zs, 0, false)).2 = 0 := by
    by_cases c : cod (kiS 8 (zs, 0, false)).2 = 0
    · exact c
    · exact absurd ((hbad _ _ c).symm.trans hc) c
  obtain ⟨k, q, k1, k2, k3⟩ := (ki_codec 8 (by decide)).form zs hb ck
  rw [k2] at hc hr ⊢
  simp only at hc hr ⊢
  have hbq : Bs q := by rw [k3] at hb; exact hb.right
  unfold mgF at hc hr ⊢
  by_cases n1 : k = 1
  · rw [if_pos n1] at hc hr ⊢
    obtain ⟨m, q', j1, j2, j3⟩ := mg1_codec.form q hbq hc
    rw [j2] at hr ⊢
    simp only at hr ⊢
    have hmk : m.k = 1 := by rw [← j1.2]; rfl
    refine ⟨.inl ⟨hmk, j1⟩, ?_⟩
    have eb : m.bytes = putL 1 ++ body1 m := by unfold Mp.bytes; rw [hmk]; rfl
    rw [eb, k3, j3, hr, List.append_nil, n1]
  rw [if_neg n1] at hc hr ⊢
  by_cases n2 : k = 2
  · rw [if_pos n2] at hc hr ⊢
    obtain ⟨m, q', j1, j2, j3⟩ := mg2_codec.form q hbq hc
    rw [j2] at hr ⊢
    simp only at hr ⊢
    have hmk : m.k = 2 := by rw [← j1.2]; rfl
    refine ⟨.inr (.inl ⟨hmk, j1⟩), ?_⟩
    have eb : m.bytes = putL 2 ++ body2 m := by unfold Mp.bytes; rw [hmk]; rfl
    rw [eb, k3, j3, hr, List.append_nil, n2]
  rw [if_neg n2] at hc hr ⊢
  by_cases n3 : k = 3
  · rw [if_pos n3] at hc hr ⊢
    obtain ⟨m, q', j1, j2, j3⟩ := mg3_codec.form q hbq hc
    rw [j2] at hr ⊢
    simp only at hr ⊢
    have hmk : m.k = 3 := by rw [← j1.2]; rfl
    refine ⟨.inr (.inr (.inl ⟨hmk, j1⟩)), ?_⟩
    have eb : m.bytes = putL 3 ++ body3 m := by unfold Mp.bytes; rw [hmk]; rfl
    rw [eb, k3, j3, hr, List.append_nil, n3]
  rw [if_neg n3] at hc hr ⊢
  by_cases n4 : k = 4
  · rw [if_pos n4] at hc hr ⊢
    obtain ⟨m, q', j1, j2, j3⟩ := mg4_codec.form q hbq hc
    rw [j2] at hr ⊢
    simp only at hr ⊢
    have hmk : m.k = 4 := by rw [← j1.2]; rfl
    refine ⟨.inr (.inr (.inr (.inl ⟨hmk, j1⟩))), ?_⟩
    have eb : m.bytes = putL 4 ++ body4 m := by unfold Mp.bytes; rw [hmk]; rfl
    rw [eb, k3, j3, hr, List.append_nil, n4]
  rw [if_neg n4] at hc hr ⊢
  by_cases n5 : k = 5
  · rw [if_pos n5] at hc hr ⊢
    obtain ⟨m, q', j1, j2, j3⟩ := mg5_codec.form q hbq hc
    rw [j2] at hr ⊢
    simp only at hr ⊢
    have hmk : m.k = 5 := by rw [← j1.2]; rfl
    refine ⟨.inr (.inr (.inr (.inr (.inl ⟨hmk, j1⟩)))), ?_⟩
    have eb : m.bytes = putL 5 ++ body5 m := by unfold Mp.bytes; rw [hmk]; rfl
    rw [eb, k3, j3, hr, List.append_nil, n5]
  rw [if_neg n5] at hc hr ⊢
  by_cases n6 : k = 6
  · rw [if_pos n6] at hc hr ⊢
    obtain ⟨m, q', j1, j2, j3⟩ := mg6_codec.form q hbq hc
    rw [j2] at hr ⊢
    simp only at hr ⊢
    have hmk : m.k = 6 := by rw [← j1.2]; rfl
    refine ⟨.inr (.inr (.inr (.inr (.inr (.inl ⟨hmk, j1⟩))))), ?_⟩
    have eb : m.bytes = putL 6 ++ body6 m := by unfold Mp.bytes; rw [hmk]; rfl
    rw [eb, k3, j3, hr, List.append_nil, n6]
  rw [if_neg n6] at hc hr ⊢
  by_cases n7 : k = 7
  · rw [if_pos n7] at hc hr ⊢
    obtain ⟨m, q', j1, j2, j3⟩ := mg7_codec.form q hbq hc
    rw [j2] at hr ⊢
    simp only at hr ⊢
    have hmk : m.k = 7 := by rw [← j1.2]; rfl
    refine ⟨.inr (.inr (.inr (.inr (.inr (.inr (.inl ⟨hmk, j1⟩)))))), ?_⟩
    have eb : m.bytes = putL 7 ++ body7 m := by unfold Mp.bytes; rw [hmk]; rfl
    rw [eb, k3, j3, hr, List.append_nil, n7]
  rw [if_neg n7] at hc hr ⊢
  by_cases n8 : k = 8
  · rw [if_pos n8] at hc hr ⊢
    obtain ⟨m, q', j1, j2, j3⟩ := mg8_codec.form q hbq hc
    rw [j2] at hr ⊢
    simp only at hr ⊢
    have hmk : m.k = 8 := by rw [← j1.2]; rfl
    refine ⟨.inr (.inr (.inr (.inr (.inr (.inr (.inr (⟨hmk, j1⟩))))))), ?_⟩
    have eb : m.bytes = putL 8 ++ body8 m := by unfold Mp.bytes; rw [hmk]; rfl
    rw [eb, k3, j3, hr, List.append_nil, n8]
  rw [if_neg n8] at hc hr ⊢
  omega
end Go.Proofs.Ytahdmajppnffeaa
