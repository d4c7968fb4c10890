/- messages, read: kind 3; messages, read: kind 4; messages, read: kind 5; messages, read: kind 6; messages, read: kind 7; messages, read: kind 8; the program's De -/
import Derived.Test.YtcbpbkefggekmaaGreatDoorJR0
import Derived.Test.YtcbpbkefggekmaaGreatDoorJR9
import Derived.Test.YtcbpbkefggekmaaGreatDoorJR3
import Derived.Test.YtcbpbkefggekmaaGreatDoorJR7
namespace Go.Proofs.YtcbpbkefggekmaaGreatDoor
open Go.RowKit
open Sha Tal
set_option linter.unusedVariables false
set_option linter.unusedSimpArgs false
set_option maxRecDepth 100000 in
set_option maxHeartbeats 1000000 in
theorem rmsgK3 (Q R : Nat) (s : Rst) (w : World) (h : RS w Q R s) (hl : s.1.length ≤ 40000) (hk : (kiS 8 s).1 = 3) : Calls Tryz.prog 66 #[.pointer (some ⟨Q, 0, none⟩)] w fun en w' => ∃ m : Mg, en = .returned (.agg m.ms.cells.toArray) ∧ m.pure = (mg3 (kiS 8 s).2).1 ∧ m.ok ∧ m.At w' ∧ m.Bk (fun b => w.heap.size ≤ b) ∧ RS w' Q R (mg3 (kiS 8 s).2).2 ∧ Kept w R Q w' := by
 have hRw := h.st.1.1
 have hQw := h.mr.lt
 have ck := fun w0 h0 => kindRS Q R 8 s w0 h0
 have l0 := kiS_len 8 s
 unfold mg3
 generalize kiS 8 s = p_ at ck l0 hk ⊢
 obtain ⟨k, s0⟩ := p_
 simp only at ck l0 hk ⊢
 subst hk
 have c_a := fun w0 h0 => rchangeS Q R s0 w0 h0 (by omega)
 have l_a : (chS s0).2.1.length ≤ s0.1.length := chS_len _
 generalize chS s0 = p_ at c_a l_a ⊢
 obtain ⟨⟨e_a, m_a, n_a, he_a⟩, s_a⟩ := p_
 simp only at c_a l_a ⊢
 obtain ⟨zc, hzl, hzr⟩ : ∃ z : List Value, z.length = 119 ∧ ∀ w : World, (zeroValue 52).run Tryz.prog w = .ok (.agg z.toArray) w := ⟨_, (Ms.plain_ok 0 0 0 Vt.zero_ok zeros32_len zeros32_byte).len, zeroM⟩
 have hbk := build_kind 3
 have hql := (ms0_ok 3).len
 have hq1 := (ms0_ok 3).one
 have hiq : (Tryz.prog.info? 52).map (·.size) = some (Ms.plain 3 0 0 Vt.zero zeros32).cells.length := by rw [hql]; exact iszM
 have hk0 : ∀ (w' : World) b, w'.rangeAt b 0 (Ms.plain 3 0 0 Vt.zero zeros32).cells → w'.cell? ⟨b, 0, none⟩ = some (.int .i64 3) := fun w' b h => ((ms0_ok 3).at h).k
 obtain ⟨qk, hqk⟩ : ∃ q, Hid ((Ms.plain 3 0 0 Vt.zero zeros32).cells = q) := ⟨_, hide rfl⟩
 simp only [hqk.out] at hbk hql hq1 hiq hk0
 obtain ⟨hB1, hr1, hs1⟩ := boxed_new w zc 52
 have ht1 := there_newN w zc.toArray 52 (n := 119) (by simp [hzl])
 go_enter Tryz.func66, Tryz.ntmps66
 go_upto_region 0 with fail
 try simp only [Act.put]
 refine pl_begin ?_
 refine pl_run (d := some 2) (v := .pointer (some ⟨w.heap.size, 0, none⟩)) (w' := w.alloc (.cells zc.toArray 52)) (by rfl) (ex_alloc rfl (hzr _)) rfl ?_
 simp only [nz]
 refine pl_nil ?_
 obtain ⟨W1, hW1⟩ : ∃ W, w.alloc (.cells zc.toArray 52) = W := ⟨_, rfl⟩
 rw [hW1] at hB1 hr1 hs1 ht1 ⊢
 clear hW1 hr1
 have S1 := h.below hB1
 go_upto_region 1 with fail
 try simp only [Act.put]
 refine pl_begin ?_
 refine pl_t 4 (?_) (by rfl) ?_ rfl ?_
 rotate_left
 ·go_simp
  try with_reducible rfl
 simp only [nz]
 refine pl_call (d := some 5) (by rfl) (by go_simp; first | done | exact ⟨rfl, rfl⟩ | with_reducible rfl) rfl ?_
 refine (ck W1 S1).mono ?_
 rintro _ w2 ⟨rfl, S2, k2⟩
 refine ⟨_, rfl, ?_⟩
 simp only [nz]
 refine pl_t 6 (.agg qk.toArray) (by rfl) (ex_build (parts := [(0, .tmp 5)]) rfl rfl (hbk _)) rfl ?_
 simp only [nz]
 refine pl_run (d := some 3) (v := .pointer (some ⟨w2.heap.size, 0, none⟩)) (w' := w2.alloc (.cells zc.toArray 52)) (by rfl) (ex_alloc rfl (hzr _)) rfl ?_
 simp only [nz]
 refine pl_store (w' := (w2.alloc (.cells zc.toArray 52)).setCells w2.heap.size 0 qk) (by rfl) (ex_put (cs := qk.toArray) rfl rfl rfl (there_newN _ _ _ (by simp [hzl, hql])) (by simpa using hiq) (all_one hq1)) rfl ?_
 refine pl_nil ?_
 obtain ⟨hF1, hF2, hF3, -⟩ := fresh_store w2 zc.toArray 52 qk (by simp [hzl, hql])
 have hF4 := World.there_setCells (there_newN w2 zc.toArray 52 (n := 119) (by simp [hzl])) w2.heap.size 0 qk
 obtain ⟨w3, hw3⟩ : ∃ W, (w2.alloc (.cells zc.toArray 52)).setCells w2.heap.size 0 qk = W := ⟨_, rfl⟩
 rw [hw3] at hF1 hF2 hF3 hF4 ⊢
 clear hw3
 have hc0 := hk0 _ _ hF1
 have k3 : Kept w R Q w3 := (((Kept.refl w R Q).below hB1).trans k2).below hF2
 have z2 := k2.size
 rw [← hqk.out] at hF1
 have V3 : MV w Q R w.heap.size w2.heap.size 119 (Ms.plain 3 0 0 Vt.zero zeros32).cells s0 w3 := ⟨hF1, hF4, there_below (there_blk ht1 (k2.block _ hs1 (by omega) (by omega))) hF2 (by omega), k3, S2.below hF2, by have := hF2.size; omega, by omega, Nat.le_refl _, by have := hB1.size; omega, by omega, hRw, hQw⟩
 have hww : w.heap.size < w2.heap.size := by omega
 clear hF1 hF2 hF4 ht1 hB1 S1 S2 k2 k3 hk0 hbk hql hq1 hiq hqk h ck hzr hzl
 go_upto_region 2 with fail
 try simp only [Act.put]
 refine pl_begin ?_
 refine pl_t 7 (?_) (by rfl) ?_ rfl ?_
 rotate_left
 ·go_simp
  try with_reducible rfl
 simp only [nz]
 refine pl_t 8 (.int .i64 3) (by rfl) (pl_one rfl rfl hc0 Tryz.underlying3 rfl) rfl ?_
 simp only [nz]
 refine pl_nil ?_
 clear hc0
 go_upto_region 9 with fail
 try simp only [Act.put]
 refine pl_begin ?_
 refine pl_t 36 (?_) (by rfl) ?_ rfl ?_
 rotate_left
 ·go_simp
  try with_reducible rfl
 simp only [nz]
 refine pl_call (d := some 37) (by rfl) (by go_simp; first | done | exact ⟨rfl, rfl⟩ | with_reducible rfl) rfl ?_
 refine (c_a w3 V3.rs).mono ?_
 rintro _ wd ⟨x, rfl, hx, hA, hB, hB2, Sd, kd⟩
 refine ⟨_, rfl, ?_⟩
 simp only [nz]
 refine pl_t 38 (?_) (by rfl) ?_ rfl ?_
 rotate_left
 ·go_simp
  try with_reducible rfl
 simp only [nz]
 have Vd := V3.on kd Sd
 have Ve := Vd.set 43 [.int .i64 e_a, .int .i64 m_a, .int .i64 n_a, x.val] (put_ch e_a m_a n_a x.val Vt.zero_ok Vd.row (Vd.part 43 4 (by decide)))
 have lb := V3.lb
 have la := V3.la
 have na := V3.kept.size
 refine pl_store (w' := wd.setCells w2.heap.size 43 [.int .i64 e_a, .int .i64 m_a, .int .i64 n_a, x.val]) (by rfl) (ex_put (cs := #[.int .i64 e_a, .int .i64 m_a, .int .i64 n_a, x.val]) rfl rfl rfl (Vd.part 43 4 (by decide)) iszCh (by simp [Value.oneCell', Sl.val])) rfl ?_
 refine pl_nil ?_
 have hA1 := hA.put (B := w2.heap.size) (o := 43) (vs := [.int .i64 e_a, .int .i64 m_a, .int .i64 n_a, x.val]) hB hB2 (fun b hb => by omega)
 obtain ⟨we, hwe⟩ : ∃ W, wd.setCells w2.heap.size 43 [.int .i64 e_a, .int .i64 m_a, .int .i64 n_a, x.val] = W := ⟨_, rfl⟩
 rw [hwe] at Ve hA1 ⊢
 clear hwe
 clear Vd Sd kd V3 hA
 have rpc := Ve.row
 have hmo : Mg.ok ⟨3, 0, 0, 0, 0, false, ⟨none, 0, []⟩, Vt.zero, e_a, m_a, n_a, x, ⟨none, 0, []⟩, zeros32, Vt.zero, ⟨none, 0, []⟩, ⟨#[]⟩, ⟨none, 0, []⟩⟩ := ⟨Vt.zero_ok, Vt.zero_ok, zeros32_len, zeros32_byte⟩
 have hpl : (Mg.ms ⟨3, 0, 0, 0, 0, false, ⟨none, 0, []⟩, Vt.zero, e_a, m_a, n_a, x, ⟨none, 0, []⟩, zeros32, Vt.zero, ⟨none, 0, []⟩, ⟨#[]⟩, ⟨none, 0, []⟩⟩).cells.length = 119 := hmo.ms.len
 have hp1 := hmo.ms.one
 have hip : (Tryz.prog.info? 52).map (·.size) = some (Mg.ms ⟨3, 0, 0, 0, 0, false, ⟨none, 0, []⟩, Vt.zero, e_a, m_a, n_a, x, ⟨none, 0, []⟩, zeros32, Vt.zero, ⟨none, 0, []⟩, ⟨#[]⟩, ⟨none, 0, []⟩⟩).cells.length := by rw [hpl]; exact iszM
 have rpc : we.rangeAt w2.heap.size 0 (Mg.ms ⟨3, 0, 0, 0, 0, false, ⟨none, 0, []⟩, Vt.zero, e_a, m_a, n_a, x, ⟨none, 0, []⟩, zeros32, Vt.zero, ⟨none, 0, []⟩, ⟨#[]⟩, ⟨none, 0, []⟩⟩).cells := rpc
 obtain ⟨pc, hpc⟩ : ∃ p, Hid ((Mg.ms ⟨3, 0, 0, 0, 0, false, ⟨none, 0, []⟩, Vt.zero, e_a, m_a, n_a, x, ⟨none, 0, []⟩, zeros32, Vt.zero, ⟨none, 0, []⟩, ⟨#[]⟩, ⟨none, 0, []⟩⟩).cells = p) := ⟨_, hide rfl⟩
 simp only [hpc.out] at hpl hip hp1 rpc
 go_upto_region 22 with fail
 try simp only [Act.put]
 refine pl_begin ?_
 refine pl_t 121 (.agg pc.toArray) (by rfl) (ex_mid rfl rfl rpc Tryz.underlying52 rfl hip) rfl ?_
 simp only [nz]
 refine pl_store (w' := we.setCells w.heap.size 0 pc) (by rfl) (ex_put (cs := pc.toArray) rfl rfl rfl (by simpa [hpl] using Ve.ans) (by simpa using hip) (all_one hp1)) rfl ?_
 refine pl_nil ?_
 have hlow : Below w.heap.size we (we.setCells w.heap.size 0 pc) := below_sets (Nat.le_refl _) pc 0 _ (Below.refl _ we)
 have hrs := run_loadVar_mid (P := Tryz.prog) (we.setCells w.heap.size 0 pc) w.heap.size 0 52 pc _ (World.rangeAt_setCells_same we w.heap.size 0 pc (by rw [hpl]; exact Ve.ans)) Tryz.underlying52 rfl hip
 have HF : Hid (∃ m : Mg, Ending.returned (.agg pc.toArray) = .returned (.agg m.ms.cells.toArray) ∧ m.pure = (⟨3, 0, 0, 0, 0, false, [], Vt.zero, e_a, m_a, n_a, he_a, [], zeros32, Vt.zero, [], ⟨#[]⟩, []⟩ : Mp) ∧ m.ok ∧ m.At (we.setCells w.heap.size 0 pc) ∧ m.Bk (fun b => w.heap.size ≤ b) ∧ RS (we.setCells w.heap.size 0 pc) Q R s_a ∧ Kept w R Q (we.setCells w.heap.size 0 pc)) := hide ⟨⟨3, 0, 0, 0, 0, false, ⟨none, 0, []⟩, Vt.zero, e_a, m_a, n_a, x, ⟨none, 0, []⟩, zeros32, Vt.zero, ⟨none, 0, []⟩, ⟨#[]⟩, ⟨none, 0, []⟩⟩, by rw [hpc.out], by rw [← hx]; rfl, hmo, mg0_at RowsAt.none (hA1.put hB hB2 (fun b hb => by omega)) RowsAt.none RowsAt.none RowsAt.none, ⟨no_bk, hB.mono (fun b hb => by omega), fun y hy => (hB2 y hy).mono (fun b hb => by omega), no_bk, no_bk, no_bk⟩, Ve.rs.low hlow hQw, Ve.kept.low hlow (Nat.le_refl _)⟩
 clear Ve hlow rpc hpc hmo hA1 hB hB2 hx
 go_wp2_with fail
 refine bodyPost_ret (v := .agg pc.toArray) ?_ rfl ?_
 ·simp [results, Tryz.results66, Act.put, asAddr, hrs]
 ·exact HF.out
set_option maxRecDepth 100000 in
set_option maxHeartbeats 1000000 in
theorem rmsgK4 (Q R : Nat) (s : Rst) (w : World) (h : RS w Q R s) (hl : s.1.length ≤ 40000) (hk : (kiS 8 s).1 = 4) : Calls Tryz.prog 66 #[.pointer (some ⟨Q, 0, none⟩)] w fun en w' => ∃ m : Mg, en = .returned (.agg m.ms.cells.toArray) ∧ m.pure = (mg4 (kiS 8 s).2).1 ∧ m.ok ∧ m.At w' ∧ m.Bk (fun b => w.heap.size ≤ b) ∧ RS w' Q R (mg4 (kiS 8 s).2).2 ∧ Kept w R Q w' := by
 have hRw := h.st.1.1
 have hQw := h.mr.lt
 have ck := fun w0 h0 => kindRS Q R 8 s w0 h0
 have l0 := kiS_len 8 s
 unfold mg4
 generalize kiS 8 s = p_ at ck l0 hk ⊢
 obtain ⟨k, s0⟩ := p_
 simp only at ck l0 hk ⊢
 subst hk
 have c_a := fun w0 h0 => numRS Q R 1048576 s0 w0 h0
 have l_a : (nuS 1048576 s0).2.1.length ≤ s0.1.length := nuS_len _ _
 generalize nuS 1048576 s0 = p_ at c_a l_a ⊢
 obtain ⟨v_a, s_a⟩ := p_
 simp only at c_a l_a ⊢
 have c_b := fun w0 h0 => numRS Q R 64 s_a w0 h0
 have l_b : (nuS 64 s_a).2.1.length ≤ s_a.1.length := nuS_len _ _
 generalize nuS 64 s_a = p_ at c_b l_b ⊢
 obtain ⟨v_b, s_b⟩ := p_
 simp only at c_b l_b ⊢
 have c_c := fun w0 h0 => numRS Q R 1099511627776 s_b w0 h0
 have l_c : (nuS 1099511627776 s_b).2.1.length ≤ s_b.1.length := nuS_len _ _
 generalize nuS 1099511627776 s_b = p_ at c_c l_c ⊢
 obtain ⟨v_c, s_c⟩ := p_
 simp only at c_c l_c ⊢
 have c_d := fun w0 h0 => rlistE_any Q R s_c w0 h0 (by omega)
 have l_d : (lsS 64 enS s_c).2.1.length ≤ s_c.1.length := lsS_len enS_len _ _
 generalize lsS 64 enS s_c = p_ at c_d l_d ⊢
 obtain ⟨v_d, s_d⟩ := p_
 simp only at c_d l_d ⊢
 obtain ⟨zc, hzl, hzr⟩ : ∃ z : List Value, z.length = 119 ∧ ∀ w : World, (zeroValue 52).run Tryz.prog w = .ok (.agg z.toArray) w := ⟨_, (Ms.plain_ok 0 0 0 Vt.zero_ok zeros32_len zeros32_byte).len, zeroM⟩
 have hbk := build_kind 4
 have hql := (ms0_ok 4).len
 have hq1 := (ms0_ok 4).one
 have hiq : (Tryz.prog.info? 52).map (·.size) = some (Ms.plain 4 0 0 Vt.zero zeros32).cells.length := by rw [hql]; exact iszM
 have hk0 : ∀ (w' : World) b, w'.rangeAt b 0 (Ms.plain 4 0 0 Vt.zero zeros32).cells → w'.cell? ⟨b, 0, none⟩ = some (.int .i64 4) := fun w' b h => ((ms0_ok 4).at h).k
 obtain ⟨qk, hqk⟩ : ∃ q, Hid ((Ms.plain 4 0 0 Vt.zero zeros32).cells = q) := ⟨_, hide rfl⟩
 simp only [hqk.out] at hbk hql hq1 hiq hk0
 obtain ⟨hB1, hr1, hs1⟩ := boxed_new w zc 52
 have ht1 := there_newN w zc.toArray 52 (n := 119) (by simp [hzl])
 go_enter Tryz.func66, Tryz.ntmps66
 go_upto_region 0 with fail
 try simp only [Act.put]
 refine pl_begin ?_
 refine pl_run (d := some 2) (v := .pointer (some ⟨w.heap.size, 0, none⟩)) (w' := w.alloc (.cells zc.toArray 52)) (by rfl) (ex_alloc rfl (hzr _)) rfl ?_
 simp only [nz]
 refine pl_nil ?_
 obtain ⟨W1, hW1⟩ : ∃ W, w.alloc (.cells zc.toArray 52) = W := ⟨_, rfl⟩
 rw [hW1] at hB1 hr1 hs1 ht1 ⊢
 clear hW1 hr1
 have S1 := h.below hB1
 go_upto_region 1 with fail
 try simp only [Act.put]
 refine pl_begin ?_
 refine pl_t 4 (?_) (by rfl) ?_ rfl ?_
 rotate_left
 ·go_simp
  try with_reducible rfl
 simp only [nz]
 refine pl_call (d := some 5) (by rfl) (by go_simp; first | done | exact ⟨rfl, rfl⟩ | with_reducible rfl) rfl ?_
 refine (ck W1 S1).mono ?_
 rintro _ w2 ⟨rfl, S2, k2⟩
 refine ⟨_, rfl, ?_⟩
 simp only [nz]
 refine pl_t 6 (.agg qk.toArray) (by rfl) (ex_build (parts := [(0, .tmp 5)]) rfl rfl (hbk _)) rfl ?_
 simp only [nz]
 refine pl_run (d := some 3) (v := .pointer (some ⟨w2.heap.size, 0, none⟩)) (w' := w2.alloc (.cells zc.toArray 52)) (by rfl) (ex_alloc rfl (hzr _)) rfl ?_
 simp only [nz]
 refine pl_store (w' := (w2.alloc (.cells zc.toArray 52)).setCells w2.heap.size 0 qk) (by rfl) (ex_put (cs := qk.toArray) rfl rfl rfl (there_newN _ _ _ (by simp [hzl, hql])) (by simpa using hiq) (all_one hq1)) rfl ?_
 refine pl_nil ?_
 obtain ⟨hF1, hF2, hF3, -⟩ := fresh_store w2 zc.toArray 52 qk (by simp [hzl, hql])
 have hF4 := World.there_setCells (there_newN w2 zc.toArray 52 (n := 119) (by simp [hzl])) w2.heap.size 0 qk
 obtain ⟨w3, hw3⟩ : ∃ W, (w2.alloc (.cells zc.toArray 52)).setCells w2.heap.size 0 qk = W := ⟨_, rfl⟩
 rw [hw3] at hF1 hF2 hF3 hF4 ⊢
 clear hw3
 have hc0 := hk0 _ _ hF1
 have k3 : Kept w R Q w3 := (((Kept.refl w R Q).below hB1).trans k2).below hF2
 have z2 := k2.size
 rw [← hqk.out] at hF1
 have V3 : MV w Q R w.heap.size w2.heap.size 119 (Ms.plain 4 0 0 Vt.zero zeros32).cells s0 w3 := ⟨hF1, hF4, there_below (there_blk ht1 (k2.block _ hs1 (by omega) (by omega))) hF2 (by omega), k3, S2.below hF2, by have := hF2.size; omega, by omega, Nat.le_refl _, by have := hB1.size; omega, by omega, hRw, hQw⟩
 have hww : w.heap.size < w2.heap.size := by omega
 clear hF1 hF2 hF4 ht1 hB1 S1 S2 k2 k3 hk0 hbk hql hq1 hiq hqk h ck hzr hzl
 go_upto_region 2 with fail
 try simp only [Act.put]
 refine pl_begin ?_
 refine pl_t 7 (?_) (by rfl) ?_ rfl ?_
 rotate_left
 ·go_simp
  try with_reducible rfl
 simp only [nz]
 refine pl_t 8 (.int .i64 4) (by rfl) (pl_one rfl rfl hc0 Tryz.underlying3 rfl) rfl ?_
 simp only [nz]
 refine pl_nil ?_
 clear hc0
 go_upto_region 11 with fail
 have V8 := V3.drew
 refine hs_begin (S := (fun W' => W'.cell? ⟨Q, 0, none⟩ = some (.pointer (some ⟨R, 0, none⟩)))) 21 rfl (by kernel_rfl) ?_
 obtain ⟨w8, hw8⟩ : ∃ W, w3.drew = W := ⟨_, rfl⟩
 rw [hw8] at V8 ⊢
 clear hw8 V3
 have hS : (fun W' => W'.cell? ⟨Q, 0, none⟩ = some (.pointer (some ⟨R, 0, none⟩))) w8 := V8.rs.mr.c0
 refine hs_t 0 41 (?_) rfl (by kernel_rfl) (by kernel_rfl) (by kernel_rfl) (by rfl) ?_ hS rfl ?_
 rotate_left
 ·intro w' hw
  go_simp
  try with_reducible rfl
 simp only [nz]
 refine hs_t 1 42 (?_) rfl (by kernel_rfl) (by kernel_rfl) (by kernel_rfl) (by rfl) ?_ hS rfl ?_
 rotate_left
 ·intro w' hw
  go_simp
  try with_reducible rfl
 simp only [nz]
 refine hs_t 2 43 (?_) rfl (by kernel_rfl) (by kernel_rfl) (by kernel_rfl) (by rfl) ?_ hS rfl ?_
 rotate_left
 ·intro w' hw
  go_simp
  try with_reducible rfl
 simp only [nz]
 refine hs_t 3 44 (.pointer (some ⟨R, 0, none⟩)) rfl (by kernel_rfl) (by kernel_rfl) (by kernel_rfl) (by rfl) (fun w' hw => pl_one rfl rfl hw Tryz.underlying98 rfl) hS rfl ?_
 simp only [nz]
 refine hs_t 5 46 (?_) rfl (by kernel_rfl) (by kernel_rfl) (by kernel_rfl) (by rfl) ?_ hS rfl ?_
 rotate_left
 ·intro w' hw
  go_simp
  try with_reducible rfl
 simp only [nz]
 refine hs_t 6 47 (?_) rfl (by kernel_rfl) (by kernel_rfl) (by kernel_rfl) (by rfl) ?_ hS rfl ?_
 rotate_left
 ·intro w' hw
  go_simp
  try with_reducible rfl
 simp only [nz]
 refine hs_t 7 48 (?_) rfl (by kernel_rfl) (by kernel_rfl) (by kernel_rfl) (by rfl) ?_ hS rfl ?_
 rotate_left
 ·intro w' hw
  go_simp
  try with_reducible rfl
 simp only [nz]
 refine hs_t 8 49 (.pointer (some ⟨R, 0, none⟩)) rfl (by kernel_rfl) (by kernel_rfl) (by kernel_rfl) (by rfl) (fun w' hw => pl_one rfl rfl hw Tryz.underlying98 rfl) hS rfl ?_
 simp only [nz]
 refine hs_t 10 51 (?_) rfl (by kernel_rfl) (by kernel_rfl) (by kernel_rfl) (by rfl) ?_ hS rfl ?_
 rotate_left
 ·intro w' hw
  go_simp
  try with_reducible rfl
 simp only [nz]
 refine hs_t 11 52 (?_) rfl (by kernel_rfl) (by kernel_rfl) (by kernel_rfl) (by rfl) ?_ hS rfl ?_
 rotate_left
 ·intro w' hw
  go_simp
  try with_reducible rfl
 simp only [nz]
 refine hs_t 12 53 (?_) rfl (by kernel_rfl) (by kernel_rfl) (by kernel_rfl) (by rfl) ?_ hS rfl ?_
 rotate_left
 ·intro w' hw
  go_simp
  try with_reducible rfl
 simp only [nz]
 refine hs_t 13 54 (.pointer (some ⟨R, 0, none⟩)) rfl (by kernel_rfl) (by kernel_rfl) (by kernel_rfl) (by rfl) (fun w' hw => pl_one rfl rfl hw Tryz.underlying98 rfl) hS rfl ?_
 simp only [nz]
 refine hs_call (i := 4) (d := some 45) rfl (by kernel_rfl) (by rfl) (by go_simp; first | done | exact ⟨rfl, rfl⟩ | with_reducible rfl) rfl ?_
 refine (c_a w8 V8.rs).mono ?_
 rintro _ w5 ⟨rfl, S5, k5⟩
 have hS : (fun W' => W'.cell? ⟨Q, 0, none⟩ = some (.pointer (some ⟨R, 0, none⟩))) w5 := S5.mr.c0
 refine ⟨_, rfl, hS, ?_⟩
 simp only [nz]
 refine hs_t 15 56 (?_) rfl (by kernel_rfl) (by kernel_rfl) (by kernel_rfl) (by rfl) ?_ hS rfl ?_
 rotate_left
 ·intro w' hw
  go_simp
  try with_reducible rfl
 simp only [nz]
 refine hs_call (i := 9) (d := some 50) rfl (by kernel_rfl) (by rfl) (by go_simp; first | done | exact ⟨rfl, rfl⟩ | with_reducible rfl) rfl ?_
 refine (c_b w5 S5).mono ?_
 rintro _ w6 ⟨rfl, S6, k6⟩
 have hS : (fun W' => W'.cell? ⟨Q, 0, none⟩ = some (.pointer (some ⟨R, 0, none⟩))) w6 := S6.mr.c0
 refine ⟨_, rfl, hS, ?_⟩
 simp only [nz]
 refine hs_call (i := 14) (d := some 55) rfl (by kernel_rfl) (by rfl) (by go_simp; first | done | exact ⟨rfl, rfl⟩ | with_reducible rfl) rfl ?_
 refine (c_c w6 S6).mono ?_
 rintro _ w7 ⟨rfl, S7, k7⟩
 have hS : (fun W' => W'.cell? ⟨Q, 0, none⟩ = some (.pointer (some ⟨R, 0, none⟩))) w7 := S7.mr.c0
 refine ⟨_, rfl, hS, ?_⟩
 simp only [nz]
 have V_0 := (((V8.on k5 S5).on k6 S6).on k7 S7)
 have V_1 := V_0.set 1 [.int .i64 v_a] (put_e v_a V_0.row (V_0.part 1 1 (by decide)))
 refine hs_store (i := 16) (w' := w7.setCells w2.heap.size 1 [.int .i64 v_a]) rfl (by kernel_rfl) (by rfl) (ex_put1 (n := 119) rfl rfl rfl V_0.box (by decide) iszI rfl rfl) rfl V_1.rs.mr.c0 ?_
 obtain ⟨w_16, hw_16⟩ : ∃ W, w7.setCells w2.heap.size 1 [.int .i64 v_a] = W := ⟨_, rfl⟩
 rw [hw_16] at V_1 ⊢
 clear hw_16
 have hS : (fun W' => W'.cell? ⟨Q, 0, none⟩ = some (.pointer (some ⟨R, 0, none⟩))) w_16 := V_1.rs.mr.c0
 refine hs_t 17 57 (?_) rfl (by kernel_rfl) (by kernel_rfl) (by kernel_rfl) (by rfl) ?_ hS rfl ?_
 rotate_left
 ·intro w' hw
  go_simp
  try with_reducible rfl
 simp only [nz]
 have V_2 := V_1.set 2 [.int .i64 v_b] (put_l v_b V_1.row (V_1.part 2 1 (by decide)))
 refine hs_store (i := 18) (w' := w_16.setCells w2.heap.size 2 [.int .i64 v_b]) rfl (by kernel_rfl) (by rfl) (ex_put1 (n := 119) rfl rfl rfl V_1.box (by decide) iszI rfl rfl) rfl V_2.rs.mr.c0 ?_
 obtain ⟨w_18, hw_18⟩ : ∃ W, w_16.setCells w2.heap.size 2 [.int .i64 v_b] = W := ⟨_, rfl⟩
 rw [hw_18] at V_2 ⊢
 clear hw_18
 have hS : (fun W' => W'.cell? ⟨Q, 0, none⟩ = some (.pointer (some ⟨R, 0, none⟩))) w_18 := V_2.rs.mr.c0
 refine hs_t 19 58 (?_) rfl (by kernel_rfl) (by kernel_rfl) (by kernel_rfl) (by rfl) ?_ hS rfl ?_
 rotate_left
 ·intro w' hw
  go_simp
  try with_reducible rfl
 simp only [nz]
 have V_3 := V_2.set 3 [.int .i64 v_c] (put_v v_c V_2.row (V_2.part 3 1 (by decide)))
 refine hs_store (i := 20) (w' := w_18.setCells w2.heap.size 3 [.int .i64 v_c]) rfl (by kernel_rfl) (by rfl) (ex_put1 (n := 119) rfl rfl rfl V_2.box (by decide) iszI rfl rfl) rfl V_3.rs.mr.c0 ?_
 obtain ⟨w_20, hw_20⟩ : ∃ W, w_18.setCells w2.heap.size 3 [.int .i64 v_c] = W := ⟨_, rfl⟩
 rw [hw_20] at V_3 ⊢
 clear hw_20
 have hS : (fun W' => W'.cell? ⟨Q, 0, none⟩ = some (.pointer (some ⟨R, 0, none⟩))) w_20 := V_3.rs.mr.c0
 refine hs_done (by kernel_rfl) ?_
 clear hS V8 S5 k5 S6 k6 S7 k7 V_0 V_1 V_2 c_a c_b c_c
 go_upto_region 12 with fail
 try simp only [Act.put]
 refine pl_begin ?_
 refine pl_t 59 (?_) (by rfl) ?_ rfl ?_
 rotate_left
 ·go_simp
  try with_reducible rfl
 simp only [nz]
 refine pl_t 60 (?_) (by rfl) ?_ rfl ?_
 rotate_left
 ·go_simp
  try with_reducible rfl
 simp only [nz]
 refine pl_t 61 (?_) (by rfl) ?_ rfl ?_
 rotate_left
 ·go_simp
  try with_reducible rfl
 simp only [nz]
 refine pl_t 62 (.pointer (some ⟨R, 0, none⟩)) (by rfl) (pl_one rfl rfl V_3.rs.mr.c0 Tryz.underlying98 rfl) rfl ?_
 simp only [nz]
 refine pl_t 63 (?_) (by rfl) ?_ rfl ?_
 rotate_left
 ·go_simp
  try with_reducible rfl
 simp only [nz]
 refine pl_t 64 (?_) (by rfl) ?_ rfl ?_
 rotate_left
 ·go_simp
  try with_reducible rfl
 simp only [nz]
 refine pl_t 65 (?_) (by rfl) ?_ rfl ?_
 rotate_left
 ·go_simp
  try with_reducible rfl
 simp only [nz]
 refine pl_call (d := some 66) (by rfl) (by go_simp; first | done | exact ⟨rfl, rfl⟩ | with_reducible rfl) rfl ?_
 refine (c_d w_20 V_3.rs).mono ?_
 rintro _ wd ⟨x, rfl, hx, hA, hB, Sd, kd⟩
 refine ⟨_, rfl, ?_⟩
 simp only [nz]
 refine pl_t 67 (?_) (by rfl) ?_ rfl ?_
 rotate_left
 ·go_simp
  try with_reducible rfl
 simp only [nz]
 have Vd := V_3.on kd Sd
 have Ve := Vd.set 47 [x.val] (put_ne x.val Vt.zero_ok Vd.row (Vd.part 47 1 (by decide)))
 have lb := V_3.lb
 have la := V_3.la
 have na := V_3.kept.size
 refine pl_store (w' := wd.setCells w2.heap.size 47 [x.val]) (by rfl) (ex_put1 (n := 119) rfl rfl rfl Vd.box (by decide) iszEvs rfl rfl) rfl ?_
 refine pl_nil ?_
 have hA1 := hA.put (B := w2.heap.size) (o := 47) (vs := [x.val]) hB (fun b hb => by omega)
 obtain ⟨we, hwe⟩ : ∃ W, wd.setCells w2.heap.size 47 [x.val] = W := ⟨_, rfl⟩
 rw [hwe] at Ve hA1 ⊢
 clear hwe
 clear Vd Sd kd V_3 hA
 have rpc := Ve.row
 have hmo : Mg.ok ⟨4, v_a, v_b, v_c, 0, false, ⟨none, 0, []⟩, Vt.zero, 0, 0, 0, ⟨none, 0, []⟩, x, zeros32, Vt.zero, ⟨none, 0, []⟩, ⟨#[]⟩, ⟨none, 0, []⟩⟩ := ⟨Vt.zero_ok, Vt.zero_ok, zeros32_len, zeros32_byte⟩
 have hpl : (Mg.ms ⟨4, v_a, v_b, v_c, 0, false, ⟨none, 0, []⟩, Vt.zero, 0, 0, 0, ⟨none, 0, []⟩, x, zeros32, Vt.zero, ⟨none, 0, []⟩, ⟨#[]⟩, ⟨none, 0, []⟩⟩).cells.length = 119 := hmo.ms.len
 have hp1 := hmo.ms.one
 have hip : (Tryz.prog.info? 52).map (·.size) = some (Mg.ms ⟨4, v_a, v_b, v_c, 0, false, ⟨none, 0, []⟩, Vt.zero, 0, 0, 0, ⟨none, 0, []⟩, x, zeros32, Vt.zero, ⟨none, 0, []⟩, ⟨#[]⟩, ⟨none, 0, []⟩⟩).cells.length := by rw [hpl]; exact iszM
 have rpc : we.rangeAt w2.heap.size 0 (Mg.ms ⟨4, v_a, v_b, v_c, 0, false, ⟨none, 0, []⟩, Vt.zero, 0, 0, 0, ⟨none, 0, []⟩, x, zeros32, Vt.zero, ⟨none, 0, []⟩, ⟨#[]⟩, ⟨none, 0, []⟩⟩).cells := rpc
 obtain ⟨pc, hpc⟩ : ∃ p, Hid ((Mg.ms ⟨4, v_a, v_b, v_c, 0, false, ⟨none, 0, []⟩, Vt.zero, 0, 0, 0, ⟨none, 0, []⟩, x, zeros32, Vt.zero, ⟨none, 0, []⟩, ⟨#[]⟩, ⟨none, 0, []⟩⟩).cells = p) := ⟨_, hide rfl⟩
 simp only [hpc.out] at hpl hip hp1 rpc
 go_upto_region 22 with fail
 try simp only [Act.put]
 refine pl_begin ?_
 refine pl_t 121 (.agg pc.toArray) (by rfl) (ex_mid rfl rfl rpc Tryz.underlying52 rfl hip) rfl ?_
 simp only [nz]
 refine pl_store (w' := we.setCells w.heap.size 0 pc) (by rfl) (ex_put (cs := pc.toArray) rfl rfl rfl (by simpa [hpl] using Ve.ans) (by simpa using hip) (all_one hp1)) rfl ?_
 refine pl_nil ?_
 have hlow : Below w.heap.size we (we.setCells w.heap.size 0 pc) := below_sets (Nat.le_refl _) pc 0 _ (Below.refl _ we)
 have hrs := run_loadVar_mid (P := Tryz.prog) (we.setCells w.heap.size 0 pc) w.heap.size 0 52 pc _ (World.rangeAt_setCells_same we w.heap.size 0 pc (by rw [hpl]; exact Ve.ans)) Tryz.underlying52 rfl hip
 have HF : Hid (∃ m : Mg, Ending.returned (.agg pc.toArray) = .returned (.agg m.ms.cells.toArray) ∧ m.pure = (⟨4, v_a, v_b, v_c, 0, false, [], Vt.zero, 0, 0, 0, [], v_d, zeros32, Vt.zero, [], ⟨#[]⟩, []⟩ : Mp) ∧ m.ok ∧ m.At (we.setCells w.heap.size 0 pc) ∧ m.Bk (fun b => w.heap.size ≤ b) ∧ RS (we.setCells w.heap.size 0 pc) Q R s_d ∧ Kept w R Q (we.setCells w.heap.size 0 pc)) := hide ⟨⟨4, v_a, v_b, v_c, 0, false, ⟨none, 0, []⟩, Vt.zero, 0, 0, 0, ⟨none, 0, []⟩, x, zeros32, Vt.zero, ⟨none, 0, []⟩, ⟨#[]⟩, ⟨none, 0, []⟩⟩, by rw [hpc.out], by rw [← hx]; rfl, hmo, mg0_at RowsAt.none hds_none (hA1.put hB (fun b hb => by omega)) RowsAt.none RowsAt.none, ⟨no_bk, no_bk, no_bk2, hB.mono (fun b hb => by omega), no_bk, no_bk⟩, Ve.rs.low hlow hQw, Ve.kept.low hlow (Nat.le_refl _)⟩
 clear Ve hlow rpc hpc hmo hA1 hB hx
 go_wp2_with fail
 refine bodyPost_ret (v := .agg pc.toArray) ?_ rfl ?_
 ·simp [results, Tryz.results66, Act.put, asAddr, hrs]
 ·exact HF.out
set_option maxRecDepth 100000 in
set_option maxHeartbeats 1000000 in
theorem rmsgK5 (Q R : Nat) (s : Rst) (w : World) (h : RS w Q R s) (hl : s.1.length ≤ 40000) (hk : (kiS 8 s).1 = 5) : Calls Tryz.prog 66 #[.pointer (some ⟨Q, 0, none⟩)] w fun en w' => ∃ m : Mg, en = .returned (.agg m.ms.cells.toArray) ∧ m.pure = (mg5 (kiS 8 s).2).1 ∧ m.ok ∧ m.At w' ∧ m.Bk (fun b => w.heap.size ≤ b) ∧ RS w' Q R (mg5 (kiS 8 s).2).2 ∧ Kept w R Q w' := by
 have hRw := h.st.1.1
 have hQw := h.mr.lt
 have ck := fun w0 h0 => kindRS Q R 8 s w0 h0
 have l0 := kiS_len 8 s
 unfold mg5
 generalize kiS 8 s = p_ at ck l0 hk ⊢
 obtain ⟨k, s0⟩ := p_
 simp only at ck l0 hk ⊢
 subst hk
 have c_a := fun w0 h0 => numRS Q R 1048576 s0 w0 h0
 have l_a : (nuS 1048576 s0).2.1.length ≤ s0.1.length := nuS_len _ _
 generalize nuS 1048576 s0 = p_ at c_a l_a ⊢
 obtain ⟨v_a, s_a⟩ := p_
 simp only at c_a l_a ⊢
 have c_b := fun w0 h0 => digRS Q R s_a w0 h0 (by omega)
 have l_b : (dgS s_a).2.1.length ≤ s_a.1.length := dgS_len _
 have ok_b := fun hb => dgS_ok s_a hb
 generalize dgS s_a = p_ at c_b l_b ok_b ⊢
 obtain ⟨v_b, s_b⟩ := p_
 simp only at c_b l_b ok_b ⊢
 obtain ⟨zc, hzl, hzr⟩ : ∃ z : List Value, z.length = 119 ∧ ∀ w : World, (zeroValue 52).run Tryz.prog w = .ok (.agg z.toArray) w := ⟨_, (Ms.plain_ok 0 0 0 Vt.zero_ok zeros32_len zeros32_byte).len, zeroM⟩
 have hbk := build_kind 5
 have hql := (ms0_ok 5).len
 have hq1 := (ms0_ok 5).one
 have hiq : (Tryz.prog.info? 52).map (·.size) = some (Ms.plain 5 0 0 Vt.zero zeros32).cells.length := by rw [hql]; exact iszM
 have hk0 : ∀ (w' : World) b, w'.rangeAt b 0 (Ms.plain 5 0 0 Vt.zero zeros32).cells → w'.cell? ⟨b, 0, none⟩ = some (.int .i64 5) := fun w' b h => ((ms0_ok 5).at h).k
 obtain ⟨qk, hqk⟩ : ∃ q, Hid ((Ms.plain 5 0 0 Vt.zero zeros32).cells = q) := ⟨_, hide rfl⟩
 simp only [hqk.out] at hbk hql hq1 hiq hk0
 obtain ⟨hB1, hr1, hs1⟩ := boxed_new w zc 52
 have ht1 := there_newN w zc.toArray 52 (n := 119) (by simp [hzl])
 go_enter Tryz.func66, Tryz.ntmps66
 go_upto_region 0 with fail
 try simp only [Act.put]
 refine pl_begin ?_
 refine pl_run (d := some 2) (v := .pointer (some ⟨w.heap.size, 0, none⟩)) (w' := w.alloc (.cells zc.toArray 52)) (by rfl) (ex_alloc rfl (hzr _)) rfl ?_
 simp only [nz]
 refine pl_nil ?_
 obtain ⟨W1, hW1⟩ : ∃ W, w.alloc (.cells zc.toArray 52) = W := ⟨_, rfl⟩
 rw [hW1] at hB1 hr1 hs1 ht1 ⊢
 clear hW1 hr1
 have S1 := h.below hB1
 go_upto_region 1 with fail
 try simp only [Act.put]
 refine pl_begin ?_
 refine pl_t 4 (?_) (by rfl) ?_ rfl ?_
 rotate_left
 ·go_simp
  try with_reducible rfl
 simp only [nz]
 refine pl_call (d := some 5) (by rfl) (by go_simp; first | done | exact ⟨rfl, rfl⟩ | with_reducible rfl) rfl ?_
 refine (ck W1 S1).mono ?_
 rintro _ w2 ⟨rfl, S2, k2⟩
 refine ⟨_, rfl, ?_⟩
 simp only [nz]
 refine pl_t 6 (.agg qk.toArray) (by rfl) (ex_build (parts := [(0, .tmp 5)]) rfl rfl (hbk _)) rfl ?_
 simp only [nz]
 refine pl_run (d := some 3) (v := .pointer (some ⟨w2.heap.size, 0, none⟩)) (w' := w2.alloc (.cells zc.toArray 52)) (by rfl) (ex_alloc rfl (hzr _)) rfl ?_
 simp only [nz]
 refine pl_store (w' := (w2.alloc (.cells zc.toArray 52)).setCells w2.heap.size 0 qk) (by rfl) (ex_put (cs := qk.toArray) rfl rfl rfl (there_newN _ _ _ (by simp [hzl, hql])) (by simpa using hiq) (all_one hq1)) rfl ?_
 refine pl_nil ?_
 obtain ⟨hF1, hF2, hF3, -⟩ := fresh_store w2 zc.toArray 52 qk (by simp [hzl, hql])
 have hF4 := World.there_setCells (there_newN w2 zc.toArray 52 (n := 119) (by simp [hzl])) w2.heap.size 0 qk
 obtain ⟨w3, hw3⟩ : ∃ W, (w2.alloc (.cells zc.toArray 52)).setCells w2.heap.size 0 qk = W := ⟨_, rfl⟩
 rw [hw3] at hF1 hF2 hF3 hF4 ⊢
 clear hw3
 have hc0 := hk0 _ _ hF1
 have k3 : Kept w R Q w3 := (((Kept.refl w R Q).below hB1).trans k2).below hF2
 have z2 := k2.size
 rw [← hqk.out] at hF1
 have V3 : MV w Q R w.heap.size w2.heap.size 119 (Ms.plain 5 0 0 Vt.zero zeros32).cells s0 w3 := ⟨hF1, hF4, there_below (there_blk ht1 (k2.block _ hs1 (by omega) (by omega))) hF2 (by omega), k3, S2.below hF2, by have := hF2.size; omega, by omega, Nat.le_refl _, by have := hB1.size; omega, by omega, hRw, hQw⟩
 have hww : w.heap.size < w2.heap.size := by omega
 clear hF1 hF2 hF4 ht1 hB1 S1 S2 k2 k3 hk0 hbk hql hq1 hiq hqk h ck hzr hzl
 go_upto_region 2 with fail
 try simp only [Act.put]
 refine pl_begin ?_
 refine pl_t 7 (?_) (by rfl) ?_ rfl ?_
 rotate_left
 ·go_simp
  try with_reducible rfl
 simp only [nz]
 refine pl_t 8 (.int .i64 5) (by rfl) (pl_one rfl rfl hc0 Tryz.underlying3 rfl) rfl ?_
 simp only [nz]
 refine pl_nil ?_
 clear hc0
 go_upto_region 14 with fail
 try simp only [Act.put]
 refine pl_begin ?_
 refine pl_t 70 (?_) (by rfl) ?_ rfl ?_
 rotate_left
 ·go_simp
  try with_reducible rfl
 simp only [nz]
 refine pl_t 71 (?_) (by rfl) ?_ rfl ?_
 rotate_left
 ·go_simp
  try with_reducible rfl
 simp only [nz]
 refine pl_t 72 (?_) (by rfl) ?_ rfl ?_
 rotate_left
 ·go_simp
  try with_reducible rfl
 simp only [nz]
 refine pl_t 73 (.pointer (some ⟨R, 0, none⟩)) (by rfl) (pl_one rfl rfl V3.rs.mr.c0 Tryz.underlying98 rfl) rfl ?_
 simp only [nz]
 refine pl_call (d := some 74) (by rfl) (by go_simp; first | done | exact ⟨rfl, rfl⟩ | with_reducible rfl) rfl ?_
 refine (c_a w3 V3.rs).mono ?_
 rintro _ w5 ⟨rfl, S5, k5⟩
 refine ⟨_, rfl, ?_⟩
 simp only [nz]
 refine pl_t 75 (?_) (by rfl) ?_ rfl ?_
 rotate_left
 ·go_simp
  try with_reducible rfl
 simp only [nz]
 refine pl_call (d := some 76) (by rfl) (by go_simp; first | done | exact ⟨rfl, rfl⟩ | with_reducible rfl) rfl ?_
 refine (c_b w5 S5).mono ?_
 rintro _ w6 ⟨rfl, S6, k6⟩
 refine ⟨_, rfl, ?_⟩
 simp only [nz]
 refine pl_t 77 (?_) (by rfl) ?_ rfl ?_
 rotate_left
 ·go_simp
  try with_reducible rfl
 simp only [nz]
 have hd := ok_b S5.st.bs
 have V6 := (V3.on k5 S5).on k6 S6
 have Va := V6.set 1 [.int .i64 v_a] (put_e v_a V6.row (V6.part 1 1 (by decide)))
 refine pl_store (w' := w6.setCells w2.heap.size 1 [.int .i64 v_a]) (by rfl) (ex_put1 (n := 119) rfl rfl rfl V6.box (by decide) iszI rfl rfl) rfl ?_
 obtain ⟨wd, hwd⟩ : ∃ W, w6.setCells w2.heap.size 1 [.int .i64 v_a] = W := ⟨_, rfl⟩
 rw [hwd] at Va ⊢
 clear hwd
 refine pl_t 78 (?_) (by rfl) ?_ rfl ?_
 rotate_left
 ·go_simp
  try with_reducible rfl
 simp only [nz]
 have Ve := Va.set 48 (v8 v_b) (put_d v_b hd.1 zeros32_len Vt.zero_ok Va.row (Va.part 48 32 (by decide)))
 have hdl : (v8 v_b).length = 32 := by rw [v8_length]; exact hd.1
 refine pl_store (w' := wd.setCells w2.heap.size 48 (v8 v_b)) (by rfl) (ex_put (cs := (v8 v_b).toArray) rfl rfl rfl (by simpa [hdl] using Va.part 48 32 (by decide)) (by simpa [hdl] using iszD) (all_one (v8_one v_b))) rfl ?_
 refine pl_nil ?_
 obtain ⟨we, hwe⟩ : ∃ W, wd.setCells w2.heap.size 48 (v8 v_b) = W := ⟨_, rfl⟩
 rw [hwe] at Ve ⊢
 clear hwe
 clear Va V6 V3 S5 S6 k5 k6
 have rpc := Ve.row
 have hmo : Mg.ok ⟨5, v_a, 0, 0, 0, false, ⟨none, 0, []⟩, Vt.zero, 0, 0, 0, ⟨none, 0, []⟩, ⟨none, 0, []⟩, v_b, Vt.zero, ⟨none, 0, []⟩, ⟨#[]⟩, ⟨none, 0, []⟩⟩ := ⟨Vt.zero_ok, Vt.zero_ok, hd.1, hd.2⟩
 have hpl : (Mg.ms ⟨5, v_a, 0, 0, 0, false, ⟨none, 0, []⟩, Vt.zero, 0, 0, 0, ⟨none, 0, []⟩, ⟨none, 0, []⟩, v_b, Vt.zero, ⟨none, 0, []⟩, ⟨#[]⟩, ⟨none, 0, []⟩⟩).cells.length = 119 := hmo.ms.len
 have hp1 := hmo.ms.one
 have hip : (Tryz.prog.info? 52).map (·.size) = some (Mg.ms ⟨5, v_a, 0, 0, 0, false, ⟨none, 0, []⟩, Vt.zero, 0, 0, 0, ⟨none, 0, []⟩, ⟨none, 0, []⟩, v_b, Vt.zero, ⟨none, 0, []⟩, ⟨#[]⟩, ⟨none, 0, []⟩⟩).cells.length := by rw [hpl]; exact iszM
 have rpc : we.rangeAt w2.heap.size 0 (Mg.ms ⟨5, v_a, 0, 0, 0, false, ⟨none, 0, []⟩, Vt.zero, 0, 0, 0, ⟨none, 0, []⟩, ⟨none, 0, []⟩, v_b, Vt.zero, ⟨none, 0, []⟩, ⟨#[]⟩, ⟨none, 0, []⟩⟩).cells := rpc
 obtain ⟨pc, hpc⟩ : ∃ p, Hid ((Mg.ms ⟨5, v_a, 0, 0, 0, false, ⟨none, 0, []⟩, Vt.zero, 0, 0, 0, ⟨none, 0, []⟩, ⟨none, 0, []⟩, v_b, Vt.zero, ⟨none, 0, []⟩, ⟨#[]⟩, ⟨none, 0, []⟩⟩).cells = p) := ⟨_, hide rfl⟩
 simp only [hpc.out] at hpl hip hp1 rpc
 go_upto_region 22 with fail
 try simp only [Act.put]
 refine pl_begin ?_
 refine pl_t 121 (.agg pc.toArray) (by rfl) (ex_mid rfl rfl rpc Tryz.underlying52 rfl hip) rfl ?_
 simp only [nz]
 refine pl_store (w' := we.setCells w.heap.size 0 pc) (by rfl) (ex_put (cs := pc.toArray) rfl rfl rfl (by simpa [hpl] using Ve.ans) (by simpa using hip) (all_one hp1)) rfl ?_
 refine pl_nil ?_
 have hlow : Below w.heap.size we (we.setCells w.heap.size 0 pc) := below_sets (Nat.le_refl _) pc 0 _ (Below.refl _ we)
 have hrs := run_loadVar_mid (P := Tryz.prog) (we.setCells w.heap.size 0 pc) w.heap.size 0 52 pc _ (World.rangeAt_setCells_same we w.heap.size 0 pc (by rw [hpl]; exact Ve.ans)) Tryz.underlying52 rfl hip
 have HF : Hid (∃ m : Mg, Ending.returned (.agg pc.toArray) = .returned (.agg m.ms.cells.toArray) ∧ m.pure = (⟨5, v_a, 0, 0, 0, false, [], Vt.zero, 0, 0, 0, [], [], v_b, Vt.zero, [], ⟨#[]⟩, []⟩ : Mp) ∧ m.ok ∧ m.At (we.setCells w.heap.size 0 pc) ∧ m.Bk (fun b => w.heap.size ≤ b) ∧ RS (we.setCells w.heap.size 0 pc) Q R s_b ∧ Kept w R Q (we.setCells w.heap.size 0 pc)) := hide ⟨⟨5, v_a, 0, 0, 0, false, ⟨none, 0, []⟩, Vt.zero, 0, 0, 0, ⟨none, 0, []⟩, ⟨none, 0, []⟩, v_b, Vt.zero, ⟨none, 0, []⟩, ⟨#[]⟩, ⟨none, 0, []⟩⟩, by rw [hpc.out], rfl, hmo, mg0_at RowsAt.none hds_none RowsAt.none RowsAt.none RowsAt.none, ⟨no_bk, no_bk, no_bk2, no_bk, no_bk, no_bk⟩, Ve.rs.low hlow hQw, Ve.kept.low hlow (Nat.le_refl _)⟩
 clear Ve hlow rpc hpc hmo 
 go_wp2_with fail
 refine bodyPost_ret (v := .agg pc.toArray) ?_ rfl ?_
 ·simp [results, Tryz.results66, Act.put, asAddr, hrs]
 ·exact HF.out
set_option maxRecDepth 100000 in
set_option maxHeartbeats 1000000 in
theorem rmsgK6 (Q R : Nat) (s : Rst) (w : World) (h : RS w Q R s) (hl : s.1.length ≤ 40000) (hk : (kiS 8 s).1 = 6) : Calls Tryz.prog 66 #[.pointer (some ⟨Q, 0, none⟩)] w fun en w' => ∃ m : Mg, en = .returned (.agg m.ms.cells.toArray) ∧ m.pure = (mg6 (kiS 8 s).2).1 ∧ m.ok ∧ m.At w' ∧ m.Bk (fun b => w.heap.size ≤ b) ∧ RS w' Q R (mg6 (kiS 8 s).2).2 ∧ Kept w R Q w' := by
 have hRw := h.st.1.1
 have hQw := h.mr.lt
 have ck := fun w0 h0 => kindRS Q R 8 s w0 h0
 have l0 := kiS_len 8 s
 unfold mg6
 generalize kiS 8 s = p_ at ck l0 hk ⊢
 obtain ⟨k, s0⟩ := p_
 simp only at ck l0 hk ⊢
 subst hk
 have c_a := fun w0 h0 => numRS Q R 1048576 s0 w0 h0
 have l_a : (nuS 1048576 s0).2.1.length ≤ s0.1.length := nuS_len _ _
 generalize nuS 1048576 s0 = p_ at c_a l_a ⊢
 obtain ⟨v_a, s_a⟩ := p_
 simp only at c_a l_a ⊢
 have c_b := fun w0 h0 => numRS Q R 1099511627776 s_a w0 h0
 have l_b : (nuS 1099511627776 s_a).2.1.length ≤ s_a.1.length := nuS_len _ _
 generalize nuS 1099511627776 s_a = p_ at c_b l_b ⊢
 obtain ⟨v_b, s_b⟩ := p_
 simp only at c_b l_b ⊢
 obtain ⟨zc, hzl, hzr⟩ : ∃ z : List Value, z.length = 119 ∧ ∀ w : World, (zeroValue 52).run Tryz.prog w = .ok (.agg z.toArray) w := ⟨_, (Ms.plain_ok 0 0 0 Vt.zero_ok zeros32_len zeros32_byte).len, zeroM⟩
 have hbk := build_kind 6
 have hql := (ms0_ok 6).len
 have hq1 := (ms0_ok 6).one
 have hiq : (Tryz.prog.info? 52).map (·.size) = some (Ms.plain 6 0 0 Vt.zero zeros32).cells.length := by rw [hql]; exact iszM
 have hk0 : ∀ (w' : World) b, w'.rangeAt b 0 (Ms.plain 6 0 0 Vt.zero zeros32).cells → w'.cell? ⟨b, 0, none⟩ = some (.int .i64 6) := fun w' b h => ((ms0_ok 6).at h).k
 obtain ⟨qk, hqk⟩ : ∃ q, Hid ((Ms.plain 6 0 0 Vt.zero zeros32).cells = q) := ⟨_, hide rfl⟩
 simp only [hqk.out] at hbk hql hq1 hiq hk0
 obtain ⟨hB1, hr1, hs1⟩ := boxed_new w zc 52
 have ht1 := there_newN w zc.toArray 52 (n := 119) (by simp [hzl])
 go_enter Tryz.func66, Tryz.ntmps66
 go_upto_region 0 with fail
 try simp only [Act.put]
 refine pl_begin ?_
 refine pl_run (d := some 2) (v := .pointer (some ⟨w.heap.size, 0, none⟩)) (w' := w.alloc (.cells zc.toArray 52)) (by rfl) (ex_alloc rfl (hzr _)) rfl ?_
 simp only [nz]
 refine pl_nil ?_
 obtain ⟨W1, hW1⟩ : ∃ W, w.alloc (.cells zc.toArray 52) = W := ⟨_, rfl⟩
 rw [hW1] at hB1 hr1 hs1 ht1 ⊢
 clear hW1 hr1
 have S1 := h.below hB1
 go_upto_region 1 with fail
 try simp only [Act.put]
 refine pl_begin ?_
 refine pl_t 4 (?_) (by rfl) ?_ rfl ?_
 rotate_left
 ·go_simp
  try with_reducible rfl
 simp only [nz]
 refine pl_call (d := some 5) (by rfl) (by go_simp; first | done | exact ⟨rfl, rfl⟩ | with_reducible rfl) rfl ?_
 refine (ck W1 S1).mono ?_
 rintro _ w2 ⟨rfl, S2, k2⟩
 refine ⟨_, rfl, ?_⟩
 simp only [nz]
 refine pl_t 6 (.agg qk.toArray) (by rfl) (ex_build (parts := [(0, .tmp 5)]) rfl rfl (hbk _)) rfl ?_
 simp only [nz]
 refine pl_run (d := some 3) (v := .pointer (some ⟨w2.heap.size, 0, none⟩)) (w' := w2.alloc (.cells zc.toArray 52)) (by rfl) (ex_alloc rfl (hzr _)) rfl ?_
 simp only [nz]
 refine pl_store (w' := (w2.alloc (.cells zc.toArray 52)).setCells w2.heap.size 0 qk) (by rfl) (ex_put (cs := qk.toArray) rfl rfl rfl (there_newN _ _ _ (by simp [hzl, hql])) (by simpa using hiq) (all_one hq1)) rfl ?_
 refine pl_nil ?_
 obtain ⟨hF1, hF2, hF3, -⟩ := fresh_store w2 zc.toArray 52 qk (by simp [hzl, hql])
 have hF4 := World.there_setCells (there_newN w2 zc.toArray 52 (n := 119) (by simp [hzl])) w2.heap.size 0 qk
 obtain ⟨w3, hw3⟩ : ∃ W, (w2.alloc (.cells zc.toArray 52)).setCells w2.heap.size 0 qk = W := ⟨_, rfl⟩
 rw [hw3] at hF1 hF2 hF3 hF4 ⊢
 clear hw3
 have hc0 := hk0 _ _ hF1
 have k3 : Kept w R Q w3 := (((Kept.refl w R Q).below hB1).trans k2).below hF2
 have z2 := k2.size
 rw [← hqk.out] at hF1
 have V3 : MV w Q R w.heap.size w2.heap.size 119 (Ms.plain 6 0 0 Vt.zero zeros32).cells s0 w3 := ⟨hF1, hF4, there_below (there_blk ht1 (k2.block _ hs1 (by omega) (by omega))) hF2 (by omega), k3, S2.below hF2, by have := hF2.size; omega, by omega, Nat.le_refl _, by have := hB1.size; omega, by omega, hRw, hQw⟩
 have hww : w.heap.size < w2.heap.size := by omega
 clear hF1 hF2 hF4 ht1 hB1 S1 S2 k2 k3 hk0 hbk hql hq1 hiq hqk h ck hzr hzl
 go_upto_region 2 with fail
 try simp only [Act.put]
 refine pl_begin ?_
 refine pl_t 7 (?_) (by rfl) ?_ rfl ?_
 rotate_left
 ·go_simp
  try with_reducible rfl
 simp only [nz]
 refine pl_t 8 (.int .i64 6) (by rfl) (pl_one rfl rfl hc0 Tryz.underlying3 rfl) rfl ?_
 simp only [nz]
 refine pl_nil ?_
 clear hc0
 go_upto_region 16 with fail
 have V8 := V3.drew
 refine hs_begin (S := (fun W' => W'.cell? ⟨Q, 0, none⟩ = some (.pointer (some ⟨R, 0, none⟩)))) 14 rfl (by kernel_rfl) ?_
 obtain ⟨w8, hw8⟩ : ∃ W, w3.drew = W := ⟨_, rfl⟩
 rw [hw8] at V8 ⊢
 clear hw8 V3
 have hS : (fun W' => W'.cell? ⟨Q, 0, none⟩ = some (.pointer (some ⟨R, 0, none⟩))) w8 := V8.rs.mr.c0
 refine hs_t 0 81 (?_) rfl (by kernel_rfl) (by kernel_rfl) (by kernel_rfl) (by rfl) ?_ hS rfl ?_
 rotate_left
 ·intro w' hw
  go_simp
  try with_reducible rfl
 simp only [nz]
 refine hs_t 1 82 (?_) rfl (by kernel_rfl) (by kernel_rfl) (by kernel_rfl) (by rfl) ?_ hS rfl ?_
 rotate_left
 ·intro w' hw
  go_simp
  try with_reducible rfl
 simp only [nz]
 refine hs_t 2 83 (?_) rfl (by kernel_rfl) (by kernel_rfl) (by kernel_rfl) (by rfl) ?_ hS rfl ?_
 rotate_left
 ·intro w' hw
  go_simp
  try with_reducible rfl
 simp only [nz]
 refine hs_t 3 84 (.pointer (some ⟨R, 0, none⟩)) rfl (by kernel_rfl) (by kernel_rfl) (by kernel_rfl) (by rfl) (fun w' hw => pl_one rfl rfl hw Tryz.underlying98 rfl) hS rfl ?_
 simp only [nz]
 refine hs_t 5 86 (?_) rfl (by kernel_rfl) (by kernel_rfl) (by kernel_rfl) (by rfl) ?_ hS rfl ?_
 rotate_left
 ·intro w' hw
  go_simp
  try with_reducible rfl
 simp only [nz]
 refine hs_t 6 87 (?_) rfl (by kernel_rfl) (by kernel_rfl) (by kernel_rfl) (by rfl) ?_ hS rfl ?_
 rotate_left
 ·intro w' hw
  go_simp
  try with_reducible rfl
 simp only [nz]
 refine hs_t 7 88 (?_) rfl (by kernel_rfl) (by kernel_rfl) (by kernel_rfl) (by rfl) ?_ hS rfl ?_
 rotate_left
 ·intro w' hw
  go_simp
  try with_reducible rfl
 simp only [nz]
 refine hs_t 8 89 (.pointer (some ⟨R, 0, none⟩)) rfl (by kernel_rfl) (by kernel_rfl) (by kernel_rfl) (by rfl) (fun w' hw => pl_one rfl rfl hw Tryz.underlying98 rfl) hS rfl ?_
 simp only [nz]
 refine hs_call (i := 4) (d := some 85) rfl (by kernel_rfl) (by rfl) (by go_simp; first | done | exact ⟨rfl, rfl⟩ | with_reducible rfl) rfl ?_
 refine (c_a w8 V8.rs).mono ?_
 rintro _ w5 ⟨rfl, S5, k5⟩
 have hS : (fun W' => W'.cell? ⟨Q, 0, none⟩ = some (.pointer (some ⟨R, 0, none⟩))) w5 := S5.mr.c0
 refine ⟨_, rfl, hS, ?_⟩
 simp only [nz]
 refine hs_t 10 91 (?_) rfl (by kernel_rfl) (by kernel_rfl) (by kernel_rfl) (by rfl) ?_ hS rfl ?_
 rotate_left
 ·intro w' hw
  go_simp
  try with_reducible rfl
 simp only [nz]
 refine hs_call (i := 9) (d := some 90) rfl (by kernel_rfl) (by rfl) (by go_simp; first | done | exact ⟨rfl, rfl⟩ | with_reducible rfl) rfl ?_
 refine (c_b w5 S5).mono ?_
 rintro _ w6 ⟨rfl, S6, k6⟩
 have hS : (fun W' => W'.cell? ⟨Q, 0, none⟩ = some (.pointer (some ⟨R, 0, none⟩))) w6 := S6.mr.c0
 refine ⟨_, rfl, hS, ?_⟩
 simp only [nz]
 have V_0 := ((V8.on k5 S5).on k6 S6)
 have V_1 := V_0.set 1 [.int .i64 v_a] (put_e v_a V_0.row (V_0.part 1 1 (by decide)))
 refine hs_store (i := 11) (w' := w6.setCells w2.heap.size 1 [.int .i64 v_a]) rfl (by kernel_rfl) (by rfl) (ex_put1 (n := 119) rfl rfl rfl V_0.box (by decide) iszI rfl rfl) rfl V_1.rs.mr.c0 ?_
 obtain ⟨w_11, hw_11⟩ : ∃ W, w6.setCells w2.heap.size 1 [.int .i64 v_a] = W := ⟨_, rfl⟩
 rw [hw_11] at V_1 ⊢
 clear hw_11
 have hS : (fun W' => W'.cell? ⟨Q, 0, none⟩ = some (.pointer (some ⟨R, 0, none⟩))) w_11 := V_1.rs.mr.c0
 refine hs_t 12 92 (?_) rfl (by kernel_rfl) (by kernel_rfl) (by kernel_rfl) (by rfl) ?_ hS rfl ?_
 rotate_left
 ·intro w' hw
  go_simp
  try with_reducible rfl
 simp only [nz]
 have V_2 := V_1.set 4 [.int .i64 v_b] (put_s v_b V_1.row (V_1.part 4 1 (by decide)))
 refine hs_store (i := 13) (w' := w_11.setCells w2.heap.size 4 [.int .i64 v_b]) rfl (by kernel_rfl) (by rfl) (ex_put1 (n := 119) rfl rfl rfl V_1.box (by decide) iszI rfl rfl) rfl V_2.rs.mr.c0 ?_
 obtain ⟨w_13, hw_13⟩ : ∃ W, w_11.setCells w2.heap.size 4 [.int .i64 v_b] = W := ⟨_, rfl⟩
 rw [hw_13] at V_2 ⊢
 clear hw_13
 have hS : (fun W' => W'.cell? ⟨Q, 0, none⟩ = some (.pointer (some ⟨R, 0, none⟩))) w_13 := V_2.rs.mr.c0
 refine hs_done (by kernel_rfl) ?_
 clear hS V8 S5 k5 S6 k6 V_0 V_1 c_a c_b
 have Ve := V_2
 have rpc := Ve.row
 have hmo : Mg.ok ⟨6, v_a, 0, 0, v_b, false, ⟨none, 0, []⟩, Vt.zero, 0, 0, 0, ⟨none, 0, []⟩, ⟨none, 0, []⟩, zeros32, Vt.zero, ⟨none, 0, []⟩, ⟨#[]⟩, ⟨none, 0, []⟩⟩ := ⟨Vt.zero_ok, Vt.zero_ok, zeros32_len, zeros32_byte⟩
 have hpl : (Mg.ms ⟨6, v_a, 0, 0, v_b, false, ⟨none, 0, []⟩, Vt.zero, 0, 0, 0, ⟨none, 0, []⟩, ⟨none, 0, []⟩, zeros32, Vt.zero, ⟨none, 0, []⟩, ⟨#[]⟩, ⟨none, 0, []⟩⟩).cells.length = 119 := hmo.ms.len
 have hp1 := hmo.ms.one
 have hip : (Tryz.prog.info? 52).map (·.size) = some (Mg.ms ⟨6, v_a, 0, 0, v_b, false, ⟨none, 0, []⟩, Vt.zero, 0, 0, 0, ⟨none, 0, []⟩, ⟨none, 0, []⟩, zeros32, Vt.zero, ⟨none, 0, []⟩, ⟨#[]⟩, ⟨none, 0, []⟩⟩).cells.length := by rw [hpl]; exact iszM
 have rpc : w_13.rangeAt w2.heap.size 0 (Mg.ms ⟨6, v_a, 0, 0, v_b, false, ⟨none, 0, []⟩, Vt.zero, 0, 0, 0, ⟨none, 0, []⟩, ⟨none, 0, []⟩, zeros32, Vt.zero, ⟨none, 0, []⟩, ⟨#[]⟩, ⟨none, 0, []⟩⟩).cells := rpc
 obtain ⟨pc, hpc⟩ : ∃ p, Hid ((Mg.ms ⟨6, v_a, 0, 0, v_b, false, ⟨none, 0, []⟩, Vt.zero, 0, 0, 0, ⟨none, 0, []⟩, ⟨none, 0, []⟩, zeros32, Vt.zero, ⟨none, 0, []⟩, ⟨#[]⟩, ⟨none, 0, []⟩⟩).cells = p) := ⟨_, hide rfl⟩
 simp only [hpc.out] at hpl hip hp1 rpc
 go_upto_region 22 with fail
 try simp only [Act.put]
 refine pl_begin ?_
 refine pl_t 121 (.agg pc.toArray) (by rfl) (ex_mid rfl rfl rpc Tryz.underlying52 rfl hip) rfl ?_
 simp only [nz]
 refine pl_store (w' := w_13.setCells w.heap.size 0 pc) (by rfl) (ex_put (cs := pc.toArray) rfl rfl rfl (by simpa [hpl] using Ve.ans) (by simpa using hip) (all_one hp1)) rfl ?_
 refine pl_nil ?_
 have hlow : Below w.heap.size w_13 (w_13.setCells w.heap.size 0 pc) := below_sets (Nat.le_refl _) pc 0 _ (Below.refl _ w_13)
 have hrs := run_loadVar_mid (P := Tryz.prog) (w_13.setCells w.heap.size 0 pc) w.heap.size 0 52 pc _ (World.rangeAt_setCells_same w_13 w.heap.size 0 pc (by rw [hpl]; exact Ve.ans)) Tryz.underlying52 rfl hip
 have HF : Hid (∃ m : Mg, Ending.returned (.agg pc.toArray) = .returned (.agg m.ms.cells.toArray) ∧ m.pure = (⟨6, v_a, 0, 0, v_b, false, [], Vt.zero, 0, 0, 0, [], [], zeros32, Vt.zero, [], ⟨#[]⟩, []⟩ : Mp) ∧ m.ok ∧ m.At (w_13.setCells w.heap.size 0 pc) ∧ m.Bk (fun b => w.heap.size ≤ b) ∧ RS (w_13.setCells w.heap.size 0 pc) Q R s_b ∧ Kept w R Q (w_13.setCells w.heap.size 0 pc)) := hide ⟨⟨6, v_a, 0, 0, v_b, false, ⟨none, 0, []⟩, Vt.zero, 0, 0, 0, ⟨none, 0, []⟩, ⟨none, 0, []⟩, zeros32, Vt.zero, ⟨none, 0, []⟩, ⟨#[]⟩, ⟨none, 0, []⟩⟩, by rw [hpc.out], rfl, hmo, mg0_at RowsAt.none hds_none RowsAt.none RowsAt.none RowsAt.none, ⟨no_bk, no_bk, no_bk2, no_bk, no_bk, no_bk⟩, Ve.rs.low hlow hQw, Ve.kept.low hlow (Nat.le_refl _)⟩
 clear Ve hlow rpc hpc hmo V_2
 go_wp2_with fail
 refine bodyPost_ret (v := .agg pc.toArray) ?_ rfl ?_
 ·simp [results, Tryz.results66, Act.put, asAddr, hrs]
 ·exact HF.out
set_option maxRecDepth 100000 in
set_option maxHeartbeats 1000000 in
theorem rmsgK7 (Q R : Nat) (s : Rst) (w : World) (h : RS w Q R s) (hl : s.1.length ≤ 40000) (hk : (kiS 8 s).1 = 7) : Calls Tryz.prog 66 #[.pointer (some ⟨Q, 0, none⟩)] w fun en w' => ∃ m : Mg, en = .returned (.agg m.ms.cells.toArray) ∧ m.pure = (mg7 (kiS 8 s).2).1 ∧ m.ok ∧ m.At w' ∧ m.Bk (fun b => w.heap.size ≤ b) ∧ RS w' Q R (mg7 (kiS 8 s).2).2 ∧ Kept w R Q w' := by
 have hRw := h.st.1.1
 have hQw := h.mr.lt
 have ck := fun w0 h0 => kindRS Q R 8 s w0 h0
 have l0 := kiS_len 8 s
 unfold mg7
 generalize kiS 8 s = p_ at ck l0 hk ⊢
 obtain ⟨k, s0⟩ := p_
 simp only at ck l0 hk ⊢
 subst hk
 have c_a := fun w0 h0 => bgetS Q R s0 w0 h0 (by omega)
 have l_a : (baS s0).2.1.length ≤ s0.1.length := baS_len _
 generalize baS s0 = p_ at c_a l_a ⊢
 obtain ⟨⟨q_a, rs_a⟩, s_a⟩ := p_
 simp only at c_a l_a ⊢
 have c_b := fun w0 h0 => rcertS Q R s_a w0 h0 (by omega)
 have l_b : (ceS s_a).2.1.length ≤ s_a.1.length := ceS_len _
 generalize ceS s_a = p_ at c_b l_b ⊢
 obtain ⟨⟨vt_b, sg_b⟩, s_b⟩ := p_
 simp only at c_b l_b ⊢
 obtain ⟨zc, hzl, hzr⟩ : ∃ z : List Value, z.length = 119 ∧ ∀ w : World, (zeroValue 52).run Tryz.prog w = .ok (.agg z.toArray) w := ⟨_, (Ms.plain_ok 0 0 0 Vt.zero_ok zeros32_len zeros32_byte).len, zeroM⟩
 have hbk := build_kind 7
 have hql := (ms0_ok 7).len
 have hq1 := (ms0_ok 7).one
 have hiq : (Tryz.prog.info? 52).map (·.size) = some (Ms.plain 7 0 0 Vt.zero zeros32).cells.length := by rw [hql]; exact iszM
 have hk0 : ∀ (w' : World) b, w'.rangeAt b 0 (Ms.plain 7 0 0 Vt.zero zeros32).cells → w'.cell? ⟨b, 0, none⟩ = some (.int .i64 7) := fun w' b h => ((ms0_ok 7).at h).k
 obtain ⟨qk, hqk⟩ : ∃ q, Hid ((Ms.plain 7 0 0 Vt.zero zeros32).cells = q) := ⟨_, hide rfl⟩
 simp only [hqk.out] at hbk hql hq1 hiq hk0
 obtain ⟨hB1, hr1, hs1⟩ := boxed_new w zc 52
 have ht1 := there_newN w zc.toArray 52 (n := 119) (by simp [hzl])
 go_enter Tryz.func66, Tryz.ntmps66
 go_upto_region 0 with fail
 try simp only [Act.put]
 refine pl_begin ?_
 refine pl_run (d := some 2) (v := .pointer (some ⟨w.heap.size, 0, none⟩)) (w' := w.alloc (.cells zc.toArray 52)) (by rfl) (ex_alloc rfl (hzr _)) rfl ?_
 simp only [nz]
 refine pl_nil ?_
 obtain ⟨W1, hW1⟩ : ∃ W, w.alloc (.cells zc.toArray 52) = W := ⟨_, rfl⟩
 rw [hW1] at hB1 hr1 hs1 ht1 ⊢
 clear hW1 hr1
 have S1 := h.below hB1
 go_upto_region 1 with fail
 try simp only [Act.put]
 refine pl_begin ?_
 refine pl_t 4 (?_) (by rfl) ?_ rfl ?_
 rotate_left
 ·go_simp
  try with_reducible rfl
 simp only [nz]
 refine pl_call (d := some 5) (by rfl) (by go_simp; first | done | exact ⟨rfl, rfl⟩ | with_reducible rfl) rfl ?_
 refine (ck W1 S1).mono ?_
 rintro _ w2 ⟨rfl, S2, k2⟩
 refine ⟨_, rfl, ?_⟩
 simp only [nz]
 refine pl_t 6 (.agg qk.toArray) (by rfl) (ex_build (parts := [(0, .tmp 5)]) rfl rfl (hbk _)) rfl ?_
 simp only [nz]
 refine pl_run (d := some 3) (v := .pointer (some ⟨w2.heap.size, 0, none⟩)) (w' := w2.alloc (.cells zc.toArray 52)) (by rfl) (ex_alloc rfl (hzr _)) rfl ?_
 simp only [nz]
 refine pl_store (w' := (w2.alloc (.cells zc.toArray 52)).setCells w2.heap.size 0 qk) (by rfl) (ex_put (cs := qk.toArray) rfl rfl rfl (there_newN _ _ _ (by simp [hzl, hql])) (by simpa using hiq) (all_one hq1)) rfl ?_
 refine pl_nil ?_
 obtain ⟨hF1, hF2, hF3, -⟩ := fresh_store w2 zc.toArray 52 qk (by simp [hzl, hql])
 have hF4 := World.there_setCells (there_newN w2 zc.toArray 52 (n := 119) (by simp [hzl])) w2.heap.size 0 qk
 obtain ⟨w3, hw3⟩ : ∃ W, (w2.alloc (.cells zc.toArray 52)).setCells w2.heap.size 0 qk = W := ⟨_, rfl⟩
 rw [hw3] at hF1 hF2 hF3 hF4 ⊢
 clear hw3
 have hc0 := hk0 _ _ hF1
 have k3 : Kept w R Q w3 := (((Kept.refl w R Q).below hB1).trans k2).below hF2
 have z2 := k2.size
 rw [← hqk.out] at hF1
 have V3 : MV w Q R w.heap.size w2.heap.size 119 (Ms.plain 7 0 0 Vt.zero zeros32).cells s0 w3 := ⟨hF1, hF4, there_below (there_blk ht1 (k2.block _ hs1 (by omega) (by omega))) hF2 (by omega), k3, S2.below hF2, by have := hF2.size; omega, by omega, Nat.le_refl _, by have := hB1.size; omega, by omega, hRw, hQw⟩
 have hww : w.heap.size < w2.heap.size := by omega
 clear hF1 hF2 hF4 ht1 hB1 S1 S2 k2 k3 hk0 hbk hql hq1 hiq hqk h ck hzr hzl
 go_upto_region 2 with fail
 try simp only [Act.put]
 refine pl_begin ?_
 refine pl_t 7 (?_) (by rfl) ?_ rfl ?_
 rotate_left
 ·go_simp
  try with_reducible rfl
 simp only [nz]
 refine pl_t 8 (.int .i64 7) (by rfl) (pl_one rfl rfl hc0 Tryz.underlying3 rfl) rfl ?_
 simp only [nz]
 refine pl_nil ?_
 clear hc0
 go_upto_region 18 with fail
 try simp only [Act.put]
 refine pl_begin ?_
 refine pl_t 95 (?_) (by rfl) ?_ rfl ?_
 rotate_left
 ·go_simp
  try with_reducible rfl
 simp only [nz]
 refine pl_t 96 (?_) (by rfl) ?_ rfl ?_
 rotate_left
 ·go_simp
  try with_reducible rfl
 simp only [nz]
 refine pl_t 97 (?_) (by rfl) ?_ rfl ?_
 rotate_left
 ·go_simp
  try with_reducible rfl
 simp only [nz]
 refine pl_t 98 (.pointer (some ⟨R, 0, none⟩)) (by rfl) (pl_one rfl rfl V3.rs.mr.c0 Tryz.underlying98 rfl) rfl ?_
 simp only [nz]
 refine pl_call (d := some 99) (by rfl) (by go_simp; first | done | exact ⟨rfl, rfl⟩ | with_reducible rfl) rfl ?_
 refine (c_a w3 V3.rs).mono ?_
 rintro _ w5 ⟨x, rfl, hx, hA, hB, S5, k5⟩
 refine ⟨_, rfl, ?_⟩
 simp only [nz]
 refine pl_t 100 (?_) (by rfl) ?_ rfl ?_
 rotate_left
 ·go_simp
  try with_reducible rfl
 simp only [nz]
 refine pl_call (d := some 101) (by rfl) (by go_simp; first | done | exact ⟨rfl, rfl⟩ | with_reducible rfl) rfl ?_
 refine (c_b w5 S5).mono ?_
 rintro _ w6 ⟨y, rfl, hy, hC, hD, hvt, S6, k6⟩
 refine ⟨_, rfl, ?_⟩
 simp only [nz]
 refine pl_t 102 (?_) (by rfl) ?_ rfl ?_
 rotate_left
 ·go_simp
  try with_reducible rfl
 simp only [nz]
 have lb := V3.lb
 have la := V3.la
 have na := V3.kept.size
 have z5 := k5.size
 have V6 := (V3.on k5 S5).on k6 S6
 have hA5 : x.At RqE w6 := hA.kept k6 (n := w3.heap.size) (by omega) (by omega) hB (fun b hb => hb.1)
 have Va := V6.set 5 [.bool q_a, x.val] (put_b q_a x.val V6.row (V6.part 5 2 (by decide)))
 refine pl_store (w' := w6.setCells w2.heap.size 5 [.bool q_a, x.val]) (by rfl) (ex_put (cs := #[.bool q_a, x.val]) rfl rfl rfl (V6.part 5 2 (by decide)) iszBa (by simp [Value.oneCell', Sl.val])) rfl ?_
 have hA6 := hA5.put (B := w2.heap.size) (o := 5) (vs := [.bool q_a, x.val]) hB (fun b hb => by omega)
 have hC6 := hC.put (B := w2.heap.size) (o := 5) (vs := [.bool q_a, x.val]) hD (fun b hb => by omega)
 obtain ⟨wd, hwd⟩ : ∃ W, w6.setCells w2.heap.size 5 [.bool q_a, x.val] = W := ⟨_, rfl⟩
 rw [hwd] at Va hA6 hC6 ⊢
 clear hwd
 refine pl_t 103 (?_) (by rfl) ?_ rfl ?_
 rotate_left
 ·go_simp
  try with_reducible rfl
 simp only [nz]
 have hcl : (certL vt_b y).length = 37 := by have := hvt.len; simp [certL]; omega
 have hc1 : ∀ v ∈ certL vt_b y, v.oneCell' = true := fun v hv => by
  rcases List.mem_append.1 hv with g | g
  ·exact Vt.one vt_b v g
  ·rw [List.mem_singleton.1 g]; rfl
 have Ve := Va.set 80 (certL vt_b y) (put_ct vt_b y.val hvt Vt.zero_ok zeros32_len Vt.zero_ok Va.row (Va.part 80 37 (by decide)))
 refine pl_store (w' := wd.setCells w2.heap.size 80 (certL vt_b y)) (by rfl) (ex_put (cs := (certL vt_b y).toArray) rfl rfl rfl (by simpa [hcl] using Va.part 80 37 (by decide)) (by simpa [hcl] using iszCe) (all_one hc1)) rfl ?_
 refine pl_nil ?_
 have hA7 := hA6.put (B := w2.heap.size) (o := 80) (vs := certL vt_b y) hB (fun b hb => by omega)
 have hC7 := hC6.put (B := w2.heap.size) (o := 80) (vs := certL vt_b y) hD (fun b hb => by omega)
 obtain ⟨we, hwe⟩ : ∃ W, wd.setCells w2.heap.size 80 (certL vt_b y) = W := ⟨_, rfl⟩
 rw [hwe] at Ve hA7 hC7 ⊢
 clear hwe
 clear Va V6 V3 S5 S6 k5 k6 hA hC hA5 hA6 hC6
 have rpc := Ve.row
 have hmo : Mg.ok ⟨7, 0, 0, 0, 0, q_a, x, Vt.zero, 0, 0, 0, ⟨none, 0, []⟩, ⟨none, 0, []⟩, zeros32, vt_b, y, ⟨#[]⟩, ⟨none, 0, []⟩⟩ := ⟨Vt.zero_ok, hvt, zeros32_len, zeros32_byte⟩
 have hpl : (Mg.ms ⟨7, 0, 0, 0, 0, q_a, x, Vt.zero, 0, 0, 0, ⟨none, 0, []⟩, ⟨none, 0, []⟩, zeros32, vt_b, y, ⟨#[]⟩, ⟨none, 0, []⟩⟩).cells.length = 119 := hmo.ms.len
 have hp1 := hmo.ms.one
 have hip : (Tryz.prog.info? 52).map (·.size) = some (Mg.ms ⟨7, 0, 0, 0, 0, q_a, x, Vt.zero, 0, 0, 0, ⟨none, 0, []⟩, ⟨none, 0, []⟩, zeros32, vt_b, y, ⟨#[]⟩, ⟨none, 0, []⟩⟩).cells.length := by rw [hpl]; exact iszM
 have rpc : we.rangeAt w2.heap.size 0 (Mg.ms ⟨7, 0, 0, 0, 0, q_a, x, Vt.zero, 0, 0, 0, ⟨none, 0, []⟩, ⟨none, 0, []⟩, zeros32, vt_b, y, ⟨#[]⟩, ⟨none, 0, []⟩⟩).cells := rpc
 obtain ⟨pc, hpc⟩ : ∃ p, Hid ((Mg.ms ⟨7, 0, 0, 0, 0, q_a, x, Vt.zero, 0, 0, 0, ⟨none, 0, []⟩, ⟨none, 0, []⟩, zeros32, vt_b, y, ⟨#[]⟩, ⟨none, 0, []⟩⟩).cells = p) := ⟨_, hide rfl⟩
 simp only [hpc.out] at hpl hip hp1 rpc
 go_upto_region 22 with fail
 try simp only [Act.put]
 refine pl_begin ?_
 refine pl_t 121 (.agg pc.toArray) (by rfl) (ex_mid rfl rfl rpc Tryz.underlying52 rfl hip) rfl ?_
 simp only [nz]
 refine pl_store (w' := we.setCells w.heap.size 0 pc) (by rfl) (ex_put (cs := pc.toArray) rfl rfl rfl (by simpa [hpl] using Ve.ans) (by simpa using hip) (all_one hp1)) rfl ?_
 refine pl_nil ?_
 have hlow : Below w.heap.size we (we.setCells w.heap.size 0 pc) := below_sets (Nat.le_refl _) pc 0 _ (Below.refl _ we)
 have hrs := run_loadVar_mid (P := Tryz.prog) (we.setCells w.heap.size 0 pc) w.heap.size 0 52 pc _ (World.rangeAt_setCells_same we w.heap.size 0 pc (by rw [hpl]; exact Ve.ans)) Tryz.underlying52 rfl hip
 have HF : Hid (∃ m : Mg, Ending.returned (.agg pc.toArray) = .returned (.agg m.ms.cells.toArray) ∧ m.pure = (⟨7, 0, 0, 0, 0, q_a, rs_a, Vt.zero, 0, 0, 0, [], [], zeros32, vt_b, sg_b, ⟨#[]⟩, []⟩ : Mp) ∧ m.ok ∧ m.At (we.setCells w.heap.size 0 pc) ∧ m.Bk (fun b => w.heap.size ≤ b) ∧ RS (we.setCells w.heap.size 0 pc) Q R s_b ∧ Kept w R Q (we.setCells w.heap.size 0 pc)) := hide ⟨⟨7, 0, 0, 0, 0, q_a, x, Vt.zero, 0, 0, 0, ⟨none, 0, []⟩, ⟨none, 0, []⟩, zeros32, vt_b, y, ⟨#[]⟩, ⟨none, 0, []⟩⟩, by rw [hpc.out], by rw [← hx, ← hy]; rfl, hmo, mg0_at (hA7.put hB (fun b hb => by omega)) hds_none RowsAt.none (hC7.put hD (fun b hb => by omega)) RowsAt.none, ⟨hB.mono (fun b hb => by omega), no_bk, no_bk2, no_bk, hD.mono (fun b hb => by omega), no_bk⟩, Ve.rs.low hlow hQw, Ve.kept.low hlow (Nat.le_refl _)⟩
 clear Ve hlow rpc hpc hmo hA7 hC7 hB hD hx hy
 go_wp2_with fail
 refine bodyPost_ret (v := .agg pc.toArray) ?_ rfl ?_
 ·simp [results, Tryz.results66, Act.put, asAddr, hrs]
 ·exact HF.out
set_option maxRecDepth 100000 in
set_option maxHeartbeats 1000000 in
theorem rmsgK8 (Q R : Nat) (s : Rst) (w : World) (h : RS w Q R s) (hl : s.1.length ≤ 40000) (hk : (kiS 8 s).1 = 8) : Calls Tryz.prog 66 #[.pointer (some ⟨Q, 0, none⟩)] w fun en w' => ∃ m : Mg, en = .returned (.agg m.ms.cells.toArray) ∧ m.pure = (mg8 (kiS 8 s).2).1 ∧ m.ok ∧ m.At w' ∧ m.Bk (fun b => w.heap.size ≤ b) ∧ RS w' Q R (mg8 (kiS 8 s).2).2 ∧ Kept w R Q w' := by
 have hRw := h.st.1.1
 have hQw := h.mr.lt
 have ck := fun w0 h0 => kindRS Q R 8 s w0 h0
 have l0 := kiS_len 8 s
 unfold mg8
 generalize kiS 8 s = p_ at ck l0 hk ⊢
 obtain ⟨k, s0⟩ := p_
 simp only at ck l0 hk ⊢
 subst hk
 have c_a := fun w0 h0 => textRS Q R 4194304 s0 w0 h0
 have l_a : (txS 4194304 s0).2.1.length ≤ s0.1.length := txS_len _ _
 generalize txS 4194304 s0 = p_ at c_a l_a ⊢
 obtain ⟨v_a, s_a⟩ := p_
 simp only at c_a l_a ⊢
 have c_b := fun w0 h0 => rlistS_any Q R s_a w0 h0 (by omega)
 have l_b : (lsS 64 siS s_a).2.1.length ≤ s_a.1.length := lsS_len siS_len _ _
 generalize lsS 64 siS s_a = p_ at c_b l_b ⊢
 obtain ⟨v_b, s_b⟩ := p_
 simp only at c_b l_b ⊢
 obtain ⟨zc, hzl, hzr⟩ : ∃ z : List Value, z.length = 119 ∧ ∀ w : World, (zeroValue 52).run Tryz.prog w = .ok (.agg z.toArray) w := ⟨_, (Ms.plain_ok 0 0 0 Vt.zero_ok zeros32_len zeros32_byte).len, zeroM⟩
 have hbk := build_kind 8
 have hql := (ms0_ok 8).len
 have hq1 := (ms0_ok 8).one
 have hiq : (Tryz.prog.info? 52).map (·.size) = some (Ms.plain 8 0 0 Vt.zero zeros32).cells.length := by rw [hql]; exact iszM
 have hk0 : ∀ (w' : World) b, w'.rangeAt b 0 (Ms.plain 8 0 0 Vt.zero zeros32).cells → w'.cell? ⟨b, 0, none⟩ = some (.int .i64 8) := fun w' b h => ((ms0_ok 8).at h).k
 obtain ⟨qk, hqk⟩ : ∃ q, Hid ((Ms.plain 8 0 0 Vt.zero zeros32).cells = q) := ⟨_, hide rfl⟩
 simp only [hqk.out] at hbk hql hq1 hiq hk0
 obtain ⟨hB1, hr1, hs1⟩ := boxed_new w zc 52
 have ht1 := there_newN w zc.toArray 52 (n := 119) (by simp [hzl])
 go_enter Tryz.func66, Tryz.ntmps66
 go_upto_region 0 with fail
 try simp only [Act.put]
 refine pl_begin ?_
 refine pl_run (d := some 2) (v := .pointer (some ⟨w.heap.size, 0, none⟩)) (w' := w.alloc (.cells zc.toArray 52)) (by rfl) (ex_alloc rfl (hzr _)) rfl ?_
 simp only [nz]
 refine pl_nil ?_
 obtain ⟨W1, hW1⟩ : ∃ W, w.alloc (.cells zc.toArray 52) = W := ⟨_, rfl⟩
 rw [hW1] at hB1 hr1 hs1 ht1 ⊢
 clear hW1 hr1
 have S1 := h.below hB1
 go_upto_region 1 with fail
 try simp only [Act.put]
 refine pl_begin ?_
 refine pl_t 4 (?_) (by rfl) ?_ rfl ?_
 rotate_left
 ·go_simp
  try with_reducible rfl
 simp only [nz]
 refine pl_call (d := some 5) (by rfl) (by go_simp; first | done | exact ⟨rfl, rfl⟩ | with_reducible rfl) rfl ?_
 refine (ck W1 S1).mono ?_
 rintro _ w2 ⟨rfl, S2, k2⟩
 refine ⟨_, rfl, ?_⟩
 simp only [nz]
 refine pl_t 6 (.agg qk.toArray) (by rfl) (ex_build (parts := [(0, .tmp 5)]) rfl rfl (hbk _)) rfl ?_
 simp only [nz]
 refine pl_run (d := some 3) (v := .pointer (some ⟨w2.heap.size, 0, none⟩)) (w' := w2.alloc (.cells zc.toArray 52)) (by rfl) (ex_alloc rfl (hzr _)) rfl ?_
 simp only [nz]
 refine pl_store (w' := (w2.alloc (.cells zc.toArray 52)).setCells w2.heap.size 0 qk) (by rfl) (ex_put (cs := qk.toArray) rfl rfl rfl (there_newN _ _ _ (by simp [hzl, hql])) (by simpa using hiq) (all_one hq1)) rfl ?_
 refine pl_nil ?_
 obtain ⟨hF1, hF2, hF3, -⟩ := fresh_store w2 zc.toArray 52 qk (by simp [hzl, hql])
 have hF4 := World.there_setCells (there_newN w2 zc.toArray 52 (n := 119) (by simp [hzl])) w2.heap.size 0 qk
 obtain ⟨w3, hw3⟩ : ∃ W, (w2.alloc (.cells zc.toArray 52)).setCells w2.heap.size 0 qk = W := ⟨_, rfl⟩
 rw [hw3] at hF1 hF2 hF3 hF4 ⊢
 clear hw3
 have hc0 := hk0 _ _ hF1
 have k3 : Kept w R Q w3 := (((Kept.refl w R Q).below hB1).trans k2).below hF2
 have z2 := k2.size
 rw [← hqk.out] at hF1
 have V3 : MV w Q R w.heap.size w2.heap.size 119 (Ms.plain 8 0 0 Vt.zero zeros32).cells s0 w3 := ⟨hF1, hF4, there_below (there_blk ht1 (k2.block _ hs1 (by omega) (by omega))) hF2 (by omega), k3, S2.below hF2, by have := hF2.size; omega, by omega, Nat.le_refl _, by have := hB1.size; omega, by omega, hRw, hQw⟩
 have hww : w.heap.size < w2.heap.size := by omega
 clear hF1 hF2 hF4 ht1 hB1 S1 S2 k2 k3 hk0 hbk hql hq1 hiq hqk h ck hzr hzl
 go_upto_region 2 with fail
 try simp only [Act.put]
 refine pl_begin ?_
 refine pl_t 7 (?_) (by rfl) ?_ rfl ?_
 rotate_left
 ·go_simp
  try with_reducible rfl
 simp only [nz]
 refine pl_t 8 (.int .i64 8) (by rfl) (pl_one rfl rfl hc0 Tryz.underlying3 rfl) rfl ?_
 simp only [nz]
 refine pl_nil ?_
 clear hc0
 go_upto_region 20 with fail
 try simp only [Act.put]
 refine pl_begin ?_
 refine pl_t 106 (?_) (by rfl) ?_ rfl ?_
 rotate_left
 ·go_simp
  try with_reducible rfl
 simp only [nz]
 refine pl_t 107 (?_) (by rfl) ?_ rfl ?_
 rotate_left
 ·go_simp
  try with_reducible rfl
 simp only [nz]
 refine pl_t 108 (?_) (by rfl) ?_ rfl ?_
 rotate_left
 ·go_simp
  try with_reducible rfl
 simp only [nz]
 refine pl_t 109 (.pointer (some ⟨R, 0, none⟩)) (by rfl) (pl_one rfl rfl V3.rs.mr.c0 Tryz.underlying98 rfl) rfl ?_
 simp only [nz]
 refine pl_call (d := some 110) (by rfl) (by go_simp; first | done | exact ⟨rfl, rfl⟩ | with_reducible rfl) rfl ?_
 refine (c_a w3 V3.rs).mono ?_
 rintro _ w5 ⟨rfl, S5, k5⟩
 refine ⟨_, rfl, ?_⟩
 simp only [nz]
 refine pl_t 111 (?_) (by rfl) ?_ rfl ?_
 rotate_left
 ·go_simp
  try with_reducible rfl
 simp only [nz]
 have V5 := V3.on k5 S5
 have Va := V5.set 117 [.string v_a] (put_st v_a Vt.zero_ok zeros32_len Vt.zero_ok V5.row (V5.part 117 1 (by decide)))
 refine pl_store (w' := w5.setCells w2.heap.size 117 [.string v_a]) (by rfl) (ex_put1 (n := 119) rfl rfl rfl V5.box (by decide) iszStr rfl rfl) rfl ?_
 refine pl_nil ?_
 obtain ⟨w6, hw6⟩ : ∃ W, w5.setCells w2.heap.size 117 [.string v_a] = W := ⟨_, rfl⟩
 rw [hw6] at Va ⊢
 clear hw6
 clear V5 V3 S5 k5
 go_upto_region 21 with fail
 try simp only [Act.put]
 refine pl_begin ?_
 refine pl_t 112 (?_) (by rfl) ?_ rfl ?_
 rotate_left
 ·go_simp
  try with_reducible rfl
 simp only [nz]
 refine pl_t 113 (?_) (by rfl) ?_ rfl ?_
 rotate_left
 ·go_simp
  try with_reducible rfl
 simp only [nz]
 refine pl_t 114 (?_) (by rfl) ?_ rfl ?_
 rotate_left
 ·go_simp
  try with_reducible rfl
 simp only [nz]
 refine pl_t 115 (.pointer (some ⟨R, 0, none⟩)) (by rfl) (pl_one rfl rfl Va.rs.mr.c0 Tryz.underlying98 rfl) rfl ?_
 simp only [nz]
 refine pl_t 116 (?_) (by rfl) ?_ rfl ?_
 rotate_left
 ·go_simp
  try with_reducible rfl
 simp only [nz]
 refine pl_t 117 (?_) (by rfl) ?_ rfl ?_
 rotate_left
 ·go_simp
  try with_reducible rfl
 simp only [nz]
 refine pl_t 118 (?_) (by rfl) ?_ rfl ?_
 rotate_left
 ·go_simp
  try with_reducible rfl
 simp only [nz]
 refine pl_call (d := some 119) (by rfl) (by go_simp; first | done | exact ⟨rfl, rfl⟩ | with_reducible rfl) rfl ?_
 refine (c_b w6 Va.rs).mono ?_
 rintro _ wd ⟨x, rfl, hx, hA, hB, Sd, kd⟩
 refine ⟨_, rfl, ?_⟩
 simp only [nz]
 refine pl_t 120 (?_) (by rfl) ?_ rfl ?_
 rotate_left
 ·go_simp
  try with_reducible rfl
 simp only [nz]
 have Vd := Va.on kd Sd
 have Ve := Vd.set 118 [x.val] (put_sg x.val Vt.zero_ok zeros32_len Vt.zero_ok Vd.row (Vd.part 118 1 (by decide)))
 have lb := Va.lb
 have la := Va.la
 have na := Va.kept.size
 refine pl_store (w' := wd.setCells w2.heap.size 118 [x.val]) (by rfl) (ex_put1 (n := 119) rfl rfl rfl Vd.box (by decide) iszSgs rfl rfl) rfl ?_
 refine pl_nil ?_
 have hA1 := hA.put (B := w2.heap.size) (o := 118) (vs := [x.val]) hB (fun b hb => by omega)
 obtain ⟨we, hwe⟩ : ∃ W, wd.setCells w2.heap.size 118 [x.val] = W := ⟨_, rfl⟩
 rw [hwe] at Ve hA1 ⊢
 clear hwe
 clear Vd Sd kd Va hA
 have rpc := Ve.row
 have hmo : Mg.ok ⟨8, 0, 0, 0, 0, false, ⟨none, 0, []⟩, Vt.zero, 0, 0, 0, ⟨none, 0, []⟩, ⟨none, 0, []⟩, zeros32, Vt.zero, ⟨none, 0, []⟩, v_a, x⟩ := ⟨Vt.zero_ok, Vt.zero_ok, zeros32_len, zeros32_byte⟩
 have hpl : (Mg.ms ⟨8, 0, 0, 0, 0, false, ⟨none, 0, []⟩, Vt.zero, 0, 0, 0, ⟨none, 0, []⟩, ⟨none, 0, []⟩, zeros32, Vt.zero, ⟨none, 0, []⟩, v_a, x⟩).cells.length = 119 := hmo.ms.len
 have hp1 := hmo.ms.one
 have hip : (Tryz.prog.info? 52).map (·.size) = some (Mg.ms ⟨8, 0, 0, 0, 0, false, ⟨none, 0, []⟩, Vt.zero, 0, 0, 0, ⟨none, 0, []⟩, ⟨none, 0, []⟩, zeros32, Vt.zero, ⟨none, 0, []⟩, v_a, x⟩).cells.length := by rw [hpl]; exact iszM
 have rpc : we.rangeAt w2.heap.size 0 (Mg.ms ⟨8, 0, 0, 0, 0, false, ⟨none, 0, []⟩, Vt.zero, 0, 0, 0, ⟨none, 0, []⟩, ⟨none, 0, []⟩, zeros32, Vt.zero, ⟨none, 0, []⟩, v_a, x⟩).cells := rpc
 obtain ⟨pc, hpc⟩ : ∃ p, Hid ((Mg.ms ⟨8, 0, 0, 0, 0, false, ⟨none, 0, []⟩, Vt.zero, 0, 0, 0, ⟨none, 0, []⟩, ⟨none, 0, []⟩, zeros32, Vt.zero, ⟨none, 0, []⟩, v_a, x⟩).cells = p) := ⟨_, hide rfl⟩
 simp only [hpc.out] at hpl hip hp1 rpc
 go_upto_region 22 with fail
 try simp only [Act.put]
 refine pl_begin ?_
 refine pl_t 121 (.agg pc.toArray) (by rfl) (ex_mid rfl rfl rpc Tryz.underlying52 rfl hip) rfl ?_
 simp only [nz]
 refine pl_store (w' := we.setCells w.heap.size 0 pc) (by rfl) (ex_put (cs := pc.toArray) rfl rfl rfl (by simpa [hpl] using Ve.ans) (by simpa using hip) (all_one hp1)) rfl ?_
 refine pl_nil ?_
 have hlow : Below w.heap.size we (we.setCells w.heap.size 0 pc) := below_sets (Nat.le_refl _) pc 0 _ (Below.refl _ we)
 have hrs := run_loadVar_mid (P := Tryz.prog) (we.setCells w.heap.size 0 pc) w.heap.size 0 52 pc _ (World.rangeAt_setCells_same we w.heap.size 0 pc (by rw [hpl]; exact Ve.ans)) Tryz.underlying52 rfl hip
 have HF : Hid (∃ m : Mg, Ending.returned (.agg pc.toArray) = .returned (.agg m.ms.cells.toArray) ∧ m.pure = (⟨8, 0, 0, 0, 0, false, [], Vt.zero, 0, 0, 0, [], [], zeros32, Vt.zero, [], v_a, v_b⟩ : Mp) ∧ m.ok ∧ m.At (we.setCells w.heap.size 0 pc) ∧ m.Bk (fun b => w.heap.size ≤ b) ∧ RS (we.setCells w.heap.size 0 pc) Q R s_b ∧ Kept w R Q (we.setCells w.heap.size 0 pc)) := hide ⟨⟨8, 0, 0, 0, 0, false, ⟨none, 0, []⟩, Vt.zero, 0, 0, 0, ⟨none, 0, []⟩, ⟨none, 0, []⟩, zeros32, Vt.zero, ⟨none, 0, []⟩, v_a, x⟩, by rw [hpc.out], by rw [← hx]; rfl, hmo, mg0_at RowsAt.none hds_none RowsAt.none RowsAt.none (hA1.put hB (fun b hb => by omega)), ⟨no_bk, no_bk, no_bk2, no_bk, no_bk, hB.mono (fun b hb => by omega)⟩, Ve.rs.low hlow hQw, Ve.kept.low hlow (Nat.le_refl _)⟩
 clear Ve hlow rpc hpc hmo hA1 hB hx
 go_wp2_with fail
 refine bodyPost_ret (v := .agg pc.toArray) ?_ rfl ?_
 ·simp [results, Tryz.results66, Act.put, asAddr, hrs]
 ·exact HF.out
theorem rmsgS (Q R : Nat) (s : Rst) (w : World) (h : RS w Q R s) (hl : s.1.length ≤ 40000) : Calls Tryz.prog 66 #[.pointer (some ⟨Q, 0, none⟩)] w fun en w' => ∃ m : Mg, en = .returned (.agg m.ms.cells.toArray) ∧ m.pure = (mgS s).1 ∧ m.ok ∧ m.At w' ∧ m.Bk (fun b => w.heap.size ≤ b) ∧ RS w' Q R (mgS s).2 ∧ Kept w R Q w' := by
 unfold mgS mgF
 by_cases n1 : (kiS 8 s).1 = 1
 ·rw [if_pos n1]; exact rmsgK1 Q R s w h hl n1
 rw [if_neg n1]
 by_cases n2 : (kiS 8 s).1 = 2
 ·rw [if_pos n2]; exact rmsgK2 Q R s w h hl n2
 rw [if_neg n2]
 by_cases n3 : (kiS 8 s).1 = 3
 ·rw [if_pos n3]; exact rmsgK3 Q R s w h hl n3
 rw [if_neg n3]
 by_cases n4 : (kiS 8 s).1 = 4
 ·rw [if_pos n4]; exact rmsgK4 Q R s w h hl n4
 rw [if_neg n4]
 by_cases n5 : (kiS 8 s).1 = 5
 ·rw [if_pos n5]; exact rmsgK5 Q R s w h hl n5
 rw [if_neg n5]
 by_cases n6 : (kiS 8 s).1 = 6
 ·rw [if_pos n6]; exact rmsgK6 Q R s w h hl n6
 rw [if_neg n6]
 by_cases n7 : (kiS 8 s).1 = 7
 ·rw [if_pos n7]; exact rmsgK7 Q R s w h hl n7
 rw [if_neg n7]
 by_cases n8 : (kiS 8 s).1 = 8
 ·rw [if_pos n8]; exact rmsgK8 Q R s w h hl n8
 rw [if_neg n8]
 exact rmsgK0 Q R s w h hl n1 n2 n3 n4 n5 n6 n7 n8
set_option maxRecDepth 100000 in
set_option maxHeartbeats 2000000 in
theorem newReaderS (s : ByteArray) (hs : s.size ≤ 1099511627) (w : World) : Calls Tryz.prog 65 #[.string s] w fun e w' => ∃ Q R, e = .returned (.pointer (some ⟨Q, 0, none⟩)) ∧ w.heap.size ≤ R ∧ RS w' Q R (strL s, 0, false) ∧ Below w.heap.size w w' := by
 obtain ⟨c, w1, hc, hr, hB⟩ := bytes_of s hs w
 have hl : (strL s).length ≤ 549755813888 := by rw [strL_length]; omega
 have cr := read_any (some ⟨w.heap.size, 0, none⟩) c (strL s) w1 hr hl
 generalize strL s = zs at *
 go_enter Tryz.func65, Tryz.ntmps65
 go_wp2_with fail
 refine cr.mono ?_
 rintro e w2 ⟨R, rfl, hR, hSt, hb2⟩
 have hB2 := hB.trans (hb2.mono hB.size)
 have hB3 : Below w2.heap.size w2 (w2.alloc (.cells #[.pointer (some ⟨R, 0, none⟩), .bool false] 178)) := (Below.refl _ _).alloc (Nat.le_refl _) _
 have hB4 := hB2.trans (hB3.mono hB2.size)
 have hRl := hSt.1.1
 have hSt3 := hSt.below hB3
 have hQ : MrAt (w2.alloc (.cells #[.pointer (some ⟨R, 0, none⟩), .bool false] 178)) w2.heap.size R false :=
  ⟨by simp, hRl, World.cell?_alloc_at _ _ _ _ rfl, World.cell?_alloc_at _ _ _ _ rfl, World.frozen?_alloc_at _ _ _ _ rfl⟩
 have hQt := there_newN w2 #[.pointer (some ⟨R, 0, none⟩), .bool false] 178 (n := 2) rfl
 have hRw : w.heap.size ≤ R := by have := hB.size; omega
 clear cr hc hr hSt hB3 hB2 hb2 hB
 go_wp2_with fail
 go_ret
 exact ⟨_, R, rfl, hRw, ⟨hSt3, hQ, hQt⟩, hB4⟩
def faE (s : Rst) : Int := if s.2.2 = true then 130 else doneE s.1 s.2.1
set_option maxRecDepth 100000 in
set_option maxHeartbeats 1000000 in
theorem faultS (Q R : Nat) (s : Rst) (w : World) (h : RS w Q R s) : Calls Tryz.prog 67 #[.pointer (some ⟨Q, 0, none⟩)] w fun en w' => en = .returned (.int .i64 (faE s)) ∧ w' = w := by
 obtain ⟨rest, e, z⟩ := s
 unfold faE
 cases z
 ·exact fault_ok Q R rest e w h.st h.mr
 ·have c0 := h.mr.c0
  have c1 := h.mr.c1
  simp only at c0 c1
  clear h
  go_enter Tryz.func67, Tryz.ntmps67
  go_wp2_with fail
  go_ret
  exact ⟨rfl, rfl⟩
def Mp.none : Mp := ⟨0, 0, 0, 0, 0, false, [], Vt.zero, 0, 0, 0, [], [], zeros32, Vt.zero, [], ⟨#[]⟩, []⟩
def decS (zs : List Int) : Mp × Int := if faE (mgS (zs, 0, false)).2 = 0 then ((mgS (zs, 0, false)).1, 0) else (Mp.none, faE (mgS (zs, 0, false)).2)
def Mg.none : Mg := ⟨0, 0, 0, 0, 0, false, ⟨Option.none, 0, []⟩, Vt.zero, 0, 0, 0, ⟨Option.none, 0, []⟩, ⟨Option.none, 0, []⟩, zeros32, Vt.zero, ⟨Option.none, 0, []⟩, ⟨#[]⟩, ⟨Option.none, 0, []⟩⟩
theorem Mg.none_ok : Mg.none.ok := ⟨Vt.zero_ok, Vt.zero_ok, zeros32_len, zeros32_byte⟩
theorem Mg.none_at (w : World) : Mg.none.At w := mg0_at RowsAt.none hds_none RowsAt.none RowsAt.none RowsAt.none
theorem Mg.At.put {m : Mg} {W : World} {n o : Nat} {vs : List Value} (h : m.At W) (k : Mg.Bk m (fun b => n < b)) : m.At (W.setCells n o vs) := by
 obtain ⟨k1, k2, k2', k3, k4, k5⟩ := k
 have f : ∀ b, n < b → b ≠ n := fun b hb => by omega
 exact ⟨h.rs.put k1 f, h.he.put k2 k2' f, h.ne.put k3 f, h.cs.put k4 f, h.sg.put k5 f⟩
theorem build_none (w : World) : (Instr.build 52 #[]).run Tryz.prog w = .ok (.agg Mg.none.ms.cells.toArray) w := build_msg #[] _ w rfl
set_option maxRecDepth 100000 in
set_option maxHeartbeats 1000000 in
theorem decode_any (sb : ByteArray) (hs : sb.size ≤ 40000) (w : World) : Calls Tryz.prog 30 #[.string sb] w fun en w' => ∃ m : Mg, en = .returned (.tuple #[.agg m.ms.cells.toArray, .int .i64 (decS (strL sb)).2]) ∧ m.pure = (decS (strL sb)).1 ∧ m.ok ∧ m.At w' ∧ m.Bk (fun b => w.heap.size ≤ b) ∧ Below w.heap.size w w' := by
 obtain ⟨zc, hzc, hzl, hz1, hzr, hb0⟩ : ∃ z : List Value, Hid (z = Mg.none.ms.cells) ∧ z.length = 119 ∧ (∀ v ∈ z, v.oneCell' = true) ∧ (∀ w : World, (zeroValue 52).run Tryz.prog w = .ok (.agg z.toArray) w) ∧ ∀ w : World, (Instr.build 52 #[]).run Tryz.prog w = .ok (.agg z.toArray) w := ⟨_, hide rfl, Mg.none_ok.ms.len, Mg.none_ok.ms.one, zeroM, build_none⟩
 have hiz : (Tryz.prog.info? 52).map (·.size) = some zc.length := by rw [hzl]; exact iszM
 have cn := fun w0 => newReaderS sb (by omega) w0
 have cr := fun Q R w0 h0 => rmsgS Q R (strL sb, 0, false) w0 h0 (by show (strL sb).length ≤ 40000; rw [strL_length]; exact hs)
 have hs' : (sb.size : Int) ≤ 4194304 := by omega
 unfold decS
 generalize strL sb = zs at cn cr ⊢
 generalize mgS (zs, 0, false) = p_ at cr ⊢
 obtain ⟨mp, t⟩ := p_
 simp only at cr ⊢
 have cf := fun Q R w0 h0 => faultS Q R t w0 h0
 generalize faE t = f at cf ⊢
 obtain ⟨hB1, hr1, hs1⟩ := boxed_new w zc 52
 have ht1 := there_newN w zc.toArray 52 (n := 119) (by simp [hzl])
 go_enter Tryz.func30, Tryz.ntmps30
 go_upto_region 0 with fail
 try simp only [Act.put]
 refine pl_begin ?_
 refine pl_run (d := some 2) (v := .pointer (some ⟨w.heap.size, 0, none⟩)) (w' := w.alloc (.cells zc.toArray 52)) (by rfl) (ex_alloc rfl (hzr _)) rfl ?_
 simp only [nz]
 refine pl_t 3 (?_) (by rfl) ?_ rfl ?_
 rotate_left
 ·go_simp
  try with_reducible rfl
 simp only [nz]
 refine pl_nil ?_
 obtain ⟨W1, hW1⟩ : ∃ W, w.alloc (.cells zc.toArray 52) = W := ⟨_, rfl⟩
 rw [hW1] at hB1 hr1 hs1 ht1 ⊢
 clear hW1 hr1
 go_upto_region 3 with fail
 try simp only [Act.put]
 refine pl_begin ?_
 refine pl_t 11 (?_) (by rfl) ?_ rfl ?_
 rotate_left
 ·go_simp
  try with_reducible rfl
 simp only [nz]
 refine pl_call (d := some 12) (by rfl) (by go_simp; first | done | exact ⟨rfl, rfl⟩ | with_reducible rfl) rfl ?_
 refine (cn W1).mono ?_
 rintro _ w2 ⟨Q, R, rfl, hRw, S2, hb2⟩
 refine ⟨_, rfl, ?_⟩
 simp only [nz]
 refine pl_t 4 (?_) (by rfl) ?_ rfl ?_
 rotate_left
 ·go_simp
  try with_reducible rfl
 simp only [nz]
 refine pl_nil ?_
 have hT2 := there_below ht1 hb2 hs1
 have hRQ := S2.mr.ne
 have hB2 := hB1.trans (hb2.mono hB1.size)
 have z2 := hb2.size
 clear cn
 go_upto_region 4 with fail
 try simp only [Act.put]
 refine pl_begin ?_
 refine pl_t 13 (?_) (by rfl) ?_ rfl ?_
 rotate_left
 ·go_simp
  try with_reducible rfl
 simp only [nz]
 refine pl_call (d := some 14) (by rfl) (by go_simp; first | done | exact ⟨rfl, rfl⟩ | with_reducible rfl) rfl ?_
 refine (cr Q R w2 S2).mono ?_
 rintro _ w3 ⟨m, rfl, hp, hmo, hA, hB, S3, k3⟩
 refine ⟨_, rfl, ?_⟩
 simp only [nz]
 have hql := hmo.ms.len
 have hq1 := hmo.ms.one
 have hiq : (Tryz.prog.info? 52).map (·.size) = some m.ms.cells.length := by rw [hql]; exact iszM
 obtain ⟨q, hqq⟩ : ∃ q, Hid (m.ms.cells = q) := ⟨_, hide rfl⟩
 simp only [hqq.out] at hql hq1 hiq ⊢
 refine pl_run (d := some 5) (v := .pointer (some ⟨w3.heap.size, 0, none⟩)) (w' := w3.alloc (.cells zc.toArray 52)) (by rfl) (ex_alloc rfl (hzr _)) rfl ?_
 simp only [nz]
 refine pl_store (w' := (w3.alloc (.cells zc.toArray 52)).setCells w3.heap.size 0 q) (by rfl) (ex_put (cs := q.toArray) rfl rfl rfl (there_newN _ _ _ (by simp [hzl, hql])) (by simpa using hiq) (all_one hq1)) rfl ?_
 refine pl_nil ?_
 obtain ⟨r4, hF2, hF3, -⟩ := fresh_store w3 zc.toArray 52 q (by simp [hzl, hql])
 have hT3 := there_blk hT2 (k3.block w.heap.size (by omega) (by omega) (by omega))
 have hB3 : Below w.heap.size w w3 := k3.to hB2 (by omega) (by omega)
 have z3 := k3.size
 obtain ⟨w4, hw4⟩ : ∃ W, (w3.alloc (.cells zc.toArray 52)).setCells w3.heap.size 0 q = W := ⟨_, rfl⟩
 rw [hw4] at r4 hF2 hF3 ⊢
 clear hw4
 have S4 := S3.below hF2
 have hT4 := there_below hT3 hF2 (by omega)
 have hB4 := hB3.trans (hF2.mono hB3.size)
 have hA4 := hA.below hF2
 have cf := cf Q R
 have hBk : m.Bk (fun b => w.heap.size < b) := ⟨hB.1.mono (fun b hb => by omega), hB.2.1.mono (fun b hb => by omega), fun y hy => (hB.2.2.1 y hy).mono (fun b hb => by omega), hB.2.2.2.1.mono (fun b hb => by omega), hB.2.2.2.2.1.mono (fun b hb => by omega), hB.2.2.2.2.2.mono (fun b hb => by omega)⟩
 have hBk0 : m.Bk (fun b => w.heap.size ≤ b) := ⟨hB.1.mono (fun b hb => by omega), hB.2.1.mono (fun b hb => by omega), fun y hy => (hB.2.2.1 y hy).mono (fun b hb => by omega), hB.2.2.2.1.mono (fun b hb => by omega), hB.2.2.2.2.1.mono (fun b hb => by omega), hB.2.2.2.2.2.mono (fun b hb => by omega)⟩
 have B9 := fun vs => below_sets (Nat.le_refl w.heap.size) vs 0 _ hB4
 have A9 := fun vs => Mg.At.put (o := 0) (vs := vs) hA4 hBk
 have HM := hide (show m.pure = mp ∧ m.ok ∧ m.Bk (fun b => w.heap.size ≤ b) from ⟨hp, hmo, hBk0⟩)
 clear hF2 hA hB hBk hBk0 hT3 hB3 S3 k3 hT2 hB2 hp hmo hA4 cr S2 hb2
 go_upto_region 5 with fail
 try simp only [Act.put]
 refine pl_begin ?_
 refine pl_t 15 (?_) (by rfl) ?_ rfl ?_
 rotate_left
 ·go_simp
  try with_reducible rfl
 simp only [nz]
 refine pl_call (d := some 16) (by rfl) (by go_simp; first | done | exact ⟨rfl, rfl⟩ | with_reducible rfl) rfl ?_
 refine (cf w4 S4).mono ?_
 rintro _ w5 ⟨rfl, hx⟩
 obtain rfl := hx.symm
 clear hx
 refine ⟨_, rfl, ?_⟩
 simp only [nz]
 refine pl_t 6 (?_) (by rfl) ?_ rfl ?_
 rotate_left
 ·go_simp
  try with_reducible rfl
 simp only [nz]
 refine pl_nil ?_
 clear cf S4
 by_cases hf : f = 0
 ·subst hf
  go_upto_region 8 with fail
  try simp only [Act.put]
  refine pl_begin ?_
  refine pl_t 21 (.agg q.toArray) (by rfl) (ex_mid rfl rfl r4 Tryz.underlying52 rfl hiq) rfl ?_
  simp only [nz]
  refine pl_store (w' := w4.setCells w.heap.size 0 q) (by rfl) (ex_put (cs := q.toArray) rfl rfl rfl (by simpa [hql] using hT4) (by simpa using hiq) (all_one hq1)) rfl ?_
  refine pl_t 3 (?_) (by rfl) ?_ rfl ?_
  rotate_left
  ·go_simp
   try with_reducible rfl
  simp only [nz]
  refine pl_nil ?_
  have hrs := run_loadVar_mid (P := Tryz.prog) (w4.setCells w.heap.size 0 q) w.heap.size 0 52 q _ (World.rangeAt_setCells_same w4 w.heap.size 0 q (by rw [hql]; exact hT4)) Tryz.underlying52 rfl hiq
  have HF : Hid (∃ g : Mg, Ending.returned (.tuple #[.agg q.toArray, .int .i64 0]) = .returned (.tuple #[.agg g.ms.cells.toArray, .int .i64 0]) ∧ g.pure = mp ∧ g.ok ∧ g.At (w4.setCells w.heap.size 0 q) ∧ g.Bk (fun b => w.heap.size ≤ b) ∧ Below w.heap.size w (w4.setCells w.heap.size 0 q)) := hide ⟨m, by rw [hqq.out], HM.out.1, HM.out.2.1, A9 q, HM.out.2.2, B9 q⟩
  clear HM A9 B9 r4 hT4 hB4 hqq
  go_wp2_with fail
  refine bodyPost_ret (results_ct rfl _ _ _ rfl hrs) rfl ?_
  exact HF.out
 ·have hfb : (f != 0) = true := by simpa using hf
  go_upto_region 7 with fail
  try simp only [Act.put]
  refine pl_begin ?_
  refine pl_t 19 (.agg zc.toArray) (by rfl) (ex_build (parts := []) rfl rfl (hb0 _)) rfl ?_
  simp only [nz]
  refine pl_t 20 (?_) (by rfl) ?_ rfl ?_
  rotate_left
  ·go_simp
   try with_reducible rfl
  simp only [nz]
  refine pl_store (w' := w4.setCells w.heap.size 0 zc) (by rfl) (ex_put (cs := zc.toArray) rfl rfl rfl (by simpa [hzl] using hT4) (by simpa using hiz) (all_one hz1)) rfl ?_
  refine pl_t 3 (?_) (by rfl) ?_ rfl ?_
  rotate_left
  ·go_simp
   try with_reducible rfl
  simp only [nz]
  refine pl_nil ?_
  have hrs := run_loadVar_mid (P := Tryz.prog) (w4.setCells w.heap.size 0 zc) w.heap.size 0 52 zc _ (World.rangeAt_setCells_same w4 w.heap.size 0 zc (by rw [hzl]; exact hT4)) Tryz.underlying52 rfl hiz
  have HF : Hid (∃ g : Mg, Ending.returned (.tuple #[.agg zc.toArray, .int .i64 f]) = .returned (.tuple #[.agg g.ms.cells.toArray, .int .i64 f]) ∧ g.pure = Mp.none ∧ g.ok ∧ g.At (w4.setCells w.heap.size 0 zc) ∧ g.Bk (fun b => w.heap.size ≤ b) ∧ Below w.heap.size w (w4.setCells w.heap.size 0 zc)) := hide ⟨Mg.none, by rw [hzc.out], rfl, Mg.none_ok, Mg.none_at _, ⟨no_bk, no_bk, no_bk2, no_bk, no_bk, no_bk⟩, B9 zc⟩
  clear HM A9 B9 r4 hT4 hB4 hqq hzc
  go_wp2_with fail
  refine bodyPost_ret (results_ct rfl _ _ _ rfl hrs) rfl ?_
  first | exact HF.out | (rw [if_neg hf]; exact HF.out) | (simp only [if_neg hf]; exact HF.out)
def infoCl0 : List Value := [Value.int .i64 0, .string ⟨#[]⟩] ++ v8 (List.replicate 16 0)
theorem infoCl : (Tryz.prog.info? 69).map (fun i => (i.zero, i.size, i.bytes)) = some (some (.agg infoCl0.toArray), 18, 40) := by kernel_rfl
theorem iszCls : (Tryz.prog.info? 64).map (·.size) = some 1 := by kernel_rfl
theorem zeroClE (w : World) : (zeroValue 69).run Tryz.prog w = .ok (.agg ([Value.int .i64 0] ++ ([Value.string ⟨#[]⟩] ++ v8 (List.replicate 16 0))).toArray) w := by kernel_rfl
set_option maxRecDepth 100000 in
theorem build_cl (n : Int) (b : ByteArray) (t : List Value) (ht : t.length = 16) (w : World) : (Instr.build 69 #[(0, .int .i64 n), (1, .string b), (2, .agg t.toArray)]).run Tryz.prog w = .ok (.agg (.int .i64 n :: .string b :: t).toArray) w :=
 build_fill (zs := [Value.int .i64 0] ++ ([Value.string ⟨#[]⟩] ++ v8 (List.replicate 16 0))) (pl := #[(0, 1), (1, 1), (2, 16)]) (zeroClE w) (by kernel_rfl) (by kernel_rfl) _ _ (fill_three (c1 := [.int .i64 n]) (c2 := [.string b]) rfl rfl rfl rfl rfl rfl rfl rfl ht rfl rfl rfl)
theorem ex_app2 {P : Program} {o : Oper} {a : Act} {w : World} {s x : Operand} {t e : TypeId} {i : TypeInfo} {z : Value} {B cb k : Nat} {v : Value} {n : Nat} {xs u : List Value} (ho : o.op = .call { callee := .builtin .append, args := #[s, x], argTypes := #[t, t] }) (hv : a.eval s = v) (hx : a.eval x = .slice (some ⟨cb, 0, none⟩) 1 1)
    (ht : P.underlying t = some (.slice e)) (hi : P.info? e = some i) (hz : i.zero = some z) (hs : i.size = k) (hb : i.bytes ≤ 1000) (hty : o.type = t)
    (hown : w.ownsRow B e k v n xs) (hB : B ≤ w.heap.size) (hr : w.rangeAt cb 0 u) (hu : u.length = k) (h1 : ∀ y ∈ u, y.oneCell' = true) (hn : n ≤ 1000000000) (hzk : z.cells.size = k) :
    ∃ v' w', (execOp a.eval o).run P w = .ok (.value v') w' ∧ (w'.ownsRow B e k v' (n + 1) (xs ++ u) ∧ w.grownBy w' v.ownBlock ∧ ∀ g, v'.ownBlock = some g → v.ownBlock = some g ∨ w.heap.size ≤ g) := by
  have hsrc : Src P k t (.slice (some ⟨cb, 0, none⟩) 1 1) 1 u w := Src.ofSlice _ ht ⟨cb, 0, none⟩ 1 1 _ (by simpa using hu) (fun j y hy => by have := hr j y hy; rw [Addr.add_mid]; exact this) h1
  obtain ⟨v', w', hrun, ho2, hg, hap⟩ := run_append_own_src2 (P := P) w B t t o.type e i _ k i.bytes ht hi hz hs rfl (by rw [hzk]) v n xs hown _ 1 u hsrc (by unfold maxLen; omega) (Nat.le_trans (Nat.mul_le_mul (show n + 1 ≤ 1000000001 by omega) hb) (by decide)) hB
  exact ⟨v', w', exec_append1 ho hv hx hrun, ho2, hg, fun g hg' => (hap g hg').imp id (fun e => by omega)⟩
theorem own_blk {w w' : World} {B k n : Nat} {t : TypeId} {v : Value} {xs : List Value} (h : w.ownsRow B t k v n xs) (hb : ∀ g, v.ownBlock = some g → w'.heap[g]? = w.heap[g]?) : w'.ownsRow B t k v n xs := by
 refine ⟨h.1, ?_⟩
 rcases h.2 with hn | ⟨g, cap, cur, rfl, hb1, hgg, rest⟩
 ·exact .inl hn
 ·refine .inr ⟨g, cap, cur, rfl, hb1, ?_, rest⟩
  rw [hb g rfl]
  exact hgg
theorem own_cellC {w : World} {B k n : Nat} {t : TypeId} {v : Value} {xs : List Value} (h : w.ownsRow B t k v n xs) : v.cells = #[v] ∧ v.oneCell' = true := by
 rcases h.2 with ⟨rfl, _⟩ | ⟨g, cap, cur, rfl, _⟩ <;> exact ⟨rfl, rfl⟩
structure OutC (w : World) (O : Nat) (v : Value) (cs : List Ev) : Prop where
 lt : O < w.heap.size
 c0 : w.cell? ⟨O, 0, none⟩ = some v
 th : w.there O 0 1
 own : w.ownsRow (O + 1) 69 18 v cs.length (cs.flatMap Ev.cells)
 ok : ∀ c ∈ cs, c.ok
theorem OutC.on {w w' : World} {O : Nat} {v : Value} {cs : List Ev} (h : OutC w O v cs) (hs : w.heap.size ≤ w'.heap.size) (hO : w'.heap[O]? = w.heap[O]?) (hv : ∀ g, v.ownBlock = some g → w'.heap[g]? = w.heap[g]?) : OutC w' O v cs :=
 ⟨Nat.lt_of_lt_of_le h.lt hs, (cell_block hO).1.trans h.c0, there_blk h.th hO, own_blk h.own hv, h.ok⟩
theorem OutC.below {w w' : World} {O : Nat} {v : Value} {cs : List Ev} (h : OutC w O v cs) (hb : Below w.heap.size w w') : OutC w' O v cs :=
 h.on hb.size (hb.block O h.lt) (fun g hg => hb.block g (h.own.lt g hg).2)
structure Grow (w w' : World) (O : Nat) (v v' : Value) : Prop where
 os : w'.os = w.os
 tape : w'.tape = w.tape
 output : w'.output = w.output
 size : w.heap.size ≤ w'.heap.size
 block : ∀ i, i < w.heap.size → i ≠ O → v.ownBlock ≠ some i → w'.heap[i]? = w.heap[i]?
 own : ∀ g, v'.ownBlock = some g → v.ownBlock = some g ∨ w.heap.size ≤ g
theorem Grow.refl (w : World) (O : Nat) (v : Value) : Grow w w O v v := ⟨rfl, rfl, rfl, Nat.le_refl _, fun _ _ _ _ => rfl, fun _ h => .inl h⟩
theorem Grow.of {w w' : World} (hb : Below w.heap.size w w') (O : Nat) (v : Value) : Grow w w' O v v := ⟨hb.os, hb.tape, hb.output, hb.size, fun i hi _ _ => hb.block i hi, fun _ h => .inl h⟩
theorem Grow.trans {a b c : World} {O : Nat} {v v' v'' : Value} (h : Grow a b O v v') (k : Grow b c O v' v'') : Grow a c O v v'' where
 os := k.os.trans h.os
 tape := k.tape.trans h.tape
 output := k.output.trans h.output
 size := Nat.le_trans h.size k.size
 block := fun i hi h1 h2 => (k.block i (Nat.lt_of_lt_of_le hi h.size) h1 (fun e => by
  rcases h.own i e with e | e
  ·exact h2 e
  ·omega)).trans (h.block i hi h1 h2)
 own := fun g hg => by
  rcases k.own g hg with e | e
  ·exact h.own g e
  ·exact .inr (Nat.le_trans h.size e)
def Clr (O : Nat) (v : Value) (b : Nat) : Prop := b ≠ O ∧ v.ownBlock ≠ some b
theorem Grow.keep {w w' : World} {O : Nat} {v v' : Value} (h : Grow w w' O v v') {b : Nat} (hb : b < w.heap.size) (hc : Clr O v b) : w'.heap[b]? = w.heap[b]? ∧ Clr O v' b := by
 refine ⟨h.block b hb hc.1 hc.2, hc.1, fun e => ?_⟩
 rcases h.own b e with e | e
 ·exact hc.2 e
 ·omega
theorem Sl.At.grow {α : Type} {E : El α} {w w' : World} {O : Nat} {v v' : Value} {x : Sl α} (h : x.At E w) (k : Grow w w' O v v') (hb : x.Bk (Clr O v)) : x.At E w' :=
 h.on k.size hb (fun b hP hlt => k.block b hlt hP.1 hP.2)
theorem Sl.Bk.grow {α : Type} {E : El α} {w w' : World} {O : Nat} {v v' : Value} {x : Sl α} (h : x.At E w) (k : Grow w w' O v v') (hb : x.Bk (Clr O v)) : x.Bk (Clr O v') := fun b h1 h2 => by
 rcases h.2.2 with q | ⟨c, off, e, hlt, _⟩
 ·exact absurd q h1
 ·have hc := hb b h1 h2
  rw [e] at h2
  cases h2
  exact (k.keep hlt hc).2
set_option maxRecDepth 100000 in
set_option maxHeartbeats 1000000 in
theorem cadd_any (O : Nat) (v : Value) (cs : List Ev) (e : Ev) (w : World) (h : OutC w O v cs) (he : e.ok) (hn : cs.length ≤ 1000000000) :
  Calls Tryz.prog 52 #[.int .i64 e.n, .string e.s, .agg (v8 e.t).toArray, .pointer (some ⟨O, 0, none⟩)] w fun en w' => en = .returned (.tuple #[]) ∧ ∃ v', OutC w' O v' (cs ++ [e]) ∧ Grow w w' O v v' := by
 obtain ⟨i1, hi1, hiz, his, hib⟩ := info_parts infoCl
 have hzk : (Value.agg (infoCl0).toArray).cells.size = 18 := by decide
 have it16 : (Tryz.prog.info? 23).map (·.size) = some (v8 e.t).length := by rw [v8_length, he.tl]; exact iszT
 have hbc := fun w0 => build_cl e.n e.s (v8 e.t) (by rw [v8_length, he.tl]) w0
 obtain ⟨B1, r1, s1⟩ := boxed_new w (v8 e.t) 23
 have h1 := h.below B1
 have hul : e.cells.length = 18 := EvE.len e he
 have hone : ∀ y ∈ e.cells, y.oneCell' = true := EvE.one e
 have hflat : (cs ++ [e]).flatMap Ev.cells = cs.flatMap Ev.cells ++ e.cells := by simp
 have hok : ∀ c ∈ cs ++ [e], c.ok := fun c hc => by
  rcases List.mem_append.1 hc with hc | hc
  ·exact h.ok c hc
  ·rw [List.mem_singleton.1 hc]; exact he
 have hlen : (cs ++ [e]).length = cs.length + 1 := by simp
 obtain ⟨u, hu⟩ : ∃ u, Hid (e.cells = u) := ⟨_, hide rfl⟩
 have hbc : ∀ w0, (Instr.build 69 #[(0, .int .i64 e.n), (1, .string e.s), (2, .agg (v8 e.t).toArray)]).run Tryz.prog w0 = .ok (.agg u.toArray) w0 := fun w0 => by rw [← hu.out]; exact hbc w0
 rw [hu.out] at hul hone hflat
 obtain ⟨tg, htg⟩ : ∃ t, v8 e.t = t := ⟨_, rfl⟩
 rw [htg] at it16 B1 r1 s1 h1
 simp only [htg] at hbc ⊢
 clear htg
 obtain ⟨id, hid⟩ : ∃ x, e.n = x := ⟨_, rfl⟩
 obtain ⟨bd, hbd⟩ : ∃ x, e.s = x := ⟨_, rfl⟩
 simp only [hid, hbd] at hbc ⊢
 clear hid hbd
 go_enter Tryz.func52, Tryz.ntmps52
 go_upto_region 1 with fail
 obtain ⟨W, hW⟩ : ∃ W, w.alloc (.cells tg.toArray 23) = W := ⟨_, rfl⟩
 rw [hW] at B1 r1 s1 h1 ⊢
 clear hW
 have B2 : Below W.heap.size W (W.alloc (.cells u.toArray 69)) := (Below.refl _ _).alloc (Nat.le_refl _) _
 have r2 : (W.alloc (.cells u.toArray 69)).rangeAt W.heap.size 0 u := by simpa using range_new W u.toArray 69
 have h2 := h1.below B2
 try simp only [Act.put]
 refine pl_begin ?_
 refine pl_t 7 (v) (by rfl) (pl_one rfl rfl h1.c0 Tryz.underlying64 rfl) rfl ?_
 simp only [nz]
 refine pl_t 8 (?_) (by rfl) ?_ rfl ?_
 rotate_left
 ·go_simp
  try with_reducible rfl
 simp only [nz]
 refine pl_t 9 (?_) (by rfl) ?_ rfl ?_
 rotate_left
 ·go_simp
  try with_reducible rfl
 simp only [nz]
 refine pl_t 10 (.agg tg.toArray) (by rfl) (ex_mid rfl rfl r1 Tryz.underlying23 rfl it16) rfl ?_
 simp only [nz]
 refine pl_t 11 (.agg u.toArray) (by rfl) (ex_build (parts := [(0, .tmp 8), (1, .tmp 9), (2, .tmp 10)]) (vs := [(0, .int .i64 id), (1, .string bd), (2, .agg tg.toArray)]) rfl (by first | with_reducible rfl | rfl | simp [Act.eval]) (hbc _)) rfl ?_
 simp only [nz]
 refine pl_run (d := some 12) (v := .slice (some ⟨W.heap.size, 0, none⟩) 1 1) (w' := W.alloc (.cells u.toArray 69)) (by rfl) (exec_bs1 rfl rfl (run_bs1 64 69 i1 _ u Tryz.underlying64 hi1 hiz (by rw [his, hul]) (by omega) (by omega) _)) rfl ?_
 simp only [nz]
 obtain ⟨W2, hW2⟩ : ∃ X, W.alloc (.cells u.toArray 69) = X := ⟨_, rfl⟩
 rw [hW2] at B2 r2 h2 ⊢
 clear hW2
 refine pl_runX (d := some 13) (by rfl) rfl (ex_app2 rfl rfl rfl Tryz.underlying64 hi1 hiz his (by rw [hib]; decide) rfl h2.own (by have := h2.lt; omega) r2 hul hone hn hzk) ?_
 rintro v6 w6 ⟨o6, g6, gb6⟩
 simp only [nz]
 have hv6 := own_cellC o6
 have hX : w6.heap[O]? = W2.heap[O]? := g6.block O h2.lt (fun q => by have := (h2.own.lt O q.symm).1; omega)
 have th6 := there_blk h2.th hX
 refine pl_store (w' := w6.setCells O 0 [v6]) (by rfl) (ex_put1 (n := 1) rfl rfl rfl th6 (by decide) iszCls hv6.1 hv6.2) rfl ?_
 refine pl_nil ?_
 have hoth : ∀ i, i ≠ O → (w6.setCells O 0 [v6]).heap[i]? = w6.heap[i]? := fun i hi => blk_sets hi
 have r7 : (w6.setCells O 0 [v6]).rangeAt O 0 [v6] := World.rangeAt_setCells_same w6 O 0 [v6] th6
 have HO : Hid (OutC (w6.setCells O 0 [v6]) O v6 (cs ++ [e])) := hide ⟨by rw [size_sets]; exact Nat.lt_of_lt_of_le h2.lt g6.size, by simpa using r7 0 _ rfl, World.there_setCells th6 _ _ _, by
  rw [hlen, hflat]
  exact own_blk o6 (fun g hg => hoth g (fun q => by have := (o6.lt g hg).1; omega)), hok⟩
 have HG : Hid (Grow w (w6.setCells O 0 [v6]) O v v6) := hide ⟨(gb_setsR w6 O [v6] 0).os.trans (g6.os.trans (B2.os.trans B1.os)), (gb_setsR w6 O [v6] 0).tape.trans (g6.tape.trans (B2.tape.trans B1.tape)), (gb_setsR w6 O [v6] 0).output.trans (g6.output.trans (B2.output.trans B1.output)), by rw [size_sets]; exact Nat.le_trans B1.size (Nat.le_trans B2.size g6.size), fun i hi h3 h4 => by
  rw [hoth i h3, g6.block i (Nat.lt_of_lt_of_le hi (Nat.le_trans B1.size B2.size)) (fun q => h4 q.symm), B2.block i (Nat.lt_of_lt_of_le hi B1.size), B1.block i hi], fun g hg => (gb6 g hg).imp (fun q => q) (fun q => Nat.le_trans (Nat.le_trans B1.size B2.size) q)⟩
 clear r7 hoth th6 hX hv6 gb6 g6 o6 r2 h2 B2 h1 r1 B1 h hbc
 go_wp2_with fail
 go_end0
 exact ⟨rfl, v6, HO.out, HG.out⟩
theorem infoB : (Tryz.prog.info? 5).map (fun i => (i.zero, i.size, i.bytes)) = some (some (.int .u8 0), 1, 1) := by kernel_rfl
theorem ex_mkB {o : Oper} {a : Act} {w : World} {x : Operand} {B : Nat} {c : Int} (ho : o.op = .makeSlice 59 (.const (.int .i64 0)) x) (hx : a.eval x = .int .i64 c) (h0 : 0 ≤ c) (hc : c ≤ 1000000000) (hB : B ≤ w.heap.size) :
  ∃ v w', (execOp a.eval o).run Tryz.prog w = .ok (.value v) w' ∧ (Mine w' B v [] ∧ Below B w w') := by
 obtain ⟨i, hi, hz, hs, hb⟩ := info_parts infoB
 obtain ⟨n, rfl⟩ : ∃ n : Nat, c = (n : Int) := ⟨c.toNat, by omega⟩
 obtain ⟨w', h1, h2, h3⟩ := run_make_own (P := Tryz.prog) (w := w) B 59 5 i _ 1 Tryz.underlying59 hi hz hs .i64 .i64 n (by rw [hb]; omega) (by unfold maxLen; omega) hB
 refine ⟨_, w', ?_, Mine.mk' [] h2 rfl rfl (fun z hz => absurd hz List.not_mem_nil), (Below.refl _ _).grown h3 hB (fun k hk => by cases hk)⟩
 unfold execOp
 have h4 : a.eval (.const (.int .i64 0)) = .int .i64 0 := rfl
 simp only [ho, hx, h4, Sem.run_bind, h1, Result.andThen_ok, Sem.run_pure]
theorem ex_appM {o : Oper} {a : Act} {w : World} {s x : Operand} {v : Value} {B : Nat} {zs ys : List Int} {b : Option Addr} {cap : Nat} (ho : o.op = .call { callee := .builtin .append, args := #[s, x], argTypes := #[59, 59] }) (hv : a.eval s = v) (hx : a.eval x = .slice b ys.length cap) (hty : o.type = 59)
    (hM : Mine w B v zs) (hr : RowAt w b ys) (hl : zs.length + ys.length ≤ 1000000000) (hB : B ≤ w.heap.size) :
    ∃ v' w', (execOp a.eval o).run Tryz.prog w = .ok (.value v') w' ∧ (Mine w' B v' (zs ++ ys) ∧ Below B w w') := by
  obtain ⟨i, hi, hz, hs, hb⟩ := info_parts infoB
  obtain ⟨v', w', hrun, hown, hgr⟩ := run_append_own_src (P := Tryz.prog) w B 59 59 59 5 i (.int .u8 0) 1 1 Tryz.underlying59 hi hz hs hb rfl v zs.length _ hM.1 (.slice b ys.length cap) ys.length (v8 ys) (hr.src cap) (by unfold maxLen; omega) (by omega) hB
  refine ⟨v', w', exec_append ho hv hx (by rw [hty]; exact hrun), Mine.mk' _ hown (by simp) (by simp [v8]) (fun z hz => ?_), own_low (Below.refl _ _) hB hM.1 hgr⟩
  rcases List.mem_append.1 hz with hz | hz
  · exact hM.2 z hz
  · exact hr.2.1 z hz
theorem evL_len {e : Ev} (h : e.ok) (hs : e.s.size ≤ 100000) : (putL e.n).length ≤ 9 ∧ (textL e.s).length ≤ 100009 ∧ (evL e).length ≤ 100034 := by
 have h1 := putL_len h.nh
 have h2 := @putL_len (e.s.size : Int) (by omega)
 have h3 := h.tl
 refine ⟨h1, ?_, ?_⟩
 ·unfold textL; simp only [List.length_append, strL_length]; omega
 ·unfold evL textL; simp only [List.length_append, strL_length]; omega
theorem row_part {w : World} {b o : Nat} {zs : List Int} (h : w.rangeAt b o (v8 zs)) (hb : b < w.heap.size) (hz : ∀ z ∈ zs, 0 ≤ z ∧ z < 256) (hl : zs.length ≤ maxLen) : RowAt w (some ⟨b, o, none⟩) zs := ⟨hl, hz, .inr ⟨b, o, rfl, hb, h⟩⟩
set_option maxRecDepth 100000 in
set_option maxHeartbeats 2000000 in
theorem eput_any (al : Option Addr) (cap : Nat) (bs : List Int) (e : Ev) (w : World) (h : RowAt w al bs) (hb : bs.length ≤ 100000) (he : e.ok) (hs : e.s.size ≤ 100000) :
  Calls Tryz.prog 17 #[.slice al bs.length cap, .agg e.cells.toArray] w fun en w' => ∃ v, en = .returned v ∧ Mine w' w.heap.size v (bs ++ evL e) ∧ Below w.heap.size w w' := by
 obtain ⟨q1, q2, q3⟩ := evL_len he hs
 have cp := fun w0 => put_any none 0 [] e.n w0 (nil_row w0) (by simp) he.nh
 simp only [List.nil_append, List.length_nil] at cp
 obtain ⟨B1, r1, sA⟩ := boxed_new w e.cells 25
 have c0 : (w.alloc (.cells e.cells.toArray 25)).cell? ⟨w.heap.size, 0, none⟩ = some (.int .i64 e.n) := by have := r1 0 _ rfl; rwa [Nat.zero_add] at this
 have c1 : (w.alloc (.cells e.cells.toArray 25)).cell? ⟨w.heap.size, 1, none⟩ = some (.string e.s) := by have := r1 1 _ rfl; rwa [Nat.zero_add] at this
 have ct : (w.alloc (.cells e.cells.toArray 25)).rangeAt w.heap.size 2 (v8 e.t) := fun j y hy => by
  have := r1 (j + 2) y hy
  rw [show 0 + (j + 2) = 2 + j by omega] at this
  exact this
 have hrow := h.below B1
 have HE : Hid (evL e = putL e.n ++ textL e.s ++ e.t) := hide (by unfold evL; rw [List.append_assoc])
 have htl := he.tl
 have htb := he.tb
 obtain ⟨en, hen⟩ : ∃ x, e.n = x := ⟨_, rfl⟩
 obtain ⟨es, hes⟩ : ∃ x, e.s = x := ⟨_, rfl⟩
 obtain ⟨et, het⟩ : ∃ x, e.t = x := ⟨_, rfl⟩
 rw [hen, hes, het] at HE
 rw [hen] at c0 q1
 rw [hes] at c1 q2 hs
 rw [het] at ct htl htb
 simp only [hen] at cp
 clear hen hes het r1 h
 obtain ⟨EL, hEL⟩ : ∃ l, Hid (evL e = l) := ⟨_, hide rfl⟩
 rw [hEL.out] at HE ⊢
 obtain ⟨q, hq⟩ : ∃ q, Hid (e.cells = q) := ⟨_, hide rfl⟩
 rw [hq.out] at B1 sA c0 c1 ct hrow ⊢
 clear hq hEL q3 he
 obtain ⟨z1, hz1⟩ : ∃ z, Hid (putL en = z) := ⟨_, hide rfl⟩
 obtain ⟨z2, hz2⟩ : ∃ z, Hid (textL es = z) := ⟨_, hide rfl⟩
 simp only [hz1.out] at cp q1 HE
 simp only [hz2.out] at q2 HE
 obtain ⟨zz, hzz⟩ : ∃ z, Hid (z1 ++ textL es = z) := ⟨_, hide rfl⟩
 have hzl : zz.length ≤ 100018 := by rw [← hzz.out, hz2.out, List.length_append]; omega
 obtain ⟨bl, hbl⟩ : ∃ n, bs.length = n := ⟨_, rfl⟩
 go_enter Tryz.func17, Tryz.ntmps17
 go_upto_region 1 with fail
 have hdr : Below (w.alloc (.cells q.toArray 25)).heap.size (w.alloc (.cells q.toArray 25)) (w.alloc (.cells q.toArray 25)).drew := (Below.refl _ _).drew
 have B1 := B1.trans (hdr.mono B1.size)
 have c0 := (hdr.cell (p := ⟨w.heap.size, 0, none⟩) sA).trans c0
 have c1 := (hdr.cell (p := ⟨w.heap.size, 1, none⟩) sA).trans c1
 have ct := range_below ct hdr sA
 have hrow := hrow.below hdr
 have sA := Nat.lt_of_lt_of_le sA hdr.size
 refine hs_begin (S := (Below (w.alloc (.cells q.toArray 25)).drew.heap.size (w.alloc (.cells q.toArray 25)).drew)) 7 rfl (by kernel_rfl) ?_
 obtain ⟨w8, hw8⟩ : ∃ W, (w.alloc (.cells q.toArray 25)).drew = W := ⟨_, rfl⟩
 rw [hw8] at B1 c0 c1 ct hrow sA ⊢
 clear hdr hw8
 obtain ⟨A, hA⟩ : ∃ A, w.heap.size = A := ⟨_, rfl⟩
 rw [hA] at c0 c1 ct sA
 have B1' := hide B1
 have HAA := hide hA
 simp only [hA]
 rw [hA] at B1
 clear hA B1
 have hS : (Below w8.heap.size w8) w8 := Below.refl _ _
 refine hs_t 0 7 (?_) rfl (by kernel_rfl) (by kernel_rfl) (by kernel_rfl) (by rfl) ?_ hS rfl ?_
 rotate_left
 ·intro w' hw
  go_simp
  try with_reducible rfl
 simp only [nz]
 refine hs_t 1 8 (.int .i64 en) rfl (by kernel_rfl) (by kernel_rfl) (by kernel_rfl) (by rfl) (fun w' hw => pl_one rfl rfl ((hw.cell (p := ⟨A, 0, none⟩) sA).trans c0) Tryz.underlying3 rfl) hS rfl ?_
 simp only [nz]
 refine hs_t 3 10 (?_) rfl (by kernel_rfl) (by kernel_rfl) (by kernel_rfl) (by rfl) ?_ hS rfl ?_
 rotate_left
 ·intro w' hw
  go_simp
  try with_reducible rfl
 simp only [nz]
 refine hs_t 4 11 (.string es) rfl (by kernel_rfl) (by kernel_rfl) (by kernel_rfl) (by rfl) (fun w' hw => pl_one rfl rfl ((hw.cell (p := ⟨A, 1, none⟩) sA).trans c1) Tryz.underlying9 rfl) hS rfl ?_
 simp only [nz]
 refine hs_call (i := 2) (d := some 9) rfl (by kernel_rfl) (by rfl) (by go_simp; first | done | exact ⟨rfl, rfl⟩ | with_reducible rfl) rfl ?_
 refine (cp w8).mono ?_
 rintro _ w9 ⟨v9, rfl, m9, hb9⟩
 have hS : (Below w8.heap.size w8) w9 := hS.trans (hb9.mono hS.size)
 obtain ⟨a9, cap9, rfl, -, -, row9⟩ := m9.rowAt (by unfold maxLen; omega)
 refine ⟨_, rfl, hS, ?_⟩
 simp only [nz]
 refine hs_call (i := 5) (d := some 12) rfl (by kernel_rfl) (by rfl) (by go_simp; first | done | exact ⟨rfl, rfl⟩ | with_reducible rfl) rfl ?_
 refine (putText_any a9 cap9 _ es w9 row9 (by omega) (by omega)).mono ?_
 rintro _ wa ⟨va, rfl, ma, hba⟩
 have ma : Mine wa w9.heap.size va zz := by rw [← hzz.out]; exact ma
 have hS : (Below w8.heap.size w8) wa := hS.trans (hba.mono hS.size)
 obtain ⟨aa, capa, rfl, -, -, rowa⟩ := ma.rowAt (by unfold maxLen; omega)
 refine ⟨_, rfl, hS, ?_⟩
 simp only [nz]
 refine hs_t 6 5 (?_) rfl (by kernel_rfl) (by kernel_rfl) (by kernel_rfl) (by rfl) ?_ hS rfl ?_
 rotate_left
 ·intro w' hw
  go_simp
  try with_reducible rfl
 simp only [nz]
 refine hs_done (by kernel_rfl) ?_
 obtain ⟨ol, hol⟩ : ∃ n, zz.length = n := ⟨_, rfl⟩
 have holb : ol ≤ 100018 := by omega
 have hrow := hrow.below hS
 have ct := range_below ct hS sA
 have sA := Nat.lt_of_lt_of_le sA hS.size
 have HB0 := hide (B1'.out.trans (hS.mono B1'.out.size))
 have rowt := row_part ct sA htb (by rw [htl]; unfold maxLen; decide)
 have HR := hide hrow
 have HO := hide rowa
 have HT := hide rowt
 have hb' : bl ≤ 100000 := by rw [← hbl]; exact hb
 have HBL := hide hbl
 have HOL := hide hol
 simp only [hbl, hol]
 have hw1 : IntKind.i64.wrap ((bl : Int) + (ol : Int)) = (bl : Int) + (ol : Int) := by rw [IntKind.wrap_i64]; omega
 have hw2 : IntKind.i64.wrap ((bl : Int) + (ol : Int) + 16) = (bl : Int) + (ol : Int) + 16 := by rw [IntKind.wrap_i64]; omega
 clear hS hb9 hba m9 row9 ma rowa hrow rowt ct cp c0 c1 hbl hol B1'
 go_upto_region 2 with fail
 try simp only [Act.put]
 refine pl_begin ?_
 refine pl_t 13 (?_) (by rfl) ?_ rfl ?_
 rotate_left
 ·go_simp
  try with_reducible rfl
 simp only [nz]
 refine pl_t 14 (?_) (by rfl) ?_ rfl ?_
 rotate_left
 ·go_simp
  try with_reducible rfl
 simp only [nz]
 refine pl_t 15 (?_) (by rfl) ?_ rfl ?_
 rotate_left
 ·go_simp
  try with_reducible rfl
 simp only [nz]
 refine pl_t 16 (?_) (by rfl) ?_ rfl ?_
 rotate_left
 ·go_simp
  try with_reducible rfl
 simp only [nz]
 refine pl_t 17 (.int .i64 ((bl : Int) + (ol : Int))) (by rfl) (by go_simp <;> (try simp [hw1])) rfl ?_
 simp only [nz]
 refine pl_t 18 (.int .i64 ((bl : Int) + (ol : Int) + 16)) (by rfl) (by go_simp <;> (try simp [hw2])) rfl ?_
 simp only [nz]
 refine pl_runX (d := some 19) (by rfl) rfl (ex_mkB (B := wa.heap.size) rfl rfl (by omega) (by omega) (Nat.le_refl _)) ?_
 rintro v1 w1 ⟨m1, hb1⟩
 simp only [nz]
 refine pl_t 6 (?_) (by rfl) ?_ rfl ?_
 rotate_left
 ·go_simp
  try with_reducible rfl
 simp only [nz]
 refine pl_nil ?_
 have r1 : RowAt w1 al bs := HR.out.below hb1
 go_upto_region 3 with fail
 have e1 : Value.slice al bl cap = .slice al bs.length cap := by rw [HBL.out]
 rw [e1]
 try simp only [Act.put]
 refine pl_begin ?_
 refine pl_t 20 (?_) (by rfl) ?_ rfl ?_
 rotate_left
 ·go_simp
  try with_reducible rfl
 simp only [nz]
 refine pl_t 21 (?_) (by rfl) ?_ rfl ?_
 rotate_left
 ·go_simp
  try with_reducible rfl
 simp only [nz]
 refine pl_runX (d := some 22) (by rfl) rfl (ex_appM rfl rfl rfl rfl m1 r1 (by simp only [List.length_nil]; omega) hb1.size) ?_
 rintro v2 w2 ⟨m2, hb2⟩
 simp only [nz]
 refine pl_t 6 (?_) (by rfl) ?_ rfl ?_
 rotate_left
 ·go_simp
  try with_reducible rfl
 simp only [nz]
 refine pl_nil ?_
 have hb2 := hb1.trans hb2
 have r2 : RowAt w2 aa zz := HO.out.below hb2
 have e2 : Value.slice aa ol capa = .slice aa zz.length capa := by rw [HOL.out]
 try rw [e2]
 clear e1 r1 m1 hb1
 go_upto_region 4 with fail
 try simp only [Act.put]
 refine pl_begin ?_
 refine pl_t 23 (?_) (by rfl) ?_ rfl ?_
 rotate_left
 ·go_simp
  try with_reducible rfl
 simp only [nz]
 refine pl_t 24 (?_) (by rfl) ?_ rfl ?_
 rotate_left
 ·go_simp
  try with_reducible rfl
 simp only [nz]
 refine pl_runX (d := some 25) (by rfl) rfl (ex_appM rfl rfl rfl rfl m2 r2 (by rw [HOL.out, List.nil_append, HBL.out]; omega) hb2.size) ?_
 rintro v3 w3 ⟨m3, hb3⟩
 simp only [nz]
 refine pl_t 6 (?_) (by rfl) ?_ rfl ?_
 rotate_left
 ·go_simp
  try with_reducible rfl
 simp only [nz]
 refine pl_nil ?_
 have hb3 := hb2.trans hb3
 have r3 : RowAt w3 (some ⟨A, 2, none⟩) et := HT.out.below hb3
 have e3 : Value.slice (some ⟨A, 2, none⟩) 16 16 = .slice (some ⟨A, 2, none⟩) et.length 16 := by rw [htl]
 clear r2 m2 hb2
 go_upto_region 5 with fail
 try simp only [Act.put]
 refine pl_begin ?_
 refine pl_t 26 (?_) (by rfl) ?_ rfl ?_
 rotate_left
 ·go_simp
  try with_reducible rfl
 simp only [nz]
 refine pl_t 27 (?_) (by rfl) ?_ rfl ?_
 rotate_left
 ·go_simp
  try with_reducible rfl
 simp only [nz]
 refine pl_t 28 (.slice (some ⟨A, 2, none⟩) 16 16) (by rfl) (by go_simp; first | done | with_reducible rfl) rfl ?_
 simp only [nz]
 rw [e3]
 refine pl_runX (d := some 29) (by rfl) rfl (ex_appM rfl rfl rfl rfl m3 r3 (by rw [List.length_append, List.length_append, HOL.out, List.length_nil, HBL.out, htl]; omega) hb3.size) ?_
 rintro v4 w4 ⟨m4, hb4⟩
 simp only [nz]
 refine pl_t 4 (?_) (by rfl) ?_ rfl ?_
 rotate_left
 ·go_simp
  try with_reducible rfl
 simp only [nz]
 refine pl_nil ?_
 have hb4 := hb3.trans hb4
 have HM : Hid (Mine w4 w.heap.size v4 (bs ++ EL)) := hide (by
  have e : [] ++ bs ++ zz ++ et = bs ++ EL := by rw [HE.out, List.nil_append, ← hzz.out, hz2.out, List.append_assoc]
  rw [e] at m4
  exact m4.mono' HB0.out.size)
 have HB := hide (HB0.out.trans (hb4.mono HB0.out.size))
 clear m4 hb4 hb3 m3 r3 e3
 go_wp2_with fail
 go_ret
 exact ⟨_, rfl, HM.out, by first | exact HB.out | (rw [← HAA.out]; exact HB.out)⟩
end Go.Proofs.YtcbpbkefggekmaaGreatDoor
