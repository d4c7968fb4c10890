/- messages, read: kind 5; messages, read: kind 6; messages, read: kind 7; messages, read: kind 8; the program's Decode; the document's fields; the document's fields: kind 0; the document's fields: kind 1; the document's fields: kind 2; the document's fields: kind 3; the document's fields: kind 4; the document's fields: kind 5 -/
import Derived.Test.YtinndbipomlokaaGreatJB0
import Derived.Test.YtinndbipomlokaaGreatJB10
import Derived.Test.YtinndbipomlokaaGreatJB9
namespace Go.Proofs.YtinndbipomlokaaGreat
open Go.RowKit
open Sha Tal
set_option linter.unusedVariables false
set_option linter.unusedSimpArgs false
set_option maxRecDepth 100000 in
set_option maxHeartbeats 1000000 in
theorem rmsgK5 (Q R : Nat) (s : Rst) (w : World) (h : RS w Q R s) (hl : s.1.length ≤ 40000) (hk : (kiS 8 s).1 = 5) : Calls Tryz.prog 112 #[.pointer (some ⟨Q, 0, none⟩)] w fun en w' => ∃ m : Mg, en = .returned (.agg m.ms.cells.toArray) ∧ m.pure = (mg5 (kiS 8 s).2).1 ∧ m.ok ∧ m.At w' ∧ m.Bk (fun b => w.heap.size ≤ b) ∧ RS w' Q R (mg5 (kiS 8 s).2).2 ∧ Kept w R Q w' := by
 have hRw := h.st.1.1
 have hQw := h.mr.lt
 have ck := fun w0 h0 => kindRS Q R 8 s w0 h0
 have l0 := kiS_len 8 s
 unfold mg5
 generalize kiS 8 s = p_ at ck l0 hk ⊢
 obtain ⟨k, s0⟩ := p_
 simp only at ck l0 hk ⊢
 subst hk
 have c_a := fun w0 h0 => numRS Q R 1048576 s0 w0 h0
 have l_a : (nuS 1048576 s0).2.1.length ≤ s0.1.length := nuS_len _ _
 generalize nuS 1048576 s0 = p_ at c_a l_a ⊢
 obtain ⟨v_a, s_a⟩ := p_
 simp only at c_a l_a ⊢
 have c_b := fun w0 h0 => digRS Q R s_a w0 h0 (by omega)
 have l_b : (dgS s_a).2.1.length ≤ s_a.1.length := dgS_len _
 have ok_b := fun hb => dgS_ok s_a hb
 generalize dgS s_a = p_ at c_b l_b ok_b ⊢
 obtain ⟨v_b, s_b⟩ := p_
 simp only at c_b l_b ok_b ⊢
 obtain ⟨zc, hzl, hzr⟩ : ∃ z : List Value, z.length = 119 ∧ ∀ w : World, (zeroValue 63).run Tryz.prog w = .ok (.agg z.toArray) w := ⟨_, (Ms.plain_ok 0 0 0 Vt.zero_ok zeros32_len zeros32_byte).len, zeroM⟩
 have hbk := build_kind 5
 have hql := (ms0_ok 5).len
 have hq1 := (ms0_ok 5).one
 have hiq : (Tryz.prog.info? 63).map (·.size) = some (Ms.plain 5 0 0 Vt.zero zeros32).cells.length := by rw [hql]; exact iszM
 have hk0 : ∀ (w' : World) b, w'.rangeAt b 0 (Ms.plain 5 0 0 Vt.zero zeros32).cells → w'.cell? ⟨b, 0, none⟩ = some (.int .i64 5) := fun w' b h => ((ms0_ok 5).at h).k
 obtain ⟨qk, hqk⟩ : ∃ q, Hid ((Ms.plain 5 0 0 Vt.zero zeros32).cells = q) := ⟨_, hide rfl⟩
 simp only [hqk.out] at hbk hql hq1 hiq hk0
 obtain ⟨hB1, hr1, hs1⟩ := boxed_new w zc 63
 have ht1 := there_newN w zc.toArray 63 (n := 119) (by simp [hzl])
 go_enter Tryz.func112, Tryz.ntmps112
 go_upto_region 0 with fail
 try simp only [Act.put]
 refine pl_begin ?_
 refine pl_run (d := some 2) (v := .pointer (some ⟨w.heap.size, 0, none⟩)) (w' := w.alloc (.cells zc.toArray 63)) (by rfl) (ex_alloc rfl (hzr _)) rfl ?_
 simp only [nz]
 refine pl_nil ?_
 obtain ⟨W1, hW1⟩ : ∃ W, w.alloc (.cells zc.toArray 63) = W := ⟨_, rfl⟩
 rw [hW1] at hB1 hr1 hs1 ht1 ⊢
 clear hW1 hr1
 have S1 := h.below hB1
 go_upto_region 1 with fail
 try simp only [Act.put]
 refine pl_begin ?_
 refine pl_t 4 (?_) (by rfl) ?_ rfl ?_
 rotate_left
 ·go_simp
  try with_reducible rfl
 simp only [nz]
 refine pl_call (d := some 5) (by rfl) (by go_simp; first | done | exact ⟨rfl, rfl⟩ | with_reducible rfl) rfl ?_
 refine (ck W1 S1).mono ?_
 rintro _ w2 ⟨rfl, S2, k2⟩
 refine ⟨_, rfl, ?_⟩
 simp only [nz]
 refine pl_t 6 (.agg qk.toArray) (by rfl) (ex_build (parts := [(0, .tmp 5)]) rfl rfl (hbk _)) rfl ?_
 simp only [nz]
 refine pl_run (d := some 3) (v := .pointer (some ⟨w2.heap.size, 0, none⟩)) (w' := w2.alloc (.cells zc.toArray 63)) (by rfl) (ex_alloc rfl (hzr _)) rfl ?_
 simp only [nz]
 refine pl_store (w' := (w2.alloc (.cells zc.toArray 63)).setCells w2.heap.size 0 qk) (by rfl) (ex_put (cs := qk.toArray) rfl rfl rfl (there_newN _ _ _ (by simp [hzl, hql])) (by simpa using hiq) (all_one hq1)) rfl ?_
 refine pl_nil ?_
 obtain ⟨hF1, hF2, hF3, -⟩ := fresh_store w2 zc.toArray 63 qk (by simp [hzl, hql])
 have hF4 := World.there_setCells (there_newN w2 zc.toArray 63 (n := 119) (by simp [hzl])) w2.heap.size 0 qk
 obtain ⟨w3, hw3⟩ : ∃ W, (w2.alloc (.cells zc.toArray 63)).setCells w2.heap.size 0 qk = W := ⟨_, rfl⟩
 rw [hw3] at hF1 hF2 hF3 hF4 ⊢
 clear hw3
 have hc0 := hk0 _ _ hF1
 have k3 : Kept w R Q w3 := (((Kept.refl w R Q).below hB1).trans k2).below hF2
 have z2 := k2.size
 rw [← hqk.out] at hF1
 have V3 : MV w Q R w.heap.size w2.heap.size 119 (Ms.plain 5 0 0 Vt.zero zeros32).cells s0 w3 := ⟨hF1, hF4, there_below (there_blk ht1 (k2.block _ hs1 (by omega) (by omega))) hF2 (by omega), k3, S2.below hF2, by have := hF2.size; omega, by omega, Nat.le_refl _, by have := hB1.size; omega, by omega, hRw, hQw⟩
 have hww : w.heap.size < w2.heap.size := by omega
 clear hF1 hF2 hF4 ht1 hB1 S1 S2 k2 k3 hk0 hbk hql hq1 hiq hqk h ck hzr hzl
 go_upto_region 2 with fail
 try simp only [Act.put]
 refine pl_begin ?_
 refine pl_t 7 (?_) (by rfl) ?_ rfl ?_
 rotate_left
 ·go_simp
  try with_reducible rfl
 simp only [nz]
 refine pl_t 8 (.int .i64 5) (by rfl) (pl_one rfl rfl hc0 Tryz.underlying3 rfl) rfl ?_
 simp only [nz]
 refine pl_nil ?_
 clear hc0
 go_upto_region 14 with fail
 try simp only [Act.put]
 refine pl_begin ?_
 refine pl_t 70 (?_) (by rfl) ?_ rfl ?_
 rotate_left
 ·go_simp
  try with_reducible rfl
 simp only [nz]
 refine pl_t 71 (?_) (by rfl) ?_ rfl ?_
 rotate_left
 ·go_simp
  try with_reducible rfl
 simp only [nz]
 refine pl_t 72 (?_) (by rfl) ?_ rfl ?_
 rotate_left
 ·go_simp
  try with_reducible rfl
 simp only [nz]
 refine pl_t 73 (.pointer (some ⟨R, 0, none⟩)) (by rfl) (pl_one rfl rfl V3.rs.mr.c0 Tryz.underlying72 rfl) rfl ?_
 simp only [nz]
 refine pl_call (d := some 74) (by rfl) (by go_simp; first | done | exact ⟨rfl, rfl⟩ | with_reducible rfl) rfl ?_
 refine (c_a w3 V3.rs).mono ?_
 rintro _ w5 ⟨rfl, S5, k5⟩
 refine ⟨_, rfl, ?_⟩
 simp only [nz]
 refine pl_t 75 (?_) (by rfl) ?_ rfl ?_
 rotate_left
 ·go_simp
  try with_reducible rfl
 simp only [nz]
 refine pl_call (d := some 76) (by rfl) (by go_simp; first | done | exact ⟨rfl, rfl⟩ | with_reducible rfl) rfl ?_
 refine (c_b w5 S5).mono ?_
 rintro _ w6 ⟨rfl, S6, k6⟩
 refine ⟨_, rfl, ?_⟩
 simp only [nz]
 refine pl_t 77 (?_) (by rfl) ?_ rfl ?_
 rotate_left
 ·go_simp
  try with_reducible rfl
 simp only [nz]
 have hd := ok_b S5.st.bs
 have V6 := (V3.on k5 S5).on k6 S6
 have Va := V6.set 1 [.int .i64 v_a] (put_e v_a V6.row (V6.part 1 1 (by decide)))
 refine pl_store (w' := w6.setCells w2.heap.size 1 [.int .i64 v_a]) (by rfl) (ex_put1 (n := 119) rfl rfl rfl V6.box (by decide) iszI rfl rfl) rfl ?_
 obtain ⟨wd, hwd⟩ : ∃ W, w6.setCells w2.heap.size 1 [.int .i64 v_a] = W := ⟨_, rfl⟩
 rw [hwd] at Va ⊢
 clear hwd
 refine pl_t 78 (?_) (by rfl) ?_ rfl ?_
 rotate_left
 ·go_simp
  try with_reducible rfl
 simp only [nz]
 have Ve := Va.set 48 (v8 v_b) (put_d v_b hd.1 zeros32_len Vt.zero_ok Va.row (Va.part 48 32 (by decide)))
 have hdl : (v8 v_b).length = 32 := by rw [v8_length]; exact hd.1
 refine pl_store (w' := wd.setCells w2.heap.size 48 (v8 v_b)) (by rfl) (ex_put (cs := (v8 v_b).toArray) rfl rfl rfl (by simpa [hdl] using Va.part 48 32 (by decide)) (by simpa [hdl] using iszD) (all_one (v8_one v_b))) rfl ?_
 refine pl_nil ?_
 obtain ⟨we, hwe⟩ : ∃ W, wd.setCells w2.heap.size 48 (v8 v_b) = W := ⟨_, rfl⟩
 rw [hwe] at Ve ⊢
 clear hwe
 clear Va V6 V3 S5 S6 k5 k6
 have rpc := Ve.row
 have hmo : Mg.ok ⟨5, v_a, 0, 0, 0, false, ⟨none, 0, []⟩, Vt.zero, 0, 0, 0, ⟨none, 0, []⟩, ⟨none, 0, []⟩, v_b, Vt.zero, ⟨none, 0, []⟩, ⟨#[]⟩, ⟨none, 0, []⟩⟩ := ⟨Vt.zero_ok, Vt.zero_ok, hd.1, hd.2⟩
 have hpl : (Mg.ms ⟨5, v_a, 0, 0, 0, false, ⟨none, 0, []⟩, Vt.zero, 0, 0, 0, ⟨none, 0, []⟩, ⟨none, 0, []⟩, v_b, Vt.zero, ⟨none, 0, []⟩, ⟨#[]⟩, ⟨none, 0, []⟩⟩).cells.length = 119 := hmo.ms.len
 have hp1 := hmo.ms.one
 have hip : (Tryz.prog.info? 63).map (·.size) = some (Mg.ms ⟨5, v_a, 0, 0, 0, false, ⟨none, 0, []⟩, Vt.zero, 0, 0, 0, ⟨none, 0, []⟩, ⟨none, 0, []⟩, v_b, Vt.zero, ⟨none, 0, []⟩, ⟨#[]⟩, ⟨none, 0, []⟩⟩).cells.length := by rw [hpl]; exact iszM
 have rpc : we.rangeAt w2.heap.size 0 (Mg.ms ⟨5, v_a, 0, 0, 0, false, ⟨none, 0, []⟩, Vt.zero, 0, 0, 0, ⟨none, 0, []⟩, ⟨none, 0, []⟩, v_b, Vt.zero, ⟨none, 0, []⟩, ⟨#[]⟩, ⟨none, 0, []⟩⟩).cells := rpc
 obtain ⟨pc, hpc⟩ : ∃ p, Hid ((Mg.ms ⟨5, v_a, 0, 0, 0, false, ⟨none, 0, []⟩, Vt.zero, 0, 0, 0, ⟨none, 0, []⟩, ⟨none, 0, []⟩, v_b, Vt.zero, ⟨none, 0, []⟩, ⟨#[]⟩, ⟨none, 0, []⟩⟩).cells = p) := ⟨_, hide rfl⟩
 simp only [hpc.out] at hpl hip hp1 rpc
 go_upto_region 22 with fail
 try simp only [Act.put]
 refine pl_begin ?_
 refine pl_t 121 (.agg pc.toArray) (by rfl) (ex_mid rfl rfl rpc Tryz.underlying63 rfl hip) rfl ?_
 simp only [nz]
 refine pl_store (w' := we.setCells w.heap.size 0 pc) (by rfl) (ex_put (cs := pc.toArray) rfl rfl rfl (by simpa [hpl] using Ve.ans) (by simpa using hip) (all_one hp1)) rfl ?_
 refine pl_nil ?_
 have hlow : Below w.heap.size we (we.setCells w.heap.size 0 pc) := below_sets (Nat.le_refl _) pc 0 _ (Below.refl _ we)
 have hrs := run_loadVar_mid (P := Tryz.prog) (we.setCells w.heap.size 0 pc) w.heap.size 0 63 pc _ (World.rangeAt_setCells_same we w.heap.size 0 pc (by rw [hpl]; exact Ve.ans)) Tryz.underlying63 rfl hip
 have HF : Hid (∃ m : Mg, Ending.returned (.agg pc.toArray) = .returned (.agg m.ms.cells.toArray) ∧ m.pure = (⟨5, v_a, 0, 0, 0, false, [], Vt.zero, 0, 0, 0, [], [], v_b, Vt.zero, [], ⟨#[]⟩, []⟩ : Mp) ∧ m.ok ∧ m.At (we.setCells w.heap.size 0 pc) ∧ m.Bk (fun b => w.heap.size ≤ b) ∧ RS (we.setCells w.heap.size 0 pc) Q R s_b ∧ Kept w R Q (we.setCells w.heap.size 0 pc)) := hide ⟨⟨5, v_a, 0, 0, 0, false, ⟨none, 0, []⟩, Vt.zero, 0, 0, 0, ⟨none, 0, []⟩, ⟨none, 0, []⟩, v_b, Vt.zero, ⟨none, 0, []⟩, ⟨#[]⟩, ⟨none, 0, []⟩⟩, by rw [hpc.out], rfl, hmo, mg0_at RowsAt.none hds_none RowsAt.none RowsAt.none RowsAt.none, ⟨no_bk, no_bk, no_bk2, no_bk, no_bk, no_bk⟩, Ve.rs.low hlow hQw, Ve.kept.low hlow (Nat.le_refl _)⟩
 clear Ve hlow rpc hpc hmo 
 go_wp2_with fail
 refine bodyPost_ret (v := .agg pc.toArray) ?_ rfl ?_
 ·simp [results, Tryz.results112, Act.put, asAddr, hrs]
 ·exact HF.out
set_option maxRecDepth 100000 in
set_option maxHeartbeats 1000000 in
theorem rmsgK6 (Q R : Nat) (s : Rst) (w : World) (h : RS w Q R s) (hl : s.1.length ≤ 40000) (hk : (kiS 8 s).1 = 6) : Calls Tryz.prog 112 #[.pointer (some ⟨Q, 0, none⟩)] w fun en w' => ∃ m : Mg, en = .returned (.agg m.ms.cells.toArray) ∧ m.pure = (mg6 (kiS 8 s).2).1 ∧ m.ok ∧ m.At w' ∧ m.Bk (fun b => w.heap.size ≤ b) ∧ RS w' Q R (mg6 (kiS 8 s).2).2 ∧ Kept w R Q w' := by
 have hRw := h.st.1.1
 have hQw := h.mr.lt
 have ck := fun w0 h0 => kindRS Q R 8 s w0 h0
 have l0 := kiS_len 8 s
 unfold mg6
 generalize kiS 8 s = p_ at ck l0 hk ⊢
 obtain ⟨k, s0⟩ := p_
 simp only at ck l0 hk ⊢
 subst hk
 have c_a := fun w0 h0 => numRS Q R 1048576 s0 w0 h0
 have l_a : (nuS 1048576 s0).2.1.length ≤ s0.1.length := nuS_len _ _
 generalize nuS 1048576 s0 = p_ at c_a l_a ⊢
 obtain ⟨v_a, s_a⟩ := p_
 simp only at c_a l_a ⊢
 have c_b := fun w0 h0 => numRS Q R 1099511627776 s_a w0 h0
 have l_b : (nuS 1099511627776 s_a).2.1.length ≤ s_a.1.length := nuS_len _ _
 generalize nuS 1099511627776 s_a = p_ at c_b l_b ⊢
 obtain ⟨v_b, s_b⟩ := p_
 simp only at c_b l_b ⊢
 obtain ⟨zc, hzl, hzr⟩ : ∃ z : List Value, z.length = 119 ∧ ∀ w : World, (zeroValue 63).run Tryz.prog w = .ok (.agg z.toArray) w := ⟨_, (Ms.plain_ok 0 0 0 Vt.zero_ok zeros32_len zeros32_byte).len, zeroM⟩
 have hbk := build_kind 6
 have hql := (ms0_ok 6).len
 have hq1 := (ms0_ok 6).one
 have hiq : (Tryz.prog.info? 63).map (·.size) = some (Ms.plain 6 0 0 Vt.zero zeros32).cells.length := by rw [hql]; exact iszM
 have hk0 : ∀ (w' : World) b, w'.rangeAt b 0 (Ms.plain 6 0 0 Vt.zero zeros32).cells → w'.cell? ⟨b, 0, none⟩ = some (.int .i64 6) := fun w' b h => ((ms0_ok 6).at h).k
 obtain ⟨qk, hqk⟩ : ∃ q, Hid ((Ms.plain 6 0 0 Vt.zero zeros32).cells = q) := ⟨_, hide rfl⟩
 simp only [hqk.out] at hbk hql hq1 hiq hk0
 obtain ⟨hB1, hr1, hs1⟩ := boxed_new w zc 63
 have ht1 := there_newN w zc.toArray 63 (n := 119) (by simp [hzl])
 go_enter Tryz.func112, Tryz.ntmps112
 go_upto_region 0 with fail
 try simp only [Act.put]
 refine pl_begin ?_
 refine pl_run (d := some 2) (v := .pointer (some ⟨w.heap.size, 0, none⟩)) (w' := w.alloc (.cells zc.toArray 63)) (by rfl) (ex_alloc rfl (hzr _)) rfl ?_
 simp only [nz]
 refine pl_nil ?_
 obtain ⟨W1, hW1⟩ : ∃ W, w.alloc (.cells zc.toArray 63) = W := ⟨_, rfl⟩
 rw [hW1] at hB1 hr1 hs1 ht1 ⊢
 clear hW1 hr1
 have S1 := h.below hB1
 go_upto_region 1 with fail
 try simp only [Act.put]
 refine pl_begin ?_
 refine pl_t 4 (?_) (by rfl) ?_ rfl ?_
 rotate_left
 ·go_simp
  try with_reducible rfl
 simp only [nz]
 refine pl_call (d := some 5) (by rfl) (by go_simp; first | done | exact ⟨rfl, rfl⟩ | with_reducible rfl) rfl ?_
 refine (ck W1 S1).mono ?_
 rintro _ w2 ⟨rfl, S2, k2⟩
 refine ⟨_, rfl, ?_⟩
 simp only [nz]
 refine pl_t 6 (.agg qk.toArray) (by rfl) (ex_build (parts := [(0, .tmp 5)]) rfl rfl (hbk _)) rfl ?_
 simp only [nz]
 refine pl_run (d := some 3) (v := .pointer (some ⟨w2.heap.size, 0, none⟩)) (w' := w2.alloc (.cells zc.toArray 63)) (by rfl) (ex_alloc rfl (hzr _)) rfl ?_
 simp only [nz]
 refine pl_store (w' := (w2.alloc (.cells zc.toArray 63)).setCells w2.heap.size 0 qk) (by rfl) (ex_put (cs := qk.toArray) rfl rfl rfl (there_newN _ _ _ (by simp [hzl, hql])) (by simpa using hiq) (all_one hq1)) rfl ?_
 refine pl_nil ?_
 obtain ⟨hF1, hF2, hF3, -⟩ := fresh_store w2 zc.toArray 63 qk (by simp [hzl, hql])
 have hF4 := World.there_setCells (there_newN w2 zc.toArray 63 (n := 119) (by simp [hzl])) w2.heap.size 0 qk
 obtain ⟨w3, hw3⟩ : ∃ W, (w2.alloc (.cells zc.toArray 63)).setCells w2.heap.size 0 qk = W := ⟨_, rfl⟩
 rw [hw3] at hF1 hF2 hF3 hF4 ⊢
 clear hw3
 have hc0 := hk0 _ _ hF1
 have k3 : Kept w R Q w3 := (((Kept.refl w R Q).below hB1).trans k2).below hF2
 have z2 := k2.size
 rw [← hqk.out] at hF1
 have V3 : MV w Q R w.heap.size w2.heap.size 119 (Ms.plain 6 0 0 Vt.zero zeros32).cells s0 w3 := ⟨hF1, hF4, there_below (there_blk ht1 (k2.block _ hs1 (by omega) (by omega))) hF2 (by omega), k3, S2.below hF2, by have := hF2.size; omega, by omega, Nat.le_refl _, by have := hB1.size; omega, by omega, hRw, hQw⟩
 have hww : w.heap.size < w2.heap.size := by omega
 clear hF1 hF2 hF4 ht1 hB1 S1 S2 k2 k3 hk0 hbk hql hq1 hiq hqk h ck hzr hzl
 go_upto_region 2 with fail
 try simp only [Act.put]
 refine pl_begin ?_
 refine pl_t 7 (?_) (by rfl) ?_ rfl ?_
 rotate_left
 ·go_simp
  try with_reducible rfl
 simp only [nz]
 refine pl_t 8 (.int .i64 6) (by rfl) (pl_one rfl rfl hc0 Tryz.underlying3 rfl) rfl ?_
 simp only [nz]
 refine pl_nil ?_
 clear hc0
 go_upto_region 16 with fail
 have V8 := V3.drew
 refine hs_begin (S := (fun W' => W'.cell? ⟨Q, 0, none⟩ = some (.pointer (some ⟨R, 0, none⟩)))) 14 rfl (by kernel_rfl) ?_
 obtain ⟨w8, hw8⟩ : ∃ W, w3.drew = W := ⟨_, rfl⟩
 rw [hw8] at V8 ⊢
 clear hw8 V3
 have hS : (fun W' => W'.cell? ⟨Q, 0, none⟩ = some (.pointer (some ⟨R, 0, none⟩))) w8 := V8.rs.mr.c0
 refine hs_t 0 81 (?_) rfl (by kernel_rfl) (by kernel_rfl) (by kernel_rfl) (by rfl) ?_ hS rfl ?_
 rotate_left
 ·intro w' hw
  go_simp
  try with_reducible rfl
 simp only [nz]
 refine hs_t 1 82 (?_) rfl (by kernel_rfl) (by kernel_rfl) (by kernel_rfl) (by rfl) ?_ hS rfl ?_
 rotate_left
 ·intro w' hw
  go_simp
  try with_reducible rfl
 simp only [nz]
 refine hs_t 2 83 (?_) rfl (by kernel_rfl) (by kernel_rfl) (by kernel_rfl) (by rfl) ?_ hS rfl ?_
 rotate_left
 ·intro w' hw
  go_simp
  try with_reducible rfl
 simp only [nz]
 refine hs_t 3 84 (.pointer (some ⟨R, 0, none⟩)) rfl (by kernel_rfl) (by kernel_rfl) (by kernel_rfl) (by rfl) (fun w' hw => pl_one rfl rfl hw Tryz.underlying72 rfl) hS rfl ?_
 simp only [nz]
 refine hs_t 5 86 (?_) rfl (by kernel_rfl) (by kernel_rfl) (by kernel_rfl) (by rfl) ?_ hS rfl ?_
 rotate_left
 ·intro w' hw
  go_simp
  try with_reducible rfl
 simp only [nz]
 refine hs_t 6 87 (?_) rfl (by kernel_rfl) (by kernel_rfl) (by kernel_rfl) (by rfl) ?_ hS rfl ?_
 rotate_left
 ·intro w' hw
  go_simp
  try with_reducible rfl
 simp only [nz]
 refine hs_t 7 88 (?_) rfl (by kernel_rfl) (by kernel_rfl) (by kernel_rfl) (by rfl) ?_ hS rfl ?_
 rotate_left
 ·intro w' hw
  go_simp
  try with_reducible rfl
 simp only [nz]
 refine hs_t 8 89 (.pointer (some ⟨R, 0, none⟩)) rfl (by kernel_rfl) (by kernel_rfl) (by kernel_rfl) (by rfl) (fun w' hw => pl_one rfl rfl hw Tryz.underlying72 rfl) hS rfl ?_
 simp only [nz]
 refine hs_call (i := 4) (d := some 85) rfl (by kernel_rfl) (by rfl) (by go_simp; first | done | exact ⟨rfl, rfl⟩ | with_reducible rfl) rfl ?_
 refine (c_a w8 V8.rs).mono ?_
 rintro _ w5 ⟨rfl, S5, k5⟩
 have hS : (fun W' => W'.cell? ⟨Q, 0, none⟩ = some (.pointer (some ⟨R, 0, none⟩))) w5 := S5.mr.c0
 refine ⟨_, rfl, hS, ?_⟩
 simp only [nz]
 refine hs_t 10 91 (?_) rfl (by kernel_rfl) (by kernel_rfl) (by kernel_rfl) (by rfl) ?_ hS rfl ?_
 rotate_left
 ·intro w' hw
  go_simp
  try with_reducible rfl
 simp only [nz]
 refine hs_call (i := 9) (d := some 90) rfl (by kernel_rfl) (by rfl) (by go_simp; first | done | exact ⟨rfl, rfl⟩ | with_reducible rfl) rfl ?_
 refine (c_b w5 S5).mono ?_
 rintro _ w6 ⟨rfl, S6, k6⟩
 have hS : (fun W' => W'.cell? ⟨Q, 0, none⟩ = some (.pointer (some ⟨R, 0, none⟩))) w6 := S6.mr.c0
 refine ⟨_, rfl, hS, ?_⟩
 simp only [nz]
 have V_0 := ((V8.on k5 S5).on k6 S6)
 have V_1 := V_0.set 1 [.int .i64 v_a] (put_e v_a V_0.row (V_0.part 1 1 (by decide)))
 refine hs_store (i := 11) (w' := w6.setCells w2.heap.size 1 [.int .i64 v_a]) rfl (by kernel_rfl) (by rfl) (ex_put1 (n := 119) rfl rfl rfl V_0.box (by decide) iszI rfl rfl) rfl V_1.rs.mr.c0 ?_
 obtain ⟨w_11, hw_11⟩ : ∃ W, w6.setCells w2.heap.size 1 [.int .i64 v_a] = W := ⟨_, rfl⟩
 rw [hw_11] at V_1 ⊢
 clear hw_11
 have hS : (fun W' => W'.cell? ⟨Q, 0, none⟩ = some (.pointer (some ⟨R, 0, none⟩))) w_11 := V_1.rs.mr.c0
 refine hs_t 12 92 (?_) rfl (by kernel_rfl) (by kernel_rfl) (by kernel_rfl) (by rfl) ?_ hS rfl ?_
 rotate_left
 ·intro w' hw
  go_simp
  try with_reducible rfl
 simp only [nz]
 have V_2 := V_1.set 4 [.int .i64 v_b] (put_s v_b V_1.row (V_1.part 4 1 (by decide)))
 refine hs_store (i := 13) (w' := w_11.setCells w2.heap.size 4 [.int .i64 v_b]) rfl (by kernel_rfl) (by rfl) (ex_put1 (n := 119) rfl rfl rfl V_1.box (by decide) iszI rfl rfl) rfl V_2.rs.mr.c0 ?_
 obtain ⟨w_13, hw_13⟩ : ∃ W, w_11.setCells w2.heap.size 4 [.int .i64 v_b] = W := ⟨_, rfl⟩
 rw [hw_13] at V_2 ⊢
 clear hw_13
 have hS : (fun W' => W'.cell? ⟨Q, 0, none⟩ = some (.pointer (some ⟨R, 0, none⟩))) w_13 := V_2.rs.mr.c0
 refine hs_done (by kernel_rfl) ?_
 clear hS V8 S5 k5 S6 k6 V_0 V_1 c_a c_b
 have Ve := V_2
 have rpc := Ve.row
 have hmo : Mg.ok ⟨6, v_a, 0, 0, v_b, false, ⟨none, 0, []⟩, Vt.zero, 0, 0, 0, ⟨none, 0, []⟩, ⟨none, 0, []⟩, zeros32, Vt.zero, ⟨none, 0, []⟩, ⟨#[]⟩, ⟨none, 0, []⟩⟩ := ⟨Vt.zero_ok, Vt.zero_ok, zeros32_len, zeros32_byte⟩
 have hpl : (Mg.ms ⟨6, v_a, 0, 0, v_b, false, ⟨none, 0, []⟩, Vt.zero, 0, 0, 0, ⟨none, 0, []⟩, ⟨none, 0, []⟩, zeros32, Vt.zero, ⟨none, 0, []⟩, ⟨#[]⟩, ⟨none, 0, []⟩⟩).cells.length = 119 := hmo.ms.len
 have hp1 := hmo.ms.one
 have hip : (Tryz.prog.info? 63).map (·.size) = some (Mg.ms ⟨6, v_a, 0, 0, v_b, false, ⟨none, 0, []⟩, Vt.zero, 0, 0, 0, ⟨none, 0, []⟩, ⟨none, 0, []⟩, zeros32, Vt.zero, ⟨none, 0, []⟩, ⟨#[]⟩, ⟨none, 0, []⟩⟩).cells.length := by rw [hpl]; exact iszM
 have rpc : w_13.rangeAt w2.heap.size 0 (Mg.ms ⟨6, v_a, 0, 0, v_b, false, ⟨none, 0, []⟩, Vt.zero, 0, 0, 0, ⟨none, 0, []⟩, ⟨none, 0, []⟩, zeros32, Vt.zero, ⟨none, 0, []⟩, ⟨#[]⟩, ⟨none, 0, []⟩⟩).cells := rpc
 obtain ⟨pc, hpc⟩ : ∃ p, Hid ((Mg.ms ⟨6, v_a, 0, 0, v_b, false, ⟨none, 0, []⟩, Vt.zero, 0, 0, 0, ⟨none, 0, []⟩, ⟨none, 0, []⟩, zeros32, Vt.zero, ⟨none, 0, []⟩, ⟨#[]⟩, ⟨none, 0, []⟩⟩).cells = p) := ⟨_, hide rfl⟩
 simp only [hpc.out] at hpl hip hp1 rpc
 go_upto_region 22 with fail
 try simp only [Act.put]
 refine pl_begin ?_
 refine pl_t 121 (.agg pc.toArray) (by rfl) (ex_mid rfl rfl rpc Tryz.underlying63 rfl hip) rfl ?_
 simp only [nz]
 refine pl_store (w' := w_13.setCells w.heap.size 0 pc) (by rfl) (ex_put (cs := pc.toArray) rfl rfl rfl (by simpa [hpl] using Ve.ans) (by simpa using hip) (all_one hp1)) rfl ?_
 refine pl_nil ?_
 have hlow : Below w.heap.size w_13 (w_13.setCells w.heap.size 0 pc) := below_sets (Nat.le_refl _) pc 0 _ (Below.refl _ w_13)
 have hrs := run_loadVar_mid (P := Tryz.prog) (w_13.setCells w.heap.size 0 pc) w.heap.size 0 63 pc _ (World.rangeAt_setCells_same w_13 w.heap.size 0 pc (by rw [hpl]; exact Ve.ans)) Tryz.underlying63 rfl hip
 have HF : Hid (∃ m : Mg, Ending.returned (.agg pc.toArray) = .returned (.agg m.ms.cells.toArray) ∧ m.pure = (⟨6, v_a, 0, 0, v_b, false, [], Vt.zero, 0, 0, 0, [], [], zeros32, Vt.zero, [], ⟨#[]⟩, []⟩ : Mp) ∧ m.ok ∧ m.At (w_13.setCells w.heap.size 0 pc) ∧ m.Bk (fun b => w.heap.size ≤ b) ∧ RS (w_13.setCells w.heap.size 0 pc) Q R s_b ∧ Kept w R Q (w_13.setCells w.heap.size 0 pc)) := hide ⟨⟨6, v_a, 0, 0, v_b, false, ⟨none, 0, []⟩, Vt.zero, 0, 0, 0, ⟨none, 0, []⟩, ⟨none, 0, []⟩, zeros32, Vt.zero, ⟨none, 0, []⟩, ⟨#[]⟩, ⟨none, 0, []⟩⟩, by rw [hpc.out], rfl, hmo, mg0_at RowsAt.none hds_none RowsAt.none RowsAt.none RowsAt.none, ⟨no_bk, no_bk, no_bk2, no_bk, no_bk, no_bk⟩, Ve.rs.low hlow hQw, Ve.kept.low hlow (Nat.le_refl _)⟩
 clear Ve hlow rpc hpc hmo V_2
 go_wp2_with fail
 refine bodyPost_ret (v := .agg pc.toArray) ?_ rfl ?_
 ·simp [results, Tryz.results112, Act.put, asAddr, hrs]
 ·exact HF.out
set_option maxRecDepth 100000 in
set_option maxHeartbeats 1000000 in
theorem rmsgK7 (Q R : Nat) (s : Rst) (w : World) (h : RS w Q R s) (hl : s.1.length ≤ 40000) (hk : (kiS 8 s).1 = 7) : Calls Tryz.prog 112 #[.pointer (some ⟨Q, 0, none⟩)] w fun en w' => ∃ m : Mg, en = .returned (.agg m.ms.cells.toArray) ∧ m.pure = (mg7 (kiS 8 s).2).1 ∧ m.ok ∧ m.At w' ∧ m.Bk (fun b => w.heap.size ≤ b) ∧ RS w' Q R (mg7 (kiS 8 s).2).2 ∧ Kept w R Q w' := by
 have hRw := h.st.1.1
 have hQw := h.mr.lt
 have ck := fun w0 h0 => kindRS Q R 8 s w0 h0
 have l0 := kiS_len 8 s
 unfold mg7
 generalize kiS 8 s = p_ at ck l0 hk ⊢
 obtain ⟨k, s0⟩ := p_
 simp only at ck l0 hk ⊢
 subst hk
 have c_a := fun w0 h0 => bgetS Q R s0 w0 h0 (by omega)
 have l_a : (baS s0).2.1.length ≤ s0.1.length := baS_len _
 generalize baS s0 = p_ at c_a l_a ⊢
 obtain ⟨⟨q_a, rs_a⟩, s_a⟩ := p_
 simp only at c_a l_a ⊢
 have c_b := fun w0 h0 => rcertS Q R s_a w0 h0 (by omega)
 have l_b : (ceS s_a).2.1.length ≤ s_a.1.length := ceS_len _
 generalize ceS s_a = p_ at c_b l_b ⊢
 obtain ⟨⟨vt_b, sg_b⟩, s_b⟩ := p_
 simp only at c_b l_b ⊢
 obtain ⟨zc, hzl, hzr⟩ : ∃ z : List Value, z.length = 119 ∧ ∀ w : World, (zeroValue 63).run Tryz.prog w = .ok (.agg z.toArray) w := ⟨_, (Ms.plain_ok 0 0 0 Vt.zero_ok zeros32_len zeros32_byte).len, zeroM⟩
 have hbk := build_kind 7
 have hql := (ms0_ok 7).len
 have hq1 := (ms0_ok 7).one
 have hiq : (Tryz.prog.info? 63).map (·.size) = some (Ms.plain 7 0 0 Vt.zero zeros32).cells.length := by rw [hql]; exact iszM
 have hk0 : ∀ (w' : World) b, w'.rangeAt b 0 (Ms.plain 7 0 0 Vt.zero zeros32).cells → w'.cell? ⟨b, 0, none⟩ = some (.int .i64 7) := fun w' b h => ((ms0_ok 7).at h).k
 obtain ⟨qk, hqk⟩ : ∃ q, Hid ((Ms.plain 7 0 0 Vt.zero zeros32).cells = q) := ⟨_, hide rfl⟩
 simp only [hqk.out] at hbk hql hq1 hiq hk0
 obtain ⟨hB1, hr1, hs1⟩ := boxed_new w zc 63
 have ht1 := there_newN w zc.toArray 63 (n := 119) (by simp [hzl])
 go_enter Tryz.func112, Tryz.ntmps112
 go_upto_region 0 with fail
 try simp only [Act.put]
 refine pl_begin ?_
 refine pl_run (d := some 2) (v := .pointer (some ⟨w.heap.size, 0, none⟩)) (w' := w.alloc (.cells zc.toArray 63)) (by rfl) (ex_alloc rfl (hzr _)) rfl ?_
 simp only [nz]
 refine pl_nil ?_
 obtain ⟨W1, hW1⟩ : ∃ W, w.alloc (.cells zc.toArray 63) = W := ⟨_, rfl⟩
 rw [hW1] at hB1 hr1 hs1 ht1 ⊢
 clear hW1 hr1
 have S1 := h.below hB1
 go_upto_region 1 with fail
 try simp only [Act.put]
 refine pl_begin ?_
 refine pl_t 4 (?_) (by rfl) ?_ rfl ?_
 rotate_left
 ·go_simp
  try with_reducible rfl
 simp only [nz]
 refine pl_call (d := some 5) (by rfl) (by go_simp; first | done | exact ⟨rfl, rfl⟩ | with_reducible rfl) rfl ?_
 refine (ck W1 S1).mono ?_
 rintro _ w2 ⟨rfl, S2, k2⟩
 refine ⟨_, rfl, ?_⟩
 simp only [nz]
 refine pl_t 6 (.agg qk.toArray) (by rfl) (ex_build (parts := [(0, .tmp 5)]) rfl rfl (hbk _)) rfl ?_
 simp only [nz]
 refine pl_run (d := some 3) (v := .pointer (some ⟨w2.heap.size, 0, none⟩)) (w' := w2.alloc (.cells zc.toArray 63)) (by rfl) (ex_alloc rfl (hzr _)) rfl ?_
 simp only [nz]
 refine pl_store (w' := (w2.alloc (.cells zc.toArray 63)).setCells w2.heap.size 0 qk) (by rfl) (ex_put (cs := qk.toArray) rfl rfl rfl (there_newN _ _ _ (by simp [hzl, hql])) (by simpa using hiq) (all_one hq1)) rfl ?_
 refine pl_nil ?_
 obtain ⟨hF1, hF2, hF3, -⟩ := fresh_store w2 zc.toArray 63 qk (by simp [hzl, hql])
 have hF4 := World.there_setCells (there_newN w2 zc.toArray 63 (n := 119) (by simp [hzl])) w2.heap.size 0 qk
 obtain ⟨w3, hw3⟩ : ∃ W, (w2.alloc (.cells zc.toArray 63)).setCells w2.heap.size 0 qk = W := ⟨_, rfl⟩
 rw [hw3] at hF1 hF2 hF3 hF4 ⊢
 clear hw3
 have hc0 := hk0 _ _ hF1
 have k3 : Kept w R Q w3 := (((Kept.refl w R Q).below hB1).trans k2).below hF2
 have z2 := k2.size
 rw [← hqk.out] at hF1
 have V3 : MV w Q R w.heap.size w2.heap.size 119 (Ms.plain 7 0 0 Vt.zero zeros32).cells s0 w3 := ⟨hF1, hF4, there_below (there_blk ht1 (k2.block _ hs1 (by omega) (by omega))) hF2 (by omega), k3, S2.below hF2, by have := hF2.size; omega, by omega, Nat.le_refl _, by have := hB1.size; omega, by omega, hRw, hQw⟩
 have hww : w.heap.size < w2.heap.size := by omega
 clear hF1 hF2 hF4 ht1 hB1 S1 S2 k2 k3 hk0 hbk hql hq1 hiq hqk h ck hzr hzl
 go_upto_region 2 with fail
 try simp only [Act.put]
 refine pl_begin ?_
 refine pl_t 7 (?_) (by rfl) ?_ rfl ?_
 rotate_left
 ·go_simp
  try with_reducible rfl
 simp only [nz]
 refine pl_t 8 (.int .i64 7) (by rfl) (pl_one rfl rfl hc0 Tryz.underlying3 rfl) rfl ?_
 simp only [nz]
 refine pl_nil ?_
 clear hc0
 go_upto_region 18 with fail
 try simp only [Act.put]
 refine pl_begin ?_
 refine pl_t 95 (?_) (by rfl) ?_ rfl ?_
 rotate_left
 ·go_simp
  try with_reducible rfl
 simp only [nz]
 refine pl_t 96 (?_) (by rfl) ?_ rfl ?_
 rotate_left
 ·go_simp
  try with_reducible rfl
 simp only [nz]
 refine pl_t 97 (?_) (by rfl) ?_ rfl ?_
 rotate_left
 ·go_simp
  try with_reducible rfl
 simp only [nz]
 refine pl_t 98 (.pointer (some ⟨R, 0, none⟩)) (by rfl) (pl_one rfl rfl V3.rs.mr.c0 Tryz.underlying72 rfl) rfl ?_
 simp only [nz]
 refine pl_call (d := some 99) (by rfl) (by go_simp; first | done | exact ⟨rfl, rfl⟩ | with_reducible rfl) rfl ?_
 refine (c_a w3 V3.rs).mono ?_
 rintro _ w5 ⟨x, rfl, hx, hA, hB, S5, k5⟩
 refine ⟨_, rfl, ?_⟩
 simp only [nz]
 refine pl_t 100 (?_) (by rfl) ?_ rfl ?_
 rotate_left
 ·go_simp
  try with_reducible rfl
 simp only [nz]
 refine pl_call (d := some 101) (by rfl) (by go_simp; first | done | exact ⟨rfl, rfl⟩ | with_reducible rfl) rfl ?_
 refine (c_b w5 S5).mono ?_
 rintro _ w6 ⟨y, rfl, hy, hC, hD, hvt, S6, k6⟩
 refine ⟨_, rfl, ?_⟩
 simp only [nz]
 refine pl_t 102 (?_) (by rfl) ?_ rfl ?_
 rotate_left
 ·go_simp
  try with_reducible rfl
 simp only [nz]
 have lb := V3.lb
 have la := V3.la
 have na := V3.kept.size
 have z5 := k5.size
 have V6 := (V3.on k5 S5).on k6 S6
 have hA5 : x.At RqE w6 := hA.kept k6 (n := w3.heap.size) (by omega) (by omega) hB (fun b hb => hb.1)
 have Va := V6.set 5 [.bool q_a, x.val] (put_b q_a x.val V6.row (V6.part 5 2 (by decide)))
 refine pl_store (w' := w6.setCells w2.heap.size 5 [.bool q_a, x.val]) (by rfl) (ex_put (cs := #[.bool q_a, x.val]) rfl rfl rfl (V6.part 5 2 (by decide)) iszBa (by simp [Value.oneCell', Sl.val])) rfl ?_
 have hA6 := hA5.put (B := w2.heap.size) (o := 5) (vs := [.bool q_a, x.val]) hB (fun b hb => by omega)
 have hC6 := hC.put (B := w2.heap.size) (o := 5) (vs := [.bool q_a, x.val]) hD (fun b hb => by omega)
 obtain ⟨wd, hwd⟩ : ∃ W, w6.setCells w2.heap.size 5 [.bool q_a, x.val] = W := ⟨_, rfl⟩
 rw [hwd] at Va hA6 hC6 ⊢
 clear hwd
 refine pl_t 103 (?_) (by rfl) ?_ rfl ?_
 rotate_left
 ·go_simp
  try with_reducible rfl
 simp only [nz]
 have hcl : (certL vt_b y).length = 37 := by have := hvt.len; simp [certL]; omega
 have hc1 : ∀ v ∈ certL vt_b y, v.oneCell' = true := fun v hv => by
  rcases List.mem_append.1 hv with g | g
  ·exact Vt.one vt_b v g
  ·rw [List.mem_singleton.1 g]; rfl
 have Ve := Va.set 80 (certL vt_b y) (put_ct vt_b y.val hvt Vt.zero_ok zeros32_len Vt.zero_ok Va.row (Va.part 80 37 (by decide)))
 refine pl_store (w' := wd.setCells w2.heap.size 80 (certL vt_b y)) (by rfl) (ex_put (cs := (certL vt_b y).toArray) rfl rfl rfl (by simpa [hcl] using Va.part 80 37 (by decide)) (by simpa [hcl] using iszCe) (all_one hc1)) rfl ?_
 refine pl_nil ?_
 have hA7 := hA6.put (B := w2.heap.size) (o := 80) (vs := certL vt_b y) hB (fun b hb => by omega)
 have hC7 := hC6.put (B := w2.heap.size) (o := 80) (vs := certL vt_b y) hD (fun b hb => by omega)
 obtain ⟨we, hwe⟩ : ∃ W, wd.setCells w2.heap.size 80 (certL vt_b y) = W := ⟨_, rfl⟩
 rw [hwe] at Ve hA7 hC7 ⊢
 clear hwe
 clear Va V6 V3 S5 S6 k5 k6 hA hC hA5 hA6 hC6
 have rpc := Ve.row
 have hmo : Mg.ok ⟨7, 0, 0, 0, 0, q_a, x, Vt.zero, 0, 0, 0, ⟨none, 0, []⟩, ⟨none, 0, []⟩, zeros32, vt_b, y, ⟨#[]⟩, ⟨none, 0, []⟩⟩ := ⟨Vt.zero_ok, hvt, zeros32_len, zeros32_byte⟩
 have hpl : (Mg.ms ⟨7, 0, 0, 0, 0, q_a, x, Vt.zero, 0, 0, 0, ⟨none, 0, []⟩, ⟨none, 0, []⟩, zeros32, vt_b, y, ⟨#[]⟩, ⟨none, 0, []⟩⟩).cells.length = 119 := hmo.ms.len
 have hp1 := hmo.ms.one
 have hip : (Tryz.prog.info? 63).map (·.size) = some (Mg.ms ⟨7, 0, 0, 0, 0, q_a, x, Vt.zero, 0, 0, 0, ⟨none, 0, []⟩, ⟨none, 0, []⟩, zeros32, vt_b, y, ⟨#[]⟩, ⟨none, 0, []⟩⟩).cells.length := by rw [hpl]; exact iszM
 have rpc : we.rangeAt w2.heap.size 0 (Mg.ms ⟨7, 0, 0, 0, 0, q_a, x, Vt.zero, 0, 0, 0, ⟨none, 0, []⟩, ⟨none, 0, []⟩, zeros32, vt_b, y, ⟨#[]⟩, ⟨none, 0, []⟩⟩).cells := rpc
 obtain ⟨pc, hpc⟩ : ∃ p, Hid ((Mg.ms ⟨7, 0, 0, 0, 0, q_a, x, Vt.zero, 0, 0, 0, ⟨none, 0, []⟩, ⟨none, 0, []⟩, zeros32, vt_b, y, ⟨#[]⟩, ⟨none, 0, []⟩⟩).cells = p) := ⟨_, hide rfl⟩
 simp only [hpc.out] at hpl hip hp1 rpc
 go_upto_region 22 with fail
 try simp only [Act.put]
 refine pl_begin ?_
 refine pl_t 121 (.agg pc.toArray) (by rfl) (ex_mid rfl rfl rpc Tryz.underlying63 rfl hip) rfl ?_
 simp only [nz]
 refine pl_store (w' := we.setCells w.heap.size 0 pc) (by rfl) (ex_put (cs := pc.toArray) rfl rfl rfl (by simpa [hpl] using Ve.ans) (by simpa using hip) (all_one hp1)) rfl ?_
 refine pl_nil ?_
 have hlow : Below w.heap.size we (we.setCells w.heap.size 0 pc) := below_sets (Nat.le_refl _) pc 0 _ (Below.refl _ we)
 have hrs := run_loadVar_mid (P := Tryz.prog) (we.setCells w.heap.size 0 pc) w.heap.size 0 63 pc _ (World.rangeAt_setCells_same we w.heap.size 0 pc (by rw [hpl]; exact Ve.ans)) Tryz.underlying63 rfl hip
 have HF : Hid (∃ m : Mg, Ending.returned (.agg pc.toArray) = .returned (.agg m.ms.cells.toArray) ∧ m.pure = (⟨7, 0, 0, 0, 0, q_a, rs_a, Vt.zero, 0, 0, 0, [], [], zeros32, vt_b, sg_b, ⟨#[]⟩, []⟩ : Mp) ∧ m.ok ∧ m.At (we.setCells w.heap.size 0 pc) ∧ m.Bk (fun b => w.heap.size ≤ b) ∧ RS (we.setCells w.heap.size 0 pc) Q R s_b ∧ Kept w R Q (we.setCells w.heap.size 0 pc)) := hide ⟨⟨7, 0, 0, 0, 0, q_a, x, Vt.zero, 0, 0, 0, ⟨none, 0, []⟩, ⟨none, 0, []⟩, zeros32, vt_b, y, ⟨#[]⟩, ⟨none, 0, []⟩⟩, by rw [hpc.out], by rw [← hx, ← hy]; rfl, hmo, mg0_at (hA7.put hB (fun b hb => by omega)) hds_none RowsAt.none (hC7.put hD (fun b hb => by omega)) RowsAt.none, ⟨hB.mono (fun b hb => by omega), no_bk, no_bk2, no_bk, hD.mono (fun b hb => by omega), no_bk⟩, Ve.rs.low hlow hQw, Ve.kept.low hlow (Nat.le_refl _)⟩
 clear Ve hlow rpc hpc hmo hA7 hC7 hB hD hx hy
 go_wp2_with fail
 refine bodyPost_ret (v := .agg pc.toArray) ?_ rfl ?_
 ·simp [results, Tryz.results112, Act.put, asAddr, hrs]
 ·exact HF.out
set_option maxRecDepth 100000 in
set_option maxHeartbeats 1000000 in
theorem rmsgK8 (Q R : Nat) (s : Rst) (w : World) (h : RS w Q R s) (hl : s.1.length ≤ 40000) (hk : (kiS 8 s).1 = 8) : Calls Tryz.prog 112 #[.pointer (some ⟨Q, 0, none⟩)] w fun en w' => ∃ m : Mg, en = .returned (.agg m.ms.cells.toArray) ∧ m.pure = (mg8 (kiS 8 s).2).1 ∧ m.ok ∧ m.At w' ∧ m.Bk (fun b => w.heap.size ≤ b) ∧ RS w' Q R (mg8 (kiS 8 s).2).2 ∧ Kept w R Q w' := by
 have hRw := h.st.1.1
 have hQw := h.mr.lt
 have ck := fun w0 h0 => kindRS Q R 8 s w0 h0
 have l0 := kiS_len 8 s
 unfold mg8
 generalize kiS 8 s = p_ at ck l0 hk ⊢
 obtain ⟨k, s0⟩ := p_
 simp only at ck l0 hk ⊢
 subst hk
 have c_a := fun w0 h0 => textRS Q R 4194304 s0 w0 h0
 have l_a : (txS 4194304 s0).2.1.length ≤ s0.1.length := txS_len _ _
 generalize txS 4194304 s0 = p_ at c_a l_a ⊢
 obtain ⟨v_a, s_a⟩ := p_
 simp only at c_a l_a ⊢
 have c_b := fun w0 h0 => rlistS_any Q R s_a w0 h0 (by omega)
 have l_b : (lsS 64 siS s_a).2.1.length ≤ s_a.1.length := lsS_len siS_len _ _
 generalize lsS 64 siS s_a = p_ at c_b l_b ⊢
 obtain ⟨v_b, s_b⟩ := p_
 simp only at c_b l_b ⊢
 obtain ⟨zc, hzl, hzr⟩ : ∃ z : List Value, z.length = 119 ∧ ∀ w : World, (zeroValue 63).run Tryz.prog w = .ok (.agg z.toArray) w := ⟨_, (Ms.plain_ok 0 0 0 Vt.zero_ok zeros32_len zeros32_byte).len, zeroM⟩
 have hbk := build_kind 8
 have hql := (ms0_ok 8).len
 have hq1 := (ms0_ok 8).one
 have hiq : (Tryz.prog.info? 63).map (·.size) = some (Ms.plain 8 0 0 Vt.zero zeros32).cells.length := by rw [hql]; exact iszM
 have hk0 : ∀ (w' : World) b, w'.rangeAt b 0 (Ms.plain 8 0 0 Vt.zero zeros32).cells → w'.cell? ⟨b, 0, none⟩ = some (.int .i64 8) := fun w' b h => ((ms0_ok 8).at h).k
 obtain ⟨qk, hqk⟩ : ∃ q, Hid ((Ms.plain 8 0 0 Vt.zero zeros32).cells = q) := ⟨_, hide rfl⟩
 simp only [hqk.out] at hbk hql hq1 hiq hk0
 obtain ⟨hB1, hr1, hs1⟩ := boxed_new w zc 63
 have ht1 := there_newN w zc.toArray 63 (n := 119) (by simp [hzl])
 go_enter Tryz.func112, Tryz.ntmps112
 go_upto_region 0 with fail
 try simp only [Act.put]
 refine pl_begin ?_
 refine pl_run (d := some 2) (v := .pointer (some ⟨w.heap.size, 0, none⟩)) (w' := w.alloc (.cells zc.toArray 63)) (by rfl) (ex_alloc rfl (hzr _)) rfl ?_
 simp only [nz]
 refine pl_nil ?_
 obtain ⟨W1, hW1⟩ : ∃ W, w.alloc (.cells zc.toArray 63) = W := ⟨_, rfl⟩
 rw [hW1] at hB1 hr1 hs1 ht1 ⊢
 clear hW1 hr1
 have S1 := h.below hB1
 go_upto_region 1 with fail
 try simp only [Act.put]
 refine pl_begin ?_
 refine pl_t 4 (?_) (by rfl) ?_ rfl ?_
 rotate_left
 ·go_simp
  try with_reducible rfl
 simp only [nz]
 refine pl_call (d := some 5) (by rfl) (by go_simp; first | done | exact ⟨rfl, rfl⟩ | with_reducible rfl) rfl ?_
 refine (ck W1 S1).mono ?_
 rintro _ w2 ⟨rfl, S2, k2⟩
 refine ⟨_, rfl, ?_⟩
 simp only [nz]
 refine pl_t 6 (.agg qk.toArray) (by rfl) (ex_build (parts := [(0, .tmp 5)]) rfl rfl (hbk _)) rfl ?_
 simp only [nz]
 refine pl_run (d := some 3) (v := .pointer (some ⟨w2.heap.size, 0, none⟩)) (w' := w2.alloc (.cells zc.toArray 63)) (by rfl) (ex_alloc rfl (hzr _)) rfl ?_
 simp only [nz]
 refine pl_store (w' := (w2.alloc (.cells zc.toArray 63)).setCells w2.heap.size 0 qk) (by rfl) (ex_put (cs := qk.toArray) rfl rfl rfl (there_newN _ _ _ (by simp [hzl, hql])) (by simpa using hiq) (all_one hq1)) rfl ?_
 refine pl_nil ?_
 obtain ⟨hF1, hF2, hF3, -⟩ := fresh_store w2 zc.toArray 63 qk (by simp [hzl, hql])
 have hF4 := World.there_setCells (there_newN w2 zc.toArray 63 (n := 119) (by simp [hzl])) w2.heap.size 0 qk
 obtain ⟨w3, hw3⟩ : ∃ W, (w2.alloc (.cells zc.toArray 63)).setCells w2.heap.size 0 qk = W := ⟨_, rfl⟩
 rw [hw3] at hF1 hF2 hF3 hF4 ⊢
 clear hw3
 have hc0 := hk0 _ _ hF1
 have k3 : Kept w R Q w3 := (((Kept.refl w R Q).below hB1).trans k2).below hF2
 have z2 := k2.size
 rw [← hqk.out] at hF1
 have V3 : MV w Q R w.heap.size w2.heap.size 119 (Ms.plain 8 0 0 Vt.zero zeros32).cells s0 w3 := ⟨hF1, hF4, there_below (there_blk ht1 (k2.block _ hs1 (by omega) (by omega))) hF2 (by omega), k3, S2.below hF2, by have := hF2.size; omega, by omega, Nat.le_refl _, by have := hB1.size; omega, by omega, hRw, hQw⟩
 have hww : w.heap.size < w2.heap.size := by omega
 clear hF1 hF2 hF4 ht1 hB1 S1 S2 k2 k3 hk0 hbk hql hq1 hiq hqk h ck hzr hzl
 go_upto_region 2 with fail
 try simp only [Act.put]
 refine pl_begin ?_
 refine pl_t 7 (?_) (by rfl) ?_ rfl ?_
 rotate_left
 ·go_simp
  try with_reducible rfl
 simp only [nz]
 refine pl_t 8 (.int .i64 8) (by rfl) (pl_one rfl rfl hc0 Tryz.underlying3 rfl) rfl ?_
 simp only [nz]
 refine pl_nil ?_
 clear hc0
 go_upto_region 20 with fail
 try simp only [Act.put]
 refine pl_begin ?_
 refine pl_t 106 (?_) (by rfl) ?_ rfl ?_
 rotate_left
 ·go_simp
  try with_reducible rfl
 simp only [nz]
 refine pl_t 107 (?_) (by rfl) ?_ rfl ?_
 rotate_left
 ·go_simp
  try with_reducible rfl
 simp only [nz]
 refine pl_t 108 (?_) (by rfl) ?_ rfl ?_
 rotate_left
 ·go_simp
  try with_reducible rfl
 simp only [nz]
 refine pl_t 109 (.pointer (some ⟨R, 0, none⟩)) (by rfl) (pl_one rfl rfl V3.rs.mr.c0 Tryz.underlying72 rfl) rfl ?_
 simp only [nz]
 refine pl_call (d := some 110) (by rfl) (by go_simp; first | done | exact ⟨rfl, rfl⟩ | with_reducible rfl) rfl ?_
 refine (c_a w3 V3.rs).mono ?_
 rintro _ w5 ⟨rfl, S5, k5⟩
 refine ⟨_, rfl, ?_⟩
 simp only [nz]
 refine pl_t 111 (?_) (by rfl) ?_ rfl ?_
 rotate_left
 ·go_simp
  try with_reducible rfl
 simp only [nz]
 have V5 := V3.on k5 S5
 have Va := V5.set 117 [.string v_a] (put_st v_a Vt.zero_ok zeros32_len Vt.zero_ok V5.row (V5.part 117 1 (by decide)))
 refine pl_store (w' := w5.setCells w2.heap.size 117 [.string v_a]) (by rfl) (ex_put1 (n := 119) rfl rfl rfl V5.box (by decide) iszStr rfl rfl) rfl ?_
 refine pl_nil ?_
 obtain ⟨w6, hw6⟩ : ∃ W, w5.setCells w2.heap.size 117 [.string v_a] = W := ⟨_, rfl⟩
 rw [hw6] at Va ⊢
 clear hw6
 clear V5 V3 S5 k5
 go_upto_region 21 with fail
 try simp only [Act.put]
 refine pl_begin ?_
 refine pl_t 112 (?_) (by rfl) ?_ rfl ?_
 rotate_left
 ·go_simp
  try with_reducible rfl
 simp only [nz]
 refine pl_t 113 (?_) (by rfl) ?_ rfl ?_
 rotate_left
 ·go_simp
  try with_reducible rfl
 simp only [nz]
 refine pl_t 114 (?_) (by rfl) ?_ rfl ?_
 rotate_left
 ·go_simp
  try with_reducible rfl
 simp only [nz]
 refine pl_t 115 (.pointer (some ⟨R, 0, none⟩)) (by rfl) (pl_one rfl rfl Va.rs.mr.c0 Tryz.underlying72 rfl) rfl ?_
 simp only [nz]
 refine pl_t 116 (?_) (by rfl) ?_ rfl ?_
 rotate_left
 ·go_simp
  try with_reducible rfl
 simp only [nz]
 refine pl_t 117 (?_) (by rfl) ?_ rfl ?_
 rotate_left
 ·go_simp
  try with_reducible rfl
 simp only [nz]
 refine pl_t 118 (?_) (by rfl) ?_ rfl ?_
 rotate_left
 ·go_simp
  try with_reducible rfl
 simp only [nz]
 refine pl_call (d := some 119) (by rfl) (by go_simp; first | done | exact ⟨rfl, rfl⟩ | with_reducible rfl) rfl ?_
 refine (c_b w6 Va.rs).mono ?_
 rintro _ wd ⟨x, rfl, hx, hA, hB, Sd, kd⟩
 refine ⟨_, rfl, ?_⟩
 simp only [nz]
 refine pl_t 120 (?_) (by rfl) ?_ rfl ?_
 rotate_left
 ·go_simp
  try with_reducible rfl
 simp only [nz]
 have Vd := Va.on kd Sd
 have Ve := Vd.set 118 [x.val] (put_sg x.val Vt.zero_ok zeros32_len Vt.zero_ok Vd.row (Vd.part 118 1 (by decide)))
 have lb := Va.lb
 have la := Va.la
 have na := Va.kept.size
 refine pl_store (w' := wd.setCells w2.heap.size 118 [x.val]) (by rfl) (ex_put1 (n := 119) rfl rfl rfl Vd.box (by decide) iszSgs rfl rfl) rfl ?_
 refine pl_nil ?_
 have hA1 := hA.put (B := w2.heap.size) (o := 118) (vs := [x.val]) hB (fun b hb => by omega)
 obtain ⟨we, hwe⟩ : ∃ W, wd.setCells w2.heap.size 118 [x.val] = W := ⟨_, rfl⟩
 rw [hwe] at Ve hA1 ⊢
 clear hwe
 clear Vd Sd kd Va hA
 have rpc := Ve.row
 have hmo : Mg.ok ⟨8, 0, 0, 0, 0, false, ⟨none, 0, []⟩, Vt.zero, 0, 0, 0, ⟨none, 0, []⟩, ⟨none, 0, []⟩, zeros32, Vt.zero, ⟨none, 0, []⟩, v_a, x⟩ := ⟨Vt.zero_ok, Vt.zero_ok, zeros32_len, zeros32_byte⟩
 have hpl : (Mg.ms ⟨8, 0, 0, 0, 0, false, ⟨none, 0, []⟩, Vt.zero, 0, 0, 0, ⟨none, 0, []⟩, ⟨none, 0, []⟩, zeros32, Vt.zero, ⟨none, 0, []⟩, v_a, x⟩).cells.length = 119 := hmo.ms.len
 have hp1 := hmo.ms.one
 have hip : (Tryz.prog.info? 63).map (·.size) = some (Mg.ms ⟨8, 0, 0, 0, 0, false, ⟨none, 0, []⟩, Vt.zero, 0, 0, 0, ⟨none, 0, []⟩, ⟨none, 0, []⟩, zeros32, Vt.zero, ⟨none, 0, []⟩, v_a, x⟩).cells.length := by rw [hpl]; exact iszM
 have rpc : we.rangeAt w2.heap.size 0 (Mg.ms ⟨8, 0, 0, 0, 0, false, ⟨none, 0, []⟩, Vt.zero, 0, 0, 0, ⟨none, 0, []⟩, ⟨none, 0, []⟩, zeros32, Vt.zero, ⟨none, 0, []⟩, v_a, x⟩).cells := rpc
 obtain ⟨pc, hpc⟩ : ∃ p, Hid ((Mg.ms ⟨8, 0, 0, 0, 0, false, ⟨none, 0, []⟩, Vt.zero, 0, 0, 0, ⟨none, 0, []⟩, ⟨none, 0, []⟩, zeros32, Vt.zero, ⟨none, 0, []⟩, v_a, x⟩).cells = p) := ⟨_, hide rfl⟩
 simp only [hpc.out] at hpl hip hp1 rpc
 go_upto_region 22 with fail
 try simp only [Act.put]
 refine pl_begin ?_
 refine pl_t 121 (.agg pc.toArray) (by rfl) (ex_mid rfl rfl rpc Tryz.underlying63 rfl hip) rfl ?_
 simp only [nz]
 refine pl_store (w' := we.setCells w.heap.size 0 pc) (by rfl) (ex_put (cs := pc.toArray) rfl rfl rfl (by simpa [hpl] using Ve.ans) (by simpa using hip) (all_one hp1)) rfl ?_
 refine pl_nil ?_
 have hlow : Below w.heap.size we (we.setCells w.heap.size 0 pc) := below_sets (Nat.le_refl _) pc 0 _ (Below.refl _ we)
 have hrs := run_loadVar_mid (P := Tryz.prog) (we.setCells w.heap.size 0 pc) w.heap.size 0 63 pc _ (World.rangeAt_setCells_same we w.heap.size 0 pc (by rw [hpl]; exact Ve.ans)) Tryz.underlying63 rfl hip
 have HF : Hid (∃ m : Mg, Ending.returned (.agg pc.toArray) = .returned (.agg m.ms.cells.toArray) ∧ m.pure = (⟨8, 0, 0, 0, 0, false, [], Vt.zero, 0, 0, 0, [], [], zeros32, Vt.zero, [], v_a, v_b⟩ : Mp) ∧ m.ok ∧ m.At (we.setCells w.heap.size 0 pc) ∧ m.Bk (fun b => w.heap.size ≤ b) ∧ RS (we.setCells w.heap.size 0 pc) Q R s_b ∧ Kept w R Q (we.setCells w.heap.size 0 pc)) := hide ⟨⟨8, 0, 0, 0, 0, false, ⟨none, 0, []⟩, Vt.zero, 0, 0, 0, ⟨none, 0, []⟩, ⟨none, 0, []⟩, zeros32, Vt.zero, ⟨none, 0, []⟩, v_a, x⟩, by rw [hpc.out], by rw [← hx]; rfl, hmo, mg0_at RowsAt.none hds_none RowsAt.none RowsAt.none (hA1.put hB (fun b hb => by omega)), ⟨no_bk, no_bk, no_bk2, no_bk, no_bk, hB.mono (fun b hb => by omega)⟩, Ve.rs.low hlow hQw, Ve.kept.low hlow (Nat.le_refl _)⟩
 clear Ve hlow rpc hpc hmo hA1 hB hx
 go_wp2_with fail
 refine bodyPost_ret (v := .agg pc.toArray) ?_ rfl ?_
 ·simp [results, Tryz.results112, Act.put, asAddr, hrs]
 ·exact HF.out
theorem rmsgS (Q R : Nat) (s : Rst) (w : World) (h : RS w Q R s) (hl : s.1.length ≤ 40000) : Calls Tryz.prog 112 #[.pointer (some ⟨Q, 0, none⟩)] w fun en w' => ∃ m : Mg, en = .returned (.agg m.ms.cells.toArray) ∧ m.pure = (mgS s).1 ∧ m.ok ∧ m.At w' ∧ m.Bk (fun b => w.heap.size ≤ b) ∧ RS w' Q R (mgS s).2 ∧ Kept w R Q w' := by
 unfold mgS mgF
 by_cases n1 : (kiS 8 s).1 = 1
 ·rw [if_pos n1]; exact rmsgK1 Q R s w h hl n1
 rw [if_neg n1]
 by_cases n2 : (kiS 8 s).1 = 2
 ·rw [if_pos n2]; exact rmsgK2 Q R s w h hl n2
 rw [if_neg n2]
 by_cases n3 : (kiS 8 s).1 = 3
 ·rw [if_pos n3]; exact rmsgK3 Q R s w h hl n3
 rw [if_neg n3]
 by_cases n4 : (kiS 8 s).1 = 4
 ·rw [if_pos n4]; exact rmsgK4 Q R s w h hl n4
 rw [if_neg n4]
 by_cases n5 : (kiS 8 s).1 = 5
 ·rw [if_pos n5]; exact rmsgK5 Q R s w h hl n5
 rw [if_neg n5]
 by_cases n6 : (kiS 8 s).1 = 6
 ·rw [if_pos n6]; exact rmsgK6 Q R s w h hl n6
 rw [if_neg n6]
 by_cases n7 : (kiS 8 s).1 = 7
 ·rw [if_pos n7]; exact rmsgK7 Q R s w h hl n7
 rw [if_neg n7]
 by_cases n8 : (kiS 8 s).1 = 8
 ·rw [if_pos n8]; exact rmsgK8 Q R s w h hl n8
 rw [if_neg n8]
 exact rmsgK0 Q R s w h hl n1 n2 n3 n4 n5 n6 n7 n8
set_option maxRecDepth 100000 in
set_option maxHeartbeats 2000000 in
theorem newReaderS (s : ByteArray) (hs : s.size ≤ 1099511627) (w : World) : Calls Tryz.prog 111 #[.string s] w fun e w' => ∃ Q R, e = .returned (.pointer (some ⟨Q, 0, none⟩)) ∧ w.heap.size ≤ R ∧ RS w' Q R (strL s, 0, false) ∧ Below w.heap.size w w' := by
 obtain ⟨c, w1, hc, hr, hB⟩ := bytes_of s hs w
 have hl : (strL s).length ≤ 549755813888 := by rw [strL_length]; omega
 have cr := read_any (some ⟨w.heap.size, 0, none⟩) c (strL s) w1 hr hl
 generalize strL s = zs at *
 go_enter Tryz.func111, Tryz.ntmps111
 go_wp2_with fail
 refine cr.mono ?_
 rintro e w2 ⟨R, rfl, hR, hSt, hb2⟩
 have hB2 := hB.trans (hb2.mono hB.size)
 have hB3 : Below w2.heap.size w2 (w2.alloc (.cells #[.pointer (some ⟨R, 0, none⟩), .bool false] 184)) := (Below.refl _ _).alloc (Nat.le_refl _) _
 have hB4 := hB2.trans (hB3.mono hB2.size)
 have hRl := hSt.1.1
 have hSt3 := hSt.below hB3
 have hQ : MrAt (w2.alloc (.cells #[.pointer (some ⟨R, 0, none⟩), .bool false] 184)) w2.heap.size R false :=
  ⟨by simp, hRl, World.cell?_alloc_at _ _ _ _ rfl, World.cell?_alloc_at _ _ _ _ rfl, World.frozen?_alloc_at _ _ _ _ rfl⟩
 have hQt := there_newN w2 #[.pointer (some ⟨R, 0, none⟩), .bool false] 184 (n := 2) rfl
 have hRw : w.heap.size ≤ R := by have := hB.size; omega
 clear cr hc hr hSt hB3 hB2 hb2 hB
 go_wp2_with fail
 go_ret
 exact ⟨_, R, rfl, hRw, ⟨hSt3, hQ, hQt⟩, hB4⟩
def faE (s : Rst) : Int := if s.2.2 = true then 130 else doneE s.1 s.2.1
set_option maxRecDepth 100000 in
set_option maxHeartbeats 1000000 in
theorem faultS (Q R : Nat) (s : Rst) (w : World) (h : RS w Q R s) : Calls Tryz.prog 113 #[.pointer (some ⟨Q, 0, none⟩)] w fun en w' => en = .returned (.int .i64 (faE s)) ∧ w' = w := by
 obtain ⟨rest, e, z⟩ := s
 unfold faE
 cases z
 ·exact fault_ok Q R rest e w h.st h.mr
 ·have c0 := h.mr.c0
  have c1 := h.mr.c1
  simp only at c0 c1
  clear h
  go_enter Tryz.func113, Tryz.ntmps113
  go_wp2_with fail
  go_ret
  exact ⟨rfl, rfl⟩
def Mp.none : Mp := ⟨0, 0, 0, 0, 0, false, [], Vt.zero, 0, 0, 0, [], [], zeros32, Vt.zero, [], ⟨#[]⟩, []⟩
def decS (zs : List Int) : Mp × Int := if faE (mgS (zs, 0, false)).2 = 0 then ((mgS (zs, 0, false)).1, 0) else (Mp.none, faE (mgS (zs, 0, false)).2)
def Mg.none : Mg := ⟨0, 0, 0, 0, 0, false, ⟨Option.none, 0, []⟩, Vt.zero, 0, 0, 0, ⟨Option.none, 0, []⟩, ⟨Option.none, 0, []⟩, zeros32, Vt.zero, ⟨Option.none, 0, []⟩, ⟨#[]⟩, ⟨Option.none, 0, []⟩⟩
theorem Mg.none_ok : Mg.none.ok := ⟨Vt.zero_ok, Vt.zero_ok, zeros32_len, zeros32_byte⟩
theorem Mg.none_at (w : World) : Mg.none.At w := mg0_at RowsAt.none hds_none RowsAt.none RowsAt.none RowsAt.none
theorem Mg.At.put {m : Mg} {W : World} {n o : Nat} {vs : List Value} (h : m.At W) (k : Mg.Bk m (fun b => n < b)) : m.At (W.setCells n o vs) := by
 obtain ⟨k1, k2, k2', k3, k4, k5⟩ := k
 have f : ∀ b, n < b → b ≠ n := fun b hb => by omega
 exact ⟨h.rs.put k1 f, h.he.put k2 k2' f, h.ne.put k3 f, h.cs.put k4 f, h.sg.put k5 f⟩
theorem build_none (w : World) : (Instr.build 63 #[]).run Tryz.prog w = .ok (.agg Mg.none.ms.cells.toArray) w := build_msg #[] _ w rfl
set_option maxRecDepth 100000 in
set_option maxHeartbeats 1000000 in
theorem decode_any (sb : ByteArray) (hs : sb.size ≤ 40000) (w : World) : Calls Tryz.prog 77 #[.string sb] w fun en w' => ∃ m : Mg, en = .returned (.tuple #[.agg m.ms.cells.toArray, .int .i64 (decS (strL sb)).2]) ∧ m.pure = (decS (strL sb)).1 ∧ m.ok ∧ m.At w' ∧ m.Bk (fun b => w.heap.size ≤ b) ∧ Below w.heap.size w w' := by
 obtain ⟨zc, hzc, hzl, hz1, hzr, hb0⟩ : ∃ z : List Value, Hid (z = Mg.none.ms.cells) ∧ z.length = 119 ∧ (∀ v ∈ z, v.oneCell' = true) ∧ (∀ w : World, (zeroValue 63).run Tryz.prog w = .ok (.agg z.toArray) w) ∧ ∀ w : World, (Instr.build 63 #[]).run Tryz.prog w = .ok (.agg z.toArray) w := ⟨_, hide rfl, Mg.none_ok.ms.len, Mg.none_ok.ms.one, zeroM, build_none⟩
 have hiz : (Tryz.prog.info? 63).map (·.size) = some zc.length := by rw [hzl]; exact iszM
 have cn := fun w0 => newReaderS sb (by omega) w0
 have cr := fun Q R w0 h0 => rmsgS Q R (strL sb, 0, false) w0 h0 (by show (strL sb).length ≤ 40000; rw [strL_length]; exact hs)
 have hs' : (sb.size : Int) ≤ 4194304 := by omega
 unfold decS
 generalize strL sb = zs at cn cr ⊢
 generalize mgS (zs, 0, false) = p_ at cr ⊢
 obtain ⟨mp, t⟩ := p_
 simp only at cr ⊢
 have cf := fun Q R w0 h0 => faultS Q R t w0 h0
 generalize faE t = f at cf ⊢
 obtain ⟨hB1, hr1, hs1⟩ := boxed_new w zc 63
 have ht1 := there_newN w zc.toArray 63 (n := 119) (by simp [hzl])
 go_enter Tryz.func77, Tryz.ntmps77
 go_upto_region 0 with fail
 try simp only [Act.put]
 refine pl_begin ?_
 refine pl_run (d := some 2) (v := .pointer (some ⟨w.heap.size, 0, none⟩)) (w' := w.alloc (.cells zc.toArray 63)) (by rfl) (ex_alloc rfl (hzr _)) rfl ?_
 simp only [nz]
 refine pl_t 3 (?_) (by rfl) ?_ rfl ?_
 rotate_left
 ·go_simp
  try with_reducible rfl
 simp only [nz]
 refine pl_nil ?_
 obtain ⟨W1, hW1⟩ : ∃ W, w.alloc (.cells zc.toArray 63) = W := ⟨_, rfl⟩
 rw [hW1] at hB1 hr1 hs1 ht1 ⊢
 clear hW1 hr1
 go_upto_region 3 with fail
 try simp only [Act.put]
 refine pl_begin ?_
 refine pl_t 11 (?_) (by rfl) ?_ rfl ?_
 rotate_left
 ·go_simp
  try with_reducible rfl
 simp only [nz]
 refine pl_call (d := some 12) (by rfl) (by go_simp; first | done | exact ⟨rfl, rfl⟩ | with_reducible rfl) rfl ?_
 refine (cn W1).mono ?_
 rintro _ w2 ⟨Q, R, rfl, hRw, S2, hb2⟩
 refine ⟨_, rfl, ?_⟩
 simp only [nz]
 refine pl_t 4 (?_) (by rfl) ?_ rfl ?_
 rotate_left
 ·go_simp
  try with_reducible rfl
 simp only [nz]
 refine pl_nil ?_
 have hT2 := there_below ht1 hb2 hs1
 have hRQ := S2.mr.ne
 have hB2 := hB1.trans (hb2.mono hB1.size)
 have z2 := hb2.size
 clear cn
 go_upto_region 4 with fail
 try simp only [Act.put]
 refine pl_begin ?_
 refine pl_t 13 (?_) (by rfl) ?_ rfl ?_
 rotate_left
 ·go_simp
  try with_reducible rfl
 simp only [nz]
 refine pl_call (d := some 14) (by rfl) (by go_simp; first | done | exact ⟨rfl, rfl⟩ | with_reducible rfl) rfl ?_
 refine (cr Q R w2 S2).mono ?_
 rintro _ w3 ⟨m, rfl, hp, hmo, hA, hB, S3, k3⟩
 refine ⟨_, rfl, ?_⟩
 simp only [nz]
 have hql := hmo.ms.len
 have hq1 := hmo.ms.one
 have hiq : (Tryz.prog.info? 63).map (·.size) = some m.ms.cells.length := by rw [hql]; exact iszM
 obtain ⟨q, hqq⟩ : ∃ q, Hid (m.ms.cells = q) := ⟨_, hide rfl⟩
 simp only [hqq.out] at hql hq1 hiq ⊢
 refine pl_run (d := some 5) (v := .pointer (some ⟨w3.heap.size, 0, none⟩)) (w' := w3.alloc (.cells zc.toArray 63)) (by rfl) (ex_alloc rfl (hzr _)) rfl ?_
 simp only [nz]
 refine pl_store (w' := (w3.alloc (.cells zc.toArray 63)).setCells w3.heap.size 0 q) (by rfl) (ex_put (cs := q.toArray) rfl rfl rfl (there_newN _ _ _ (by simp [hzl, hql])) (by simpa using hiq) (all_one hq1)) rfl ?_
 refine pl_nil ?_
 obtain ⟨r4, hF2, hF3, -⟩ := fresh_store w3 zc.toArray 63 q (by simp [hzl, hql])
 have hT3 := there_blk hT2 (k3.block w.heap.size (by omega) (by omega) (by omega))
 have hB3 : Below w.heap.size w w3 := k3.to hB2 (by omega) (by omega)
 have z3 := k3.size
 obtain ⟨w4, hw4⟩ : ∃ W, (w3.alloc (.cells zc.toArray 63)).setCells w3.heap.size 0 q = W := ⟨_, rfl⟩
 rw [hw4] at r4 hF2 hF3 ⊢
 clear hw4
 have S4 := S3.below hF2
 have hT4 := there_below hT3 hF2 (by omega)
 have hB4 := hB3.trans (hF2.mono hB3.size)
 have hA4 := hA.below hF2
 have cf := cf Q R
 have hBk : m.Bk (fun b => w.heap.size < b) := ⟨hB.1.mono (fun b hb => by omega), hB.2.1.mono (fun b hb => by omega), fun y hy => (hB.2.2.1 y hy).mono (fun b hb => by omega), hB.2.2.2.1.mono (fun b hb => by omega), hB.2.2.2.2.1.mono (fun b hb => by omega), hB.2.2.2.2.2.mono (fun b hb => by omega)⟩
 have hBk0 : m.Bk (fun b => w.heap.size ≤ b) := ⟨hB.1.mono (fun b hb => by omega), hB.2.1.mono (fun b hb => by omega), fun y hy => (hB.2.2.1 y hy).mono (fun b hb => by omega), hB.2.2.2.1.mono (fun b hb => by omega), hB.2.2.2.2.1.mono (fun b hb => by omega), hB.2.2.2.2.2.mono (fun b hb => by omega)⟩
 have B9 := fun vs => below_sets (Nat.le_refl w.heap.size) vs 0 _ hB4
 have A9 := fun vs => Mg.At.put (o := 0) (vs := vs) hA4 hBk
 have HM := hide (show m.pure = mp ∧ m.ok ∧ m.Bk (fun b => w.heap.size ≤ b) from ⟨hp, hmo, hBk0⟩)
 clear hF2 hA hB hBk hBk0 hT3 hB3 S3 k3 hT2 hB2 hp hmo hA4 cr S2 hb2
 go_upto_region 5 with fail
 try simp only [Act.put]
 refine pl_begin ?_
 refine pl_t 15 (?_) (by rfl) ?_ rfl ?_
 rotate_left
 ·go_simp
  try with_reducible rfl
 simp only [nz]
 refine pl_call (d := some 16) (by rfl) (by go_simp; first | done | exact ⟨rfl, rfl⟩ | with_reducible rfl) rfl ?_
 refine (cf w4 S4).mono ?_
 rintro _ w5 ⟨rfl, hx⟩
 obtain rfl := hx.symm
 clear hx
 refine ⟨_, rfl, ?_⟩
 simp only [nz]
 refine pl_t 6 (?_) (by rfl) ?_ rfl ?_
 rotate_left
 ·go_simp
  try with_reducible rfl
 simp only [nz]
 refine pl_nil ?_
 clear cf S4
 by_cases hf : f = 0
 ·subst hf
  go_upto_region 8 with fail
  try simp only [Act.put]
  refine pl_begin ?_
  refine pl_t 21 (.agg q.toArray) (by rfl) (ex_mid rfl rfl r4 Tryz.underlying63 rfl hiq) rfl ?_
  simp only [nz]
  refine pl_store (w' := w4.setCells w.heap.size 0 q) (by rfl) (ex_put (cs := q.toArray) rfl rfl rfl (by simpa [hql] using hT4) (by simpa using hiq) (all_one hq1)) rfl ?_
  refine pl_t 3 (?_) (by rfl) ?_ rfl ?_
  rotate_left
  ·go_simp
   try with_reducible rfl
  simp only [nz]
  refine pl_nil ?_
  have hrs := run_loadVar_mid (P := Tryz.prog) (w4.setCells w.heap.size 0 q) w.heap.size 0 63 q _ (World.rangeAt_setCells_same w4 w.heap.size 0 q (by rw [hql]; exact hT4)) Tryz.underlying63 rfl hiq
  have HF : Hid (∃ g : Mg, Ending.returned (.tuple #[.agg q.toArray, .int .i64 0]) = .returned (.tuple #[.agg g.ms.cells.toArray, .int .i64 0]) ∧ g.pure = mp ∧ g.ok ∧ g.At (w4.setCells w.heap.size 0 q) ∧ g.Bk (fun b => w.heap.size ≤ b) ∧ Below w.heap.size w (w4.setCells w.heap.size 0 q)) := hide ⟨m, by rw [hqq.out], HM.out.1, HM.out.2.1, A9 q, HM.out.2.2, B9 q⟩
  clear HM A9 B9 r4 hT4 hB4 hqq
  go_wp2_with fail
  refine bodyPost_ret (results_ct rfl _ _ _ rfl hrs) rfl ?_
  exact HF.out
 ·have hfb : (f != 0) = true := by simpa using hf
  go_upto_region 7 with fail
  try simp only [Act.put]
  refine pl_begin ?_
  refine pl_t 19 (.agg zc.toArray) (by rfl) (ex_build (parts := []) rfl rfl (hb0 _)) rfl ?_
  simp only [nz]
  refine pl_t 20 (?_) (by rfl) ?_ rfl ?_
  rotate_left
  ·go_simp
   try with_reducible rfl
  simp only [nz]
  refine pl_store (w' := w4.setCells w.heap.size 0 zc) (by rfl) (ex_put (cs := zc.toArray) rfl rfl rfl (by simpa [hzl] using hT4) (by simpa using hiz) (all_one hz1)) rfl ?_
  refine pl_t 3 (?_) (by rfl) ?_ rfl ?_
  rotate_left
  ·go_simp
   try with_reducible rfl
  simp only [nz]
  refine pl_nil ?_
  have hrs := run_loadVar_mid (P := Tryz.prog) (w4.setCells w.heap.size 0 zc) w.heap.size 0 63 zc _ (World.rangeAt_setCells_same w4 w.heap.size 0 zc (by rw [hzl]; exact hT4)) Tryz.underlying63 rfl hiz
  have HF : Hid (∃ g : Mg, Ending.returned (.tuple #[.agg zc.toArray, .int .i64 f]) = .returned (.tuple #[.agg g.ms.cells.toArray, .int .i64 f]) ∧ g.pure = Mp.none ∧ g.ok ∧ g.At (w4.setCells w.heap.size 0 zc) ∧ g.Bk (fun b => w.heap.size ≤ b) ∧ Below w.heap.size w (w4.setCells w.heap.size 0 zc)) := hide ⟨Mg.none, by rw [hzc.out], rfl, Mg.none_ok, Mg.none_at _, ⟨no_bk, no_bk, no_bk2, no_bk, no_bk, no_bk⟩, B9 zc⟩
  clear HM A9 B9 r4 hT4 hB4 hqq hzc
  go_wp2_with fail
  refine bodyPost_ret (results_ct rfl _ _ _ rfl hrs) rfl ?_
  first | exact HF.out | (rw [if_neg hf]; exact HF.out) | (simp only [if_neg hf]; exact HF.out)
def xmg1 (s : Xst) : Mp × Xst := (⟨1, (xnuS 1048576 s).1, 0, 0, (xnuS 1099511627776 (xnuS 1048576 s).2).1, (xbaS (xnuS 1099511627776 (xnuS 1048576 s).2).2).1.1, (xbaS (xnuS 1099511627776 (xnuS 1048576 s).2).2).1.2, Vt.zero, 0, 0, 0, [], [], zeros32, Vt.zero, [], ⟨#[]⟩, []⟩, (xbaS (xnuS 1099511627776 (xnuS 1048576 s).2).2).2)
def xmg2 (s : Xst) : Mp × Xst := (⟨2, 0, 0, 0, 0, false, [], (xvoS s).1, 0, 0, 0, [], [], zeros32, Vt.zero, [], ⟨#[]⟩, []⟩, (xvoS s).2)
def xmg3 (s : Xst) : Mp × Xst := (⟨3, 0, 0, 0, 0, false, [], Vt.zero, (xchS s).1.e, (xchS s).1.l, (xchS s).1.v, (xchS s).1.he, [], zeros32, Vt.zero, [], ⟨#[]⟩, []⟩, (xchS s).2)
def xmg4 (s : Xst) : Mp × Xst := (⟨4, (xnuS 1048576 s).1, (xnuS 64 (xnuS 1048576 s).2).1, (xnuS 1099511627776 (xnuS 64 (xnuS 1048576 s).2).2).1, 0, false, [], Vt.zero, 0, 0, 0, [], (xlsS 64 xenS (xnuS 1099511627776 (xnuS 64 (xnuS 1048576 s).2).2).2).1, zeros32, Vt.zero, [], ⟨#[]⟩, []⟩, (xlsS 64 xenS (xnuS 1099511627776 (xnuS 64 (xnuS 1048576 s).2).2).2).2)
def xmg5 (s : Xst) : Mp × Xst := (⟨5, (xnuS 1048576 s).1, 0, 0, 0, false, [], Vt.zero, 0, 0, 0, [], [], (xdgS (xnuS 1048576 s).2).1, Vt.zero, [], ⟨#[]⟩, []⟩, (xdgS (xnuS 1048576 s).2).2)
def xmg6 (s : Xst) : Mp × Xst := (⟨6, (xnuS 1048576 s).1, 0, 0, (xnuS 1099511627776 (xnuS 1048576 s).2).1, false, [], Vt.zero, 0, 0, 0, [], [], zeros32, Vt.zero, [], ⟨#[]⟩, []⟩, (xnuS 1099511627776 (xnuS 1048576 s).2).2)
def xmg7 (s : Xst) : Mp × Xst := (⟨7, 0, 0, 0, 0, (xbaS s).1.1, (xbaS s).1.2, Vt.zero, 0, 0, 0, [], [], zeros32, (xceS (xbaS s).2).1.1, (xceS (xbaS s).2).1.2, ⟨#[]⟩, []⟩, (xceS (xbaS s).2).2)
def xmg8 (s : Xst) : Mp × Xst := (⟨8, 0, 0, 0, 0, false, [], Vt.zero, 0, 0, 0, [], [], zeros32, Vt.zero, [], (xtxS 4194304 s).1, (xlsS 64 xsiS (xtxS 4194304 s).2).1⟩, (xlsS 64 xsiS (xtxS 4194304 s).2).2)
def xmgF (k : Int) (s : Xst) : Mp × Xst := if k = 1 then xmg1 s else if k = 2 then xmg2 s else if k = 3 then xmg3 s else if k = 4 then xmg4 s else if k = 5 then xmg5 s else if k = 6 then xmg6 s else if k = 7 then xmg7 s else if k = 8 then xmg8 s else (⟨k, 0, 0, 0, 0, false, [], Vt.zero, 0, 0, 0, [], [], zeros32, Vt.zero, [], ⟨#[]⟩, []⟩, s)
theorem ex_box {P : Program} {o : Oper} {a : Act} {w : World} {t : TypeId} {x : Operand} {u : Array Value} (ho : o.op = .box t x) (hx : a.eval x = .agg u) : (execOp a.eval o).run P w = .ok (.value (.pointer (some ⟨w.heap.size, 0, none⟩))) (w.alloc (.cells u t)) := by
 unfold execOp
 simp [ho, hx, Instr.box, newVar, newRow, Value.cells]
theorem xdgS_ok (s : Xst) (hb : s.2 = 0 → Bs s.1) : (xdgS s).1.length = 32 ∧ ∀ z ∈ (xdgS s).1, 0 ≤ z ∧ z < 256 := ⟨padN_len _ _, padN_bs (rawS_t hb)⟩
theorem Sl.At.gbx {α : Type} {E : El α} {w w' : World} {X : Nat} {x : Sl α} {P : Nat → Prop} (h : x.At E w) (g : w.grownBy w' (some X)) (hb : x.Bk P) (hp : ∀ b, P b → b ≠ X) : x.At E w' :=
 h.on g.size hb (fun b hP hlt => g.block b hlt (fun q => by injection q with q; exact hp b hP q))
structure XW (w : World) (D X A B n : Nat) (q : List Value) (s : Xst) (W : World) : Prop where
  row : W.rangeAt B 0 q
  box : W.there B 0 n
  ans : W.there A 0 n
  gr : w.grownBy W (some X)
  rs : XR W D X s
  la : A < W.heap.size
  lb : B < W.heap.size
  na : w.heap.size ≤ A
  nb : w.heap.size ≤ B
  ne : A ≠ B
  lx : X < w.heap.size
theorem XW.on {w W W' : World} {D X A B n : Nat} {q : List Value} {s s' : Xst} (h : XW w D X A B n q s W) (g : W.grownBy W' (some X)) (S : XR W' D X s') : XW w D X A B n q s' W' := by
 have h1 := h.na
 have h2 := h.nb
 have h3 := h.lx
 exact ⟨range_gbR h.row g h.lb (by omega), there_gbR h.box g h.lb (by omega), there_gbR h.ans g h.la (by omega), gb_trans h.gr g, S, Nat.lt_of_lt_of_le h.la g.size, Nat.lt_of_lt_of_le h.lb g.size, h1, h2, h.ne, h3⟩
theorem XW.set {w W : World} {D X A B n : Nat} {q q' : List Value} {s : Xst} (h : XW w D X A B n q s W) (o : Nat) (vs : List Value) (hq : (W.setCells B o vs).rangeAt B 0 q') : XW w D X A B n q' s (W.setCells B o vs) := by
 have h2 := h.nb
 have h3 := h.lx
 have lo : Below w.heap.size W (W.setCells B o vs) := below_sets h2 vs o _ (Below.refl _ W)
 exact ⟨hq, World.there_setCells h.box _ _ _, World.there_setCells h.ans _ _ _, gb_onR h.gr lo (Nat.le_refl _), h.rs.low lo h3, by rw [size_sets]; exact h.la, by rw [size_sets]; exact h.lb, h.na, h2, h.ne, h3⟩
theorem XW.part {w W : World} {D X A B n : Nat} {q : List Value} {s : Xst} (h : XW w D X A B n q s W) (o m : Nat) (hm : o + m ≤ n) : W.there B o m := there_part1 h.box hm
set_option maxRecDepth 100000 in
set_option maxHeartbeats 1000000 in
theorem xfieldsK0 (D X : Nat) (s : Xst) (w : World) (h : XR w D X s) (k : Int) (n1 : k ≠ 1) (n2 : k ≠ 2) (n3 : k ≠ 3) (n4 : k ≠ 4) (n5 : k ≠ 5) (n6 : k ≠ 6) (n7 : k ≠ 7) (n8 : k ≠ 8) : Calls Tryz.prog 80 #[.pointer (some ⟨X, 0, none⟩), .agg (Ms.plain k 0 0 Vt.zero zeros32).cells.toArray] w fun en w' => ∃ m : Mg, en = .returned (.agg m.ms.cells.toArray) ∧ m.pure = ((⟨k, 0, 0, 0, 0, false, [], Vt.zero, 0, 0, 0, [], [], zeros32, Vt.zero, [], ⟨#[]⟩, []⟩, s) : Mp × Xst).1 ∧ m.ok ∧ m.At w' ∧ m.Bk (fun b => w.heap.size ≤ b) ∧ XR w' D X ((⟨k, 0, 0, 0, 0, false, [], Vt.zero, 0, 0, 0, [], [], zeros32, Vt.zero, [], ⟨#[]⟩, []⟩, s) : Mp × Xst).2 ∧ w.grownBy w' (some X) := by
 have hXw := h.lx
 have b1 : (k == 1) = false := by simpa using n1
 have b2 : (k == 2) = false := by simpa using n2
 have b3 : (k == 3) = false := by simpa using n3
 have b4 : (k == 4) = false := by simpa using n4
 have b5 : (k == 5) = false := by simpa using n5
 have b6 : (k == 6) = false := by simpa using n6
 have b7 : (k == 7) = false := by simpa using n7
 have b8 : (k == 8) = false := by simpa using n8
 clear n1 n2 n3 n4 n5 n6 n7 n8
 obtain ⟨zc, hzl, hzr⟩ : ∃ z : List Value, z.length = 119 ∧ ∀ w : World, (zeroValue 63).run Tryz.prog w = .ok (.agg z.toArray) w := ⟨_, (Ms.plain_ok 0 0 0 Vt.zero_ok zeros32_len zeros32_byte).len, zeroM⟩
 have hql := (ms0_ok k).len
 have hk0 : ∀ (w' : World) b, w'.rangeAt b 0 (Ms.plain k 0 0 Vt.zero zeros32).cells → w'.cell? ⟨b, 0, none⟩ = some (.int .i64 k) := fun w' b h => ((ms0_ok k).at h).k
 obtain ⟨qk, hqk⟩ : ∃ q, Hid ((Ms.plain k 0 0 Vt.zero zeros32).cells = q) := ⟨_, hide rfl⟩
 simp only [hqk.out] at hql hk0 ⊢
 obtain ⟨hB1, hr1, hs1⟩ := boxed_new w qk 63
 have ht1 := there_newN w qk.toArray 63 (n := 119) (by simp [hql])
 go_enter Tryz.func80, Tryz.ntmps80
 go_upto_region 0 with fail
 try simp only [Act.put]
 refine pl_begin ?_
 refine pl_run (d := some 3) (v := .pointer (some ⟨w.heap.size, 0, none⟩)) (w' := w.alloc (.cells qk.toArray 63)) (by rfl) (ex_box rfl rfl) rfl ?_
 simp only [nz]
 obtain ⟨W1, hW1⟩ : ∃ W, w.alloc (.cells qk.toArray 63) = W := ⟨_, rfl⟩
 rw [hW1] at hB1 hr1 hs1 ht1 ⊢
 clear hW1
 refine pl_run (d := some 4) (v := .pointer (some ⟨W1.heap.size, 0, none⟩)) (w' := W1.alloc (.cells zc.toArray 63)) (by rfl) (ex_alloc rfl (hzr _)) rfl ?_
 simp only [nz]
 refine pl_nil ?_
 obtain ⟨hB2, hr2, hs2⟩ := boxed_new W1 zc 63
 have ht2 := there_newN W1 zc.toArray 63 (n := 119) (by simp [hzl])
 obtain ⟨W2, hW2⟩ : ∃ W, W1.alloc (.cells zc.toArray 63) = W := ⟨_, rfl⟩
 rw [hW2] at hB2 hr2 hs2 ht2 ⊢
 clear hW2 hr2
 have hBW := hB1.trans (hB2.mono hB1.size)
 have hr3 := range_below hr1 hB2 hs1
 have hc0 := hk0 _ _ hr3
 rw [← hqk.out] at hr3
 have V0 : XW w D X W1.heap.size w.heap.size 119 (Ms.plain k 0 0 Vt.zero zeros32).cells s W2 := ⟨hr3, there_belowN ht1 hB2 hs1, ht2, gb_below hBW _, h.below hBW, hs2, by have := hB2.size; omega, hB1.size, Nat.le_refl _, by omega, hXw⟩
 clear hr3 ht1 ht2 hB1 hB2 hBW hr1 hk0 hqk h hzr hzl hql
 go_upto_region 1 with fail
 try simp only [Act.put]
 refine pl_begin ?_
 refine pl_t 5 (?_) (by rfl) ?_ rfl ?_
 rotate_left
 ·go_simp
  try with_reducible rfl
 simp only [nz]
 refine pl_t 6 (.int .i64 k) (by rfl) (pl_one rfl rfl hc0 Tryz.underlying3 rfl) rfl ?_
 simp only [nz]
 refine pl_nil ?_
 clear hc0
 have rpc := V0.row
 have hmo : Mg.ok ⟨k, 0, 0, 0, 0, false, ⟨none, 0, []⟩, Vt.zero, 0, 0, 0, ⟨none, 0, []⟩, ⟨none, 0, []⟩, zeros32, Vt.zero, ⟨none, 0, []⟩, ⟨#[]⟩, ⟨none, 0, []⟩⟩ := ⟨Vt.zero_ok, Vt.zero_ok, zeros32_len, zeros32_byte⟩
 have hpl : (Mg.ms ⟨k, 0, 0, 0, 0, false, ⟨none, 0, []⟩, Vt.zero, 0, 0, 0, ⟨none, 0, []⟩, ⟨none, 0, []⟩, zeros32, Vt.zero, ⟨none, 0, []⟩, ⟨#[]⟩, ⟨none, 0, []⟩⟩).cells.length = 119 := hmo.ms.len
 have hp1 := hmo.ms.one
 have hip : (Tryz.prog.info? 63).map (·.size) = some (Mg.ms ⟨k, 0, 0, 0, 0, false, ⟨none, 0, []⟩, Vt.zero, 0, 0, 0, ⟨none, 0, []⟩, ⟨none, 0, []⟩, zeros32, Vt.zero, ⟨none, 0, []⟩, ⟨#[]⟩, ⟨none, 0, []⟩⟩).cells.length := by rw [hpl]; exact iszM
 have rpc : W2.rangeAt w.heap.size 0 (Mg.ms ⟨k, 0, 0, 0, 0, false, ⟨none, 0, []⟩, Vt.zero, 0, 0, 0, ⟨none, 0, []⟩, ⟨none, 0, []⟩, zeros32, Vt.zero, ⟨none, 0, []⟩, ⟨#[]⟩, ⟨none, 0, []⟩⟩).cells := rpc
 obtain ⟨pc, hpc⟩ : ∃ p, Hid ((Mg.ms ⟨k, 0, 0, 0, 0, false, ⟨none, 0, []⟩, Vt.zero, 0, 0, 0, ⟨none, 0, []⟩, ⟨none, 0, []⟩, zeros32, Vt.zero, ⟨none, 0, []⟩, ⟨#[]⟩, ⟨none, 0, []⟩⟩).cells = p) := ⟨_, hide rfl⟩
 simp only [hpc.out] at hpl hip hp1 rpc
 go_upto_region 27 with fail
 try simp only [Act.put]
 refine pl_begin ?_
 refine pl_t 74 (.agg pc.toArray) (by rfl) (ex_mid rfl rfl rpc Tryz.underlying63 rfl hip) rfl ?_
 simp only [nz]
 refine pl_store (w' := W2.setCells W1.heap.size 0 pc) (by rfl) (ex_put (cs := pc.toArray) rfl rfl rfl (by simpa [hpl] using V0.ans) (by simpa using hip) (all_one hp1)) rfl ?_
 refine pl_nil ?_
 have hlow : Below w.heap.size W2 (W2.setCells W1.heap.size 0 pc) := below_sets V0.na pc 0 _ (Below.refl _ W2)
 have hrs := run_loadVar_mid (P := Tryz.prog) (W2.setCells W1.heap.size 0 pc) W1.heap.size 0 63 pc _ (World.rangeAt_setCells_same W2 W1.heap.size 0 pc (by rw [hpl]; exact V0.ans)) Tryz.underlying63 rfl hip
 have HF : Hid (∃ m : Mg, Ending.returned (.agg pc.toArray) = .returned (.agg m.ms.cells.toArray) ∧ m.pure = (⟨k, 0, 0, 0, 0, false, [], Vt.zero, 0, 0, 0, [], [], zeros32, Vt.zero, [], ⟨#[]⟩, []⟩ : Mp) ∧ m.ok ∧ m.At (W2.setCells W1.heap.size 0 pc) ∧ m.Bk (fun b => w.heap.size ≤ b) ∧ XR (W2.setCells W1.heap.size 0 pc) D X s ∧ w.grownBy (W2.setCells W1.heap.size 0 pc) (some X)) := hide ⟨⟨k, 0, 0, 0, 0, false, ⟨none, 0, []⟩, Vt.zero, 0, 0, 0, ⟨none, 0, []⟩, ⟨none, 0, []⟩, zeros32, Vt.zero, ⟨none, 0, []⟩, ⟨#[]⟩, ⟨none, 0, []⟩⟩, by rw [hpc.out], rfl, hmo, mg0_at RowsAt.none hds_none RowsAt.none RowsAt.none RowsAt.none, ⟨no_bk, no_bk, no_bk2, no_bk, no_bk, no_bk⟩, V0.rs.low hlow hXw, gb_onR V0.gr hlow (Nat.le_refl _)⟩
 clear V0 hlow rpc hpc hmo       
 go_wp2_with fail
 refine bodyPost_ret (v := .agg pc.toArray) ?_ rfl ?_
 ·simp [results, Tryz.results80, Act.put, asAddr, hrs]
 ·exact HF.out
set_option maxRecDepth 100000 in
set_option maxHeartbeats 1000000 in
theorem xfieldsK1 (D X : Nat) (s : Xst) (w : World) (h : XR w D X s)  : Calls Tryz.prog 80 #[.pointer (some ⟨X, 0, none⟩), .agg (Ms.plain 1 0 0 Vt.zero zeros32).cells.toArray] w fun en w' => ∃ m : Mg, en = .returned (.agg m.ms.cells.toArray) ∧ m.pure = (xmg1 s).1 ∧ m.ok ∧ m.At w' ∧ m.Bk (fun b => w.heap.size ≤ b) ∧ XR w' D X (xmg1 s).2 ∧ w.grownBy w' (some X) := by
 have hXw := h.lx
 unfold xmg1
 have c_a := fun w0 h0 => xnumS D X 1048576 s w0 h0
 generalize xnuS 1048576 s = p_ at c_a ⊢
 obtain ⟨v_a, s_a⟩ := p_
 simp only at c_a ⊢
 have c_b := fun w0 h0 => xnumS D X 1099511627776 s_a w0 h0
 generalize xnuS 1099511627776 s_a = p_ at c_b ⊢
 obtain ⟨v_b, s_b⟩ := p_
 simp only at c_b ⊢
 have c_c := fun w0 h0 => xbatS D X s_b w0 h0
 generalize xbaS s_b = p_ at c_c ⊢
 obtain ⟨⟨q_c, rs_c⟩, s_c⟩ := p_
 simp only at c_c ⊢
 obtain ⟨zc, hzl, hzr⟩ : ∃ z : List Value, z.length = 119 ∧ ∀ w : World, (zeroValue 63).run Tryz.prog w = .ok (.agg z.toArray) w := ⟨_, (Ms.plain_ok 0 0 0 Vt.zero_ok zeros32_len zeros32_byte).len, zeroM⟩
 have hql := (ms0_ok 1).len
 have hk0 : ∀ (w' : World) b, w'.rangeAt b 0 (Ms.plain 1 0 0 Vt.zero zeros32).cells → w'.cell? ⟨b, 0, none⟩ = some (.int .i64 1) := fun w' b h => ((ms0_ok 1).at h).k
 obtain ⟨qk, hqk⟩ : ∃ q, Hid ((Ms.plain 1 0 0 Vt.zero zeros32).cells = q) := ⟨_, hide rfl⟩
 simp only [hqk.out] at hql hk0 ⊢
 obtain ⟨hB1, hr1, hs1⟩ := boxed_new w qk 63
 have ht1 := there_newN w qk.toArray 63 (n := 119) (by simp [hql])
 go_enter Tryz.func80, Tryz.ntmps80
 go_upto_region 0 with fail
 try simp only [Act.put]
 refine pl_begin ?_
 refine pl_run (d := some 3) (v := .pointer (some ⟨w.heap.size, 0, none⟩)) (w' := w.alloc (.cells qk.toArray 63)) (by rfl) (ex_box rfl rfl) rfl ?_
 simp only [nz]
 obtain ⟨W1, hW1⟩ : ∃ W, w.alloc (.cells qk.toArray 63) = W := ⟨_, rfl⟩
 rw [hW1] at hB1 hr1 hs1 ht1 ⊢
 clear hW1
 refine pl_run (d := some 4) (v := .pointer (some ⟨W1.heap.size, 0, none⟩)) (w' := W1.alloc (.cells zc.toArray 63)) (by rfl) (ex_alloc rfl (hzr _)) rfl ?_
 simp only [nz]
 refine pl_nil ?_
 obtain ⟨hB2, hr2, hs2⟩ := boxed_new W1 zc 63
 have ht2 := there_newN W1 zc.toArray 63 (n := 119) (by simp [hzl])
 obtain ⟨W2, hW2⟩ : ∃ W, W1.alloc (.cells zc.toArray 63) = W := ⟨_, rfl⟩
 rw [hW2] at hB2 hr2 hs2 ht2 ⊢
 clear hW2 hr2
 have hBW := hB1.trans (hB2.mono hB1.size)
 have hr3 := range_below hr1 hB2 hs1
 have hc0 := hk0 _ _ hr3
 rw [← hqk.out] at hr3
 have V0 : XW w D X W1.heap.size w.heap.size 119 (Ms.plain 1 0 0 Vt.zero zeros32).cells s W2 := ⟨hr3, there_belowN ht1 hB2 hs1, ht2, gb_below hBW _, h.below hBW, hs2, by have := hB2.size; omega, hB1.size, Nat.le_refl _, by omega, hXw⟩
 clear hr3 ht1 ht2 hB1 hB2 hBW hr1 hk0 hqk h hzr hzl hql
 go_upto_region 1 with fail
 try simp only [Act.put]
 refine pl_begin ?_
 refine pl_t 5 (?_) (by rfl) ?_ rfl ?_
 rotate_left
 ·go_simp
  try with_reducible rfl
 simp only [nz]
 refine pl_t 6 (.int .i64 1) (by rfl) (pl_one rfl rfl hc0 Tryz.underlying3 rfl) rfl ?_
 simp only [nz]
 refine pl_nil ?_
 clear hc0
 go_upto_region 3 with fail
 try simp only [Act.put]
 refine pl_begin ?_
 refine pl_t 9 (?_) (by rfl) ?_ rfl ?_
 rotate_left
 ·go_simp
  try with_reducible rfl
 simp only [nz]
 refine pl_call (d := some 10) (by rfl) (by go_simp; first | done | exact ⟨rfl, rfl⟩ | with_reducible rfl) rfl ?_
 refine (c_a W2 V0.rs).mono ?_
 rintro _ w1a ⟨rfl, S1, g1⟩
 refine ⟨_, rfl, ?_⟩
 simp only [nz]
 refine pl_t 11 (?_) (by rfl) ?_ rfl ?_
 rotate_left
 ·go_simp
  try with_reducible rfl
 simp only [nz]
 have U1 := V0.on g1 S1
 have V1 := U1.set 1 [.int .i64 v_a] (put_e v_a U1.row (U1.part 1 1 (by decide)))
 have zz1 := V0.gr.size
 have lb1 := V0.lb
 have la1 := V0.la
 have yy1 := g1.size
 refine pl_store (w' := w1a.setCells w.heap.size 1 [.int .i64 v_a]) (by rfl) (ex_put1 (n := 119) rfl rfl rfl U1.box (by decide) iszI rfl rfl) rfl ?_
 refine pl_nil ?_
 clear S1 U1 V0 c_a
 obtain ⟨w1b, hw1b⟩ : ∃ W, w1a.setCells w.heap.size 1 [.int .i64 v_a] = W := ⟨_, rfl⟩
 rw [hw1b] at V1 ⊢
 clear hw1b
 go_upto_region 4 with fail
 try simp only [Act.put]
 refine pl_begin ?_
 refine pl_t 12 (?_) (by rfl) ?_ rfl ?_
 rotate_left
 ·go_simp
  try with_reducible rfl
 simp only [nz]
 refine pl_call (d := some 13) (by rfl) (by go_simp; first | done | exact ⟨rfl, rfl⟩ | with_reducible rfl) rfl ?_
 refine (c_b w1b V1.rs).mono ?_
 rintro _ w2a ⟨rfl, S2, g2⟩
 refine ⟨_, rfl, ?_⟩
 simp only [nz]
 refine pl_t 14 (?_) (by rfl) ?_ rfl ?_
 rotate_left
 ·go_simp
  try with_reducible rfl
 simp only [nz]
 have U2 := V1.on g2 S2
 have V2 := U2.set 4 [.int .i64 v_b] (put_s v_b U2.row (U2.part 4 1 (by decide)))
 have zz2 := V1.gr.size
 have lb2 := V1.lb
 have la2 := V1.la
 have yy2 := g2.size
 refine pl_store (w' := w2a.setCells w.heap.size 4 [.int .i64 v_b]) (by rfl) (ex_put1 (n := 119) rfl rfl rfl U2.box (by decide) iszI rfl rfl) rfl ?_
 refine pl_nil ?_
 clear S2 U2 V1 c_b
 obtain ⟨w2b, hw2b⟩ : ∃ W, w2a.setCells w.heap.size 4 [.int .i64 v_b] = W := ⟨_, rfl⟩
 rw [hw2b] at V2 ⊢
 clear hw2b
 go_upto_region 5 with fail
 try simp only [Act.put]
 refine pl_begin ?_
 refine pl_t 15 (?_) (by rfl) ?_ rfl ?_
 rotate_left
 ·go_simp
  try with_reducible rfl
 simp only [nz]
 refine pl_call (d := some 16) (by rfl) (by go_simp; first | done | exact ⟨rfl, rfl⟩ | with_reducible rfl) rfl ?_
 refine (c_c w2b V2.rs).mono ?_
 rintro _ w3a ⟨x, rfl, hx, hA, hB, S3, g3⟩
 refine ⟨_, rfl, ?_⟩
 simp only [nz]
 refine pl_t 17 (?_) (by rfl) ?_ rfl ?_
 rotate_left
 ·go_simp
  try with_reducible rfl
 simp only [nz]
 have U3 := V2.on g3 S3
 have V3 := U3.set 5 [.bool q_c, x.val] (put_b q_c x.val U3.row (U3.part 5 2 (by decide)))
 have zz3 := V2.gr.size
 have lb3 := V2.lb
 have la3 := V2.la
 have yy3 := g3.size
 refine pl_store (w' := w3a.setCells w.heap.size 5 [.bool q_c, x.val]) (by rfl) (ex_put (cs := #[.bool q_c, x.val]) rfl rfl rfl (U3.part 5 2 (by decide)) iszBa (by simp [Value.oneCell', Sl.val])) rfl ?_
 refine pl_nil ?_
 have hA3 := hA.put (B := w.heap.size) (o := 5) (vs := [.bool q_c, x.val]) hB (fun b hb => by omega)
 clear hA
 clear S3 U3 V2 c_c
 obtain ⟨w3b, hw3b⟩ : ∃ W, w3a.setCells w.heap.size 5 [.bool q_c, x.val] = W := ⟨_, rfl⟩
 rw [hw3b] at V3 hA3 ⊢
 clear hw3b
 have rpc := V3.row
 have hmo : Mg.ok ⟨1, v_a, 0, 0, v_b, q_c, x, Vt.zero, 0, 0, 0, ⟨none, 0, []⟩, ⟨none, 0, []⟩, zeros32, Vt.zero, ⟨none, 0, []⟩, ⟨#[]⟩, ⟨none, 0, []⟩⟩ := ⟨Vt.zero_ok, Vt.zero_ok, zeros32_len, zeros32_byte⟩
 have hpl : (Mg.ms ⟨1, v_a, 0, 0, v_b, q_c, x, Vt.zero, 0, 0, 0, ⟨none, 0, []⟩, ⟨none, 0, []⟩, zeros32, Vt.zero, ⟨none, 0, []⟩, ⟨#[]⟩, ⟨none, 0, []⟩⟩).cells.length = 119 := hmo.ms.len
 have hp1 := hmo.ms.one
 have hip : (Tryz.prog.info? 63).map (·.size) = some (Mg.ms ⟨1, v_a, 0, 0, v_b, q_c, x, Vt.zero, 0, 0, 0, ⟨none, 0, []⟩, ⟨none, 0, []⟩, zeros32, Vt.zero, ⟨none, 0, []⟩, ⟨#[]⟩, ⟨none, 0, []⟩⟩).cells.length := by rw [hpl]; exact iszM
 have rpc : w3b.rangeAt w.heap.size 0 (Mg.ms ⟨1, v_a, 0, 0, v_b, q_c, x, Vt.zero, 0, 0, 0, ⟨none, 0, []⟩, ⟨none, 0, []⟩, zeros32, Vt.zero, ⟨none, 0, []⟩, ⟨#[]⟩, ⟨none, 0, []⟩⟩).cells := rpc
 obtain ⟨pc, hpc⟩ : ∃ p, Hid ((Mg.ms ⟨1, v_a, 0, 0, v_b, q_c, x, Vt.zero, 0, 0, 0, ⟨none, 0, []⟩, ⟨none, 0, []⟩, zeros32, Vt.zero, ⟨none, 0, []⟩, ⟨#[]⟩, ⟨none, 0, []⟩⟩).cells = p) := ⟨_, hide rfl⟩
 simp only [hpc.out] at hpl hip hp1 rpc
 go_upto_region 27 with fail
 try simp only [Act.put]
 refine pl_begin ?_
 refine pl_t 74 (.agg pc.toArray) (by rfl) (ex_mid rfl rfl rpc Tryz.underlying63 rfl hip) rfl ?_
 simp only [nz]
 refine pl_store (w' := w3b.setCells W1.heap.size 0 pc) (by rfl) (ex_put (cs := pc.toArray) rfl rfl rfl (by simpa [hpl] using V3.ans) (by simpa using hip) (all_one hp1)) rfl ?_
 refine pl_nil ?_
 have hlow : Below w.heap.size w3b (w3b.setCells W1.heap.size 0 pc) := below_sets V3.na pc 0 _ (Below.refl _ w3b)
 have hrs := run_loadVar_mid (P := Tryz.prog) (w3b.setCells W1.heap.size 0 pc) W1.heap.size 0 63 pc _ (World.rangeAt_setCells_same w3b W1.heap.size 0 pc (by rw [hpl]; exact V3.ans)) Tryz.underlying63 rfl hip
 have HF : Hid (∃ m : Mg, Ending.returned (.agg pc.toArray) = .returned (.agg m.ms.cells.toArray) ∧ m.pure = (⟨1, v_a, 0, 0, v_b, q_c, rs_c, Vt.zero, 0, 0, 0, [], [], zeros32, Vt.zero, [], ⟨#[]⟩, []⟩ : Mp) ∧ m.ok ∧ m.At (w3b.setCells W1.heap.size 0 pc) ∧ m.Bk (fun b => w.heap.size ≤ b) ∧ XR (w3b.setCells W1.heap.size 0 pc) D X s_c ∧ w.grownBy (w3b.setCells W1.heap.size 0 pc) (some X)) := hide ⟨⟨1, v_a, 0, 0, v_b, q_c, x, Vt.zero, 0, 0, 0, ⟨none, 0, []⟩, ⟨none, 0, []⟩, zeros32, Vt.zero, ⟨none, 0, []⟩, ⟨#[]⟩, ⟨none, 0, []⟩⟩, by rw [hpc.out], by rw [← hx]; rfl, hmo, mg0_at (hA3.put hB (fun b hb => by omega)) hds_none RowsAt.none RowsAt.none RowsAt.none, ⟨hB.mono (fun b hb => by omega), no_bk, no_bk2, no_bk, no_bk, no_bk⟩, V3.rs.low hlow hXw, gb_onR V3.gr hlow (Nat.le_refl _)⟩
 clear V3 hlow rpc hpc hmo hx  hB   hA3 
 go_wp2_with fail
 refine bodyPost_ret (v := .agg pc.toArray) ?_ rfl ?_
 ·simp [results, Tryz.results80, Act.put, asAddr, hrs]
 ·exact HF.out
set_option maxRecDepth 100000 in
set_option maxHeartbeats 1000000 in
theorem xfieldsK2 (D X : Nat) (s : Xst) (w : World) (h : XR w D X s)  : Calls Tryz.prog 80 #[.pointer (some ⟨X, 0, none⟩), .agg (Ms.plain 2 0 0 Vt.zero zeros32).cells.toArray] w fun en w' => ∃ m : Mg, en = .returned (.agg m.ms.cells.toArray) ∧ m.pure = (xmg2 s).1 ∧ m.ok ∧ m.At w' ∧ m.Bk (fun b => w.heap.size ≤ b) ∧ XR w' D X (xmg2 s).2 ∧ w.grownBy w' (some X) := by
 have hXw := h.lx
 unfold xmg2
 have c_a := fun w0 h0 => xvoteS D X s w0 h0
 have ok_a := fun hb => xvoS_ok s hb
 generalize xvoS s = p_ at c_a ok_a ⊢
 obtain ⟨v_a, s_a⟩ := p_
 simp only at c_a ok_a ⊢
 obtain ⟨zc, hzl, hzr⟩ : ∃ z : List Value, z.length = 119 ∧ ∀ w : World, (zeroValue 63).run Tryz.prog w = .ok (.agg z.toArray) w := ⟨_, (Ms.plain_ok 0 0 0 Vt.zero_ok zeros32_len zeros32_byte).len, zeroM⟩
 have hql := (ms0_ok 2).len
 have hk0 : ∀ (w' : World) b, w'.rangeAt b 0 (Ms.plain 2 0 0 Vt.zero zeros32).cells → w'.cell? ⟨b, 0, none⟩ = some (.int .i64 2) := fun w' b h => ((ms0_ok 2).at h).k
 obtain ⟨qk, hqk⟩ : ∃ q, Hid ((Ms.plain 2 0 0 Vt.zero zeros32).cells = q) := ⟨_, hide rfl⟩
 simp only [hqk.out] at hql hk0 ⊢
 obtain ⟨hB1, hr1, hs1⟩ := boxed_new w qk 63
 have ht1 := there_newN w qk.toArray 63 (n := 119) (by simp [hql])
 go_enter Tryz.func80, Tryz.ntmps80
 go_upto_region 0 with fail
 try simp only [Act.put]
 refine pl_begin ?_
 refine pl_run (d := some 3) (v := .pointer (some ⟨w.heap.size, 0, none⟩)) (w' := w.alloc (.cells qk.toArray 63)) (by rfl) (ex_box rfl rfl) rfl ?_
 simp only [nz]
 obtain ⟨W1, hW1⟩ : ∃ W, w.alloc (.cells qk.toArray 63) = W := ⟨_, rfl⟩
 rw [hW1] at hB1 hr1 hs1 ht1 ⊢
 clear hW1
 refine pl_run (d := some 4) (v := .pointer (some ⟨W1.heap.size, 0, none⟩)) (w' := W1.alloc (.cells zc.toArray 63)) (by rfl) (ex_alloc rfl (hzr _)) rfl ?_
 simp only [nz]
 refine pl_nil ?_
 obtain ⟨hB2, hr2, hs2⟩ := boxed_new W1 zc 63
 have ht2 := there_newN W1 zc.toArray 63 (n := 119) (by simp [hzl])
 obtain ⟨W2, hW2⟩ : ∃ W, W1.alloc (.cells zc.toArray 63) = W := ⟨_, rfl⟩
 rw [hW2] at hB2 hr2 hs2 ht2 ⊢
 clear hW2 hr2
 have hBW := hB1.trans (hB2.mono hB1.size)
 have hr3 := range_below hr1 hB2 hs1
 have hc0 := hk0 _ _ hr3
 rw [← hqk.out] at hr3
 have V0 : XW w D X W1.heap.size w.heap.size 119 (Ms.plain 2 0 0 Vt.zero zeros32).cells s W2 := ⟨hr3, there_belowN ht1 hB2 hs1, ht2, gb_below hBW _, h.below hBW, hs2, by have := hB2.size; omega, hB1.size, Nat.le_refl _, by omega, hXw⟩
 clear hr3 ht1 ht2 hB1 hB2 hBW hr1 hk0 hqk h hzr hzl hql
 go_upto_region 1 with fail
 try simp only [Act.put]
 refine pl_begin ?_
 refine pl_t 5 (?_) (by rfl) ?_ rfl ?_
 rotate_left
 ·go_simp
  try with_reducible rfl
 simp only [nz]
 refine pl_t 6 (.int .i64 2) (by rfl) (pl_one rfl rfl hc0 Tryz.underlying3 rfl) rfl ?_
 simp only [nz]
 refine pl_nil ?_
 clear hc0
 go_upto_region 7 with fail
 try simp only [Act.put]
 refine pl_begin ?_
 refine pl_t 20 (?_) (by rfl) ?_ rfl ?_
 rotate_left
 ·go_simp
  try with_reducible rfl
 simp only [nz]
 refine pl_call (d := some 21) (by rfl) (by go_simp; first | done | exact ⟨rfl, rfl⟩ | with_reducible rfl) rfl ?_
 refine (c_a W2 V0.rs).mono ?_
 rintro _ w1a ⟨rfl, S1, g1⟩
 refine ⟨_, rfl, ?_⟩
 simp only [nz]
 refine pl_t 22 (?_) (by rfl) ?_ rfl ?_
 rotate_left
 ·go_simp
  try with_reducible rfl
 simp only [nz]
 have U1 := V0.on g1 S1
 have hv := ok_a V0.rs.st.bs
 have hvl := hv.len
 have V1 := U1.set 7 v_a.cells (put_vt v_a hv Vt.zero_ok U1.row (U1.part 7 36 (by decide)))
 have zz1 := V0.gr.size
 have lb1 := V0.lb
 have la1 := V0.la
 have yy1 := g1.size
 refine pl_store (w' := w1a.setCells w.heap.size 7 v_a.cells) (by rfl) (ex_put (cs := v_a.cells.toArray) rfl rfl rfl (by simpa [hvl] using U1.part 7 36 (by decide)) (by simpa [hvl] using iszVo) (all_one (Vt.one v_a))) rfl ?_
 refine pl_nil ?_
 clear S1 U1 V0 c_a
 obtain ⟨w1b, hw1b⟩ : ∃ W, w1a.setCells w.heap.size 7 v_a.cells = W := ⟨_, rfl⟩
 rw [hw1b] at V1 ⊢
 clear hw1b
 have rpc := V1.row
 have hmo : Mg.ok ⟨2, 0, 0, 0, 0, false, ⟨none, 0, []⟩, v_a, 0, 0, 0, ⟨none, 0, []⟩, ⟨none, 0, []⟩, zeros32, Vt.zero, ⟨none, 0, []⟩, ⟨#[]⟩, ⟨none, 0, []⟩⟩ := ⟨hv, Vt.zero_ok, zeros32_len, zeros32_byte⟩
 have hpl : (Mg.ms ⟨2, 0, 0, 0, 0, false, ⟨none, 0, []⟩, v_a, 0, 0, 0, ⟨none, 0, []⟩, ⟨none, 0, []⟩, zeros32, Vt.zero, ⟨none, 0, []⟩, ⟨#[]⟩, ⟨none, 0, []⟩⟩).cells.length = 119 := hmo.ms.len
 have hp1 := hmo.ms.one
 have hip : (Tryz.prog.info? 63).map (·.size) = some (Mg.ms ⟨2, 0, 0, 0, 0, false, ⟨none, 0, []⟩, v_a, 0, 0, 0, ⟨none, 0, []⟩, ⟨none, 0, []⟩, zeros32, Vt.zero, ⟨none, 0, []⟩, ⟨#[]⟩, ⟨none, 0, []⟩⟩).cells.length := by rw [hpl]; exact iszM
 have rpc : w1b.rangeAt w.heap.size 0 (Mg.ms ⟨2, 0, 0, 0, 0, false, ⟨none, 0, []⟩, v_a, 0, 0, 0, ⟨none, 0, []⟩, ⟨none, 0, []⟩, zeros32, Vt.zero, ⟨none, 0, []⟩, ⟨#[]⟩, ⟨none, 0, []⟩⟩).cells := rpc
 obtain ⟨pc, hpc⟩ : ∃ p, Hid ((Mg.ms ⟨2, 0, 0, 0, 0, false, ⟨none, 0, []⟩, v_a, 0, 0, 0, ⟨none, 0, []⟩, ⟨none, 0, []⟩, zeros32, Vt.zero, ⟨none, 0, []⟩, ⟨#[]⟩, ⟨none, 0, []⟩⟩).cells = p) := ⟨_, hide rfl⟩
 simp only [hpc.out] at hpl hip hp1 rpc
 go_upto_region 27 with fail
 try simp only [Act.put]
 refine pl_begin ?_
 refine pl_t 74 (.agg pc.toArray) (by rfl) (ex_mid rfl rfl rpc Tryz.underlying63 rfl hip) rfl ?_
 simp only [nz]
 refine pl_store (w' := w1b.setCells W1.heap.size 0 pc) (by rfl) (ex_put (cs := pc.toArray) rfl rfl rfl (by simpa [hpl] using V1.ans) (by simpa using hip) (all_one hp1)) rfl ?_
 refine pl_nil ?_
 have hlow : Below w.heap.size w1b (w1b.setCells W1.heap.size 0 pc) := below_sets V1.na pc 0 _ (Below.refl _ w1b)
 have hrs := run_loadVar_mid (P := Tryz.prog) (w1b.setCells W1.heap.size 0 pc) W1.heap.size 0 63 pc _ (World.rangeAt_setCells_same w1b W1.heap.size 0 pc (by rw [hpl]; exact V1.ans)) Tryz.underlying63 rfl hip
 have HF : Hid (∃ m : Mg, Ending.returned (.agg pc.toArray) = .returned (.agg m.ms.cells.toArray) ∧ m.pure = (⟨2, 0, 0, 0, 0, false, [], v_a, 0, 0, 0, [], [], zeros32, Vt.zero, [], ⟨#[]⟩, []⟩ : Mp) ∧ m.ok ∧ m.At (w1b.setCells W1.heap.size 0 pc) ∧ m.Bk (fun b => w.heap.size ≤ b) ∧ XR (w1b.setCells W1.heap.size 0 pc) D X s_a ∧ w.grownBy (w1b.setCells W1.heap.size 0 pc) (some X)) := hide ⟨⟨2, 0, 0, 0, 0, false, ⟨none, 0, []⟩, v_a, 0, 0, 0, ⟨none, 0, []⟩, ⟨none, 0, []⟩, zeros32, Vt.zero, ⟨none, 0, []⟩, ⟨#[]⟩, ⟨none, 0, []⟩⟩, by rw [hpc.out], rfl, hmo, mg0_at RowsAt.none hds_none RowsAt.none RowsAt.none RowsAt.none, ⟨no_bk, no_bk, no_bk2, no_bk, no_bk, no_bk⟩, V1.rs.low hlow hXw, gb_onR V1.gr hlow (Nat.le_refl _)⟩
 clear V1 hlow rpc hpc hmo       
 go_wp2_with fail
 refine bodyPost_ret (v := .agg pc.toArray) ?_ rfl ?_
 ·simp [results, Tryz.results80, Act.put, asAddr, hrs]
 ·exact HF.out
set_option maxRecDepth 100000 in
set_option maxHeartbeats 1000000 in
theorem xfieldsK3 (D X : Nat) (s : Xst) (w : World) (h : XR w D X s)  : Calls Tryz.prog 80 #[.pointer (some ⟨X, 0, none⟩), .agg (Ms.plain 3 0 0 Vt.zero zeros32).cells.toArray] w fun en w' => ∃ m : Mg, en = .returned (.agg m.ms.cells.toArray) ∧ m.pure = (xmg3 s).1 ∧ m.ok ∧ m.At w' ∧ m.Bk (fun b => w.heap.size ≤ b) ∧ XR w' D X (xmg3 s).2 ∧ w.grownBy w' (some X) := by
 have hXw := h.lx
 unfold xmg3
 have c_a := fun w0 h0 => xchangeS D X s w0 h0
 generalize xchS s = p_ at c_a ⊢
 obtain ⟨⟨e_a, m_a, n_a, he_a⟩, s_a⟩ := p_
 simp only at c_a ⊢
 obtain ⟨zc, hzl, hzr⟩ : ∃ z : List Value, z.length = 119 ∧ ∀ w : World, (zeroValue 63).run Tryz.prog w = .ok (.agg z.toArray) w := ⟨_, (Ms.plain_ok 0 0 0 Vt.zero_ok zeros32_len zeros32_byte).len, zeroM⟩
 have hql := (ms0_ok 3).len
 have hk0 : ∀ (w' : World) b, w'.rangeAt b 0 (Ms.plain 3 0 0 Vt.zero zeros32).cells → w'.cell? ⟨b, 0, none⟩ = some (.int .i64 3) := fun w' b h => ((ms0_ok 3).at h).k
 obtain ⟨qk, hqk⟩ : ∃ q, Hid ((Ms.plain 3 0 0 Vt.zero zeros32).cells = q) := ⟨_, hide rfl⟩
 simp only [hqk.out] at hql hk0 ⊢
 obtain ⟨hB1, hr1, hs1⟩ := boxed_new w qk 63
 have ht1 := there_newN w qk.toArray 63 (n := 119) (by simp [hql])
 go_enter Tryz.func80, Tryz.ntmps80
 go_upto_region 0 with fail
 try simp only [Act.put]
 refine pl_begin ?_
 refine pl_run (d := some 3) (v := .pointer (some ⟨w.heap.size, 0, none⟩)) (w' := w.alloc (.cells qk.toArray 63)) (by rfl) (ex_box rfl rfl) rfl ?_
 simp only [nz]
 obtain ⟨W1, hW1⟩ : ∃ W, w.alloc (.cells qk.toArray 63) = W := ⟨_, rfl⟩
 rw [hW1] at hB1 hr1 hs1 ht1 ⊢
 clear hW1
 refine pl_run (d := some 4) (v := .pointer (some ⟨W1.heap.size, 0, none⟩)) (w' := W1.alloc (.cells zc.toArray 63)) (by rfl) (ex_alloc rfl (hzr _)) rfl ?_
 simp only [nz]
 refine pl_nil ?_
 obtain ⟨hB2, hr2, hs2⟩ := boxed_new W1 zc 63
 have ht2 := there_newN W1 zc.toArray 63 (n := 119) (by simp [hzl])
 obtain ⟨W2, hW2⟩ : ∃ W, W1.alloc (.cells zc.toArray 63) = W := ⟨_, rfl⟩
 rw [hW2] at hB2 hr2 hs2 ht2 ⊢
 clear hW2 hr2
 have hBW := hB1.trans (hB2.mono hB1.size)
 have hr3 := range_below hr1 hB2 hs1
 have hc0 := hk0 _ _ hr3
 rw [← hqk.out] at hr3
 have V0 : XW w D X W1.heap.size w.heap.size 119 (Ms.plain 3 0 0 Vt.zero zeros32).cells s W2 := ⟨hr3, there_belowN ht1 hB2 hs1, ht2, gb_below hBW _, h.below hBW, hs2, by have := hB2.size; omega, hB1.size, Nat.le_refl _, by omega, hXw⟩
 clear hr3 ht1 ht2 hB1 hB2 hBW hr1 hk0 hqk h hzr hzl hql
 go_upto_region 1 with fail
 try simp only [Act.put]
 refine pl_begin ?_
 refine pl_t 5 (?_) (by rfl) ?_ rfl ?_
 rotate_left
 ·go_simp
  try with_reducible rfl
 simp only [nz]
 refine pl_t 6 (.int .i64 3) (by rfl) (pl_one rfl rfl hc0 Tryz.underlying3 rfl) rfl ?_
 simp only [nz]
 refine pl_nil ?_
 clear hc0
 go_upto_region 9 with fail
 try simp only [Act.put]
 refine pl_begin ?_
 refine pl_t 25 (?_) (by rfl) ?_ rfl ?_
 rotate_left
 ·go_simp
  try with_reducible rfl
 simp only [nz]
 refine pl_call (d := some 26) (by rfl) (by go_simp; first | done | exact ⟨rfl, rfl⟩ | with_reducible rfl) rfl ?_
 refine (c_a W2 V0.rs).mono ?_
 rintro _ w1a ⟨x, rfl, hx, hA, hB, hB2, S1, g1⟩
 refine ⟨_, rfl, ?_⟩
 simp only [nz]
 refine pl_t 27 (?_) (by rfl) ?_ rfl ?_
 rotate_left
 ·go_simp
  try with_reducible rfl
 simp only [nz]
 have U1 := V0.on g1 S1
 have V1 := U1.set 43 [.int .i64 e_a, .int .i64 m_a, .int .i64 n_a, x.val] (put_ch e_a m_a n_a x.val Vt.zero_ok U1.row (U1.part 43 4 (by decide)))
 have zz1 := V0.gr.size
 have lb1 := V0.lb
 have la1 := V0.la
 have yy1 := g1.size
 refine pl_store (w' := w1a.setCells w.heap.size 43 [.int .i64 e_a, .int .i64 m_a, .int .i64 n_a, x.val]) (by rfl) (ex_put (cs := #[.int .i64 e_a, .int .i64 m_a, .int .i64 n_a, x.val]) rfl rfl rfl (U1.part 43 4 (by decide)) iszCh (by simp [Value.oneCell', Sl.val])) rfl ?_
 refine pl_nil ?_
 have hA1 := hA.put (B := w.heap.size) (o := 43) (vs := [.int .i64 e_a, .int .i64 m_a, .int .i64 n_a, x.val]) hB hB2 (fun b hb => by omega)
 clear hA
 clear S1 U1 V0 c_a
 obtain ⟨w1b, hw1b⟩ : ∃ W, w1a.setCells w.heap.size 43 [.int .i64 e_a, .int .i64 m_a, .int .i64 n_a, x.val] = W := ⟨_, rfl⟩
 rw [hw1b] at V1 hA1 ⊢
 clear hw1b
 have rpc := V1.row
 have hmo : Mg.ok ⟨3, 0, 0, 0, 0, false, ⟨none, 0, []⟩, Vt.zero, e_a, m_a, n_a, x, ⟨none, 0, []⟩, zeros32, Vt.zero, ⟨none, 0, []⟩, ⟨#[]⟩, ⟨none, 0, []⟩⟩ := ⟨Vt.zero_ok, Vt.zero_ok, zeros32_len, zeros32_byte⟩
 have hpl : (Mg.ms ⟨3, 0, 0, 0, 0, false, ⟨none, 0, []⟩, Vt.zero, e_a, m_a, n_a, x, ⟨none, 0, []⟩, zeros32, Vt.zero, ⟨none, 0, []⟩, ⟨#[]⟩, ⟨none, 0, []⟩⟩).cells.length = 119 := hmo.ms.len
 have hp1 := hmo.ms.one
 have hip : (Tryz.prog.info? 63).map (·.size) = some (Mg.ms ⟨3, 0, 0, 0, 0, false, ⟨none, 0, []⟩, Vt.zero, e_a, m_a, n_a, x, ⟨none, 0, []⟩, zeros32, Vt.zero, ⟨none, 0, []⟩, ⟨#[]⟩, ⟨none, 0, []⟩⟩).cells.length := by rw [hpl]; exact iszM
 have rpc : w1b.rangeAt w.heap.size 0 (Mg.ms ⟨3, 0, 0, 0, 0, false, ⟨none, 0, []⟩, Vt.zero, e_a, m_a, n_a, x, ⟨none, 0, []⟩, zeros32, Vt.zero, ⟨none, 0, []⟩, ⟨#[]⟩, ⟨none, 0, []⟩⟩).cells := rpc
 obtain ⟨pc, hpc⟩ : ∃ p, Hid ((Mg.ms ⟨3, 0, 0, 0, 0, false, ⟨none, 0, []⟩, Vt.zero, e_a, m_a, n_a, x, ⟨none, 0, []⟩, zeros32, Vt.zero, ⟨none, 0, []⟩, ⟨#[]⟩, ⟨none, 0, []⟩⟩).cells = p) := ⟨_, hide rfl⟩
 simp only [hpc.out] at hpl hip hp1 rpc
 go_upto_region 27 with fail
 try simp only [Act.put]
 refine pl_begin ?_
 refine pl_t 74 (.agg pc.toArray) (by rfl) (ex_mid rfl rfl rpc Tryz.underlying63 rfl hip) rfl ?_
 simp only [nz]
 refine pl_store (w' := w1b.setCells W1.heap.size 0 pc) (by rfl) (ex_put (cs := pc.toArray) rfl rfl rfl (by simpa [hpl] using V1.ans) (by simpa using hip) (all_one hp1)) rfl ?_
 refine pl_nil ?_
 have hlow : Below w.heap.size w1b (w1b.setCells W1.heap.size 0 pc) := below_sets V1.na pc 0 _ (Below.refl _ w1b)
 have hrs := run_loadVar_mid (P := Tryz.prog) (w1b.setCells W1.heap.size 0 pc) W1.heap.size 0 63 pc _ (World.rangeAt_setCells_same w1b W1.heap.size 0 pc (by rw [hpl]; exact V1.ans)) Tryz.underlying63 rfl hip
 have HF : Hid (∃ m : Mg, Ending.returned (.agg pc.toArray) = .returned (.agg m.ms.cells.toArray) ∧ m.pure = (⟨3, 0, 0, 0, 0, false, [], Vt.zero, e_a, m_a, n_a, he_a, [], zeros32, Vt.zero, [], ⟨#[]⟩, []⟩ : Mp) ∧ m.ok ∧ m.At (w1b.setCells W1.heap.size 0 pc) ∧ m.Bk (fun b => w.heap.size ≤ b) ∧ XR (w1b.setCells W1.heap.size 0 pc) D X s_a ∧ w.grownBy (w1b.setCells W1.heap.size 0 pc) (some X)) := hide ⟨⟨3, 0, 0, 0, 0, false, ⟨none, 0, []⟩, Vt.zero, e_a, m_a, n_a, x, ⟨none, 0, []⟩, zeros32, Vt.zero, ⟨none, 0, []⟩, ⟨#[]⟩, ⟨none, 0, []⟩⟩, by rw [hpc.out], by rw [← hx]; rfl, hmo, mg0_at RowsAt.none (hA1.put hB hB2 (fun b hb => by omega)) RowsAt.none RowsAt.none RowsAt.none, ⟨no_bk, hB.mono (fun b hb => by omega), fun y hy => (hB2 y hy).mono (fun b hb => by omega), no_bk, no_bk, no_bk⟩, V1.rs.low hlow hXw, gb_onR V1.gr hlow (Nat.le_refl _)⟩
 clear V1 hlow rpc hpc hmo hx  hB hB2  hA1 
 go_wp2_with fail
 refine bodyPost_ret (v := .agg pc.toArray) ?_ rfl ?_
 ·simp [results, Tryz.results80, Act.put, asAddr, hrs]
 ·exact HF.out
set_option maxRecDepth 100000 in
set_option maxHeartbeats 1000000 in
theorem xfieldsK4 (D X : Nat) (s : Xst) (w : World) (h : XR w D X s)  : Calls Tryz.prog 80 #[.pointer (some ⟨X, 0, none⟩), .agg (Ms.plain 4 0 0 Vt.zero zeros32).cells.toArray] w fun en w' => ∃ m : Mg, en = .returned (.agg m.ms.cells.toArray) ∧ m.pure = (xmg4 s).1 ∧ m.ok ∧ m.At w' ∧ m.Bk (fun b => w.heap.size ≤ b) ∧ XR w' D X (xmg4 s).2 ∧ w.grownBy w' (some X) := by
 have hXw := h.lx
 unfold xmg4
 have c_a := fun w0 h0 => xnumS D X 1048576 s w0 h0
 generalize xnuS 1048576 s = p_ at c_a ⊢
 obtain ⟨v_a, s_a⟩ := p_
 simp only at c_a ⊢
 have c_b := fun w0 h0 => xnumS D X 64 s_a w0 h0
 generalize xnuS 64 s_a = p_ at c_b ⊢
 obtain ⟨v_b, s_b⟩ := p_
 simp only at c_b ⊢
 have c_c := fun w0 h0 => xnumS D X 1099511627776 s_b w0 h0
 generalize xnuS 1099511627776 s_b = p_ at c_c ⊢
 obtain ⟨v_c, s_c⟩ := p_
 simp only at c_c ⊢
 have c_d := fun w0 h0 => xlistE D X s_c w0 h0
 generalize xlsS 64 xenS s_c = p_ at c_d ⊢
 obtain ⟨v_d, s_d⟩ := p_
 simp only at c_d ⊢
 obtain ⟨zc, hzl, hzr⟩ : ∃ z : List Value, z.length = 119 ∧ ∀ w : World, (zeroValue 63).run Tryz.prog w = .ok (.agg z.toArray) w := ⟨_, (Ms.plain_ok 0 0 0 Vt.zero_ok zeros32_len zeros32_byte).len, zeroM⟩
 have hql := (ms0_ok 4).len
 have hk0 : ∀ (w' : World) b, w'.rangeAt b 0 (Ms.plain 4 0 0 Vt.zero zeros32).cells → w'.cell? ⟨b, 0, none⟩ = some (.int .i64 4) := fun w' b h => ((ms0_ok 4).at h).k
 obtain ⟨qk, hqk⟩ : ∃ q, Hid ((Ms.plain 4 0 0 Vt.zero zeros32).cells = q) := ⟨_, hide rfl⟩
 simp only [hqk.out] at hql hk0 ⊢
 obtain ⟨hB1, hr1, hs1⟩ := boxed_new w qk 63
 have ht1 := there_newN w qk.toArray 63 (n := 119) (by simp [hql])
 go_enter Tryz.func80, Tryz.ntmps80
 go_upto_region 0 with fail
 try simp only [Act.put]
 refine pl_begin ?_
 refine pl_run (d := some 3) (v := .pointer (some ⟨w.heap.size, 0, none⟩)) (w' := w.alloc (.cells qk.toArray 63)) (by rfl) (ex_box rfl rfl) rfl ?_
 simp only [nz]
 obtain ⟨W1, hW1⟩ : ∃ W, w.alloc (.cells qk.toArray 63) = W := ⟨_, rfl⟩
 rw [hW1] at hB1 hr1 hs1 ht1 ⊢
 clear hW1
 refine pl_run (d := some 4) (v := .pointer (some ⟨W1.heap.size, 0, none⟩)) (w' := W1.alloc (.cells zc.toArray 63)) (by rfl) (ex_alloc rfl (hzr _)) rfl ?_
 simp only [nz]
 refine pl_nil ?_
 obtain ⟨hB2, hr2, hs2⟩ := boxed_new W1 zc 63
 have ht2 := there_newN W1 zc.toArray 63 (n := 119) (by simp [hzl])
 obtain ⟨W2, hW2⟩ : ∃ W, W1.alloc (.cells zc.toArray 63) = W := ⟨_, rfl⟩
 rw [hW2] at hB2 hr2 hs2 ht2 ⊢
 clear hW2 hr2
 have hBW := hB1.trans (hB2.mono hB1.size)
 have hr3 := range_below hr1 hB2 hs1
 have hc0 := hk0 _ _ hr3
 rw [← hqk.out] at hr3
 have V0 : XW w D X W1.heap.size w.heap.size 119 (Ms.plain 4 0 0 Vt.zero zeros32).cells s W2 := ⟨hr3, there_belowN ht1 hB2 hs1, ht2, gb_below hBW _, h.below hBW, hs2, by have := hB2.size; omega, hB1.size, Nat.le_refl _, by omega, hXw⟩
 clear hr3 ht1 ht2 hB1 hB2 hBW hr1 hk0 hqk h hzr hzl hql
 go_upto_region 1 with fail
 try simp only [Act.put]
 refine pl_begin ?_
 refine pl_t 5 (?_) (by rfl) ?_ rfl ?_
 rotate_left
 ·go_simp
  try with_reducible rfl
 simp only [nz]
 refine pl_t 6 (.int .i64 4) (by rfl) (pl_one rfl rfl hc0 Tryz.underlying3 rfl) rfl ?_
 simp only [nz]
 refine pl_nil ?_
 clear hc0
 go_upto_region 11 with fail
 try simp only [Act.put]
 refine pl_begin ?_
 refine pl_t 30 (?_) (by rfl) ?_ rfl ?_
 rotate_left
 ·go_simp
  try with_reducible rfl
 simp only [nz]
 refine pl_call (d := some 31) (by rfl) (by go_simp; first | done | exact ⟨rfl, rfl⟩ | with_reducible rfl) rfl ?_
 refine (c_a W2 V0.rs).mono ?_
 rintro _ w1a ⟨rfl, S1, g1⟩
 refine ⟨_, rfl, ?_⟩
 simp only [nz]
 refine pl_t 32 (?_) (by rfl) ?_ rfl ?_
 rotate_left
 ·go_simp
  try with_reducible rfl
 simp only [nz]
 have U1 := V0.on g1 S1
 have V1 := U1.set 1 [.int .i64 v_a] (put_e v_a U1.row (U1.part 1 1 (by decide)))
 have zz1 := V0.gr.size
 have lb1 := V0.lb
 have la1 := V0.la
 have yy1 := g1.size
 refine pl_store (w' := w1a.setCells w.heap.size 1 [.int .i64 v_a]) (by rfl) (ex_put1 (n := 119) rfl rfl rfl U1.box (by decide) iszI rfl rfl) rfl ?_
 refine pl_nil ?_
 clear S1 U1 V0 c_a
 obtain ⟨w1b, hw1b⟩ : ∃ W, w1a.setCells w.heap.size 1 [.int .i64 v_a] = W := ⟨_, rfl⟩
 rw [hw1b] at V1 ⊢
 clear hw1b
 go_upto_region 12 with fail
 try simp only [Act.put]
 refine pl_begin ?_
 refine pl_t 33 (?_) (by rfl) ?_ rfl ?_
 rotate_left
 ·go_simp
  try with_reducible rfl
 simp only [nz]
 refine pl_call (d := some 34) (by rfl) (by go_simp; first | done | exact ⟨rfl, rfl⟩ | with_reducible rfl) rfl ?_
 refine (c_b w1b V1.rs).mono ?_
 rintro _ w2a ⟨rfl, S2, g2⟩
 refine ⟨_, rfl, ?_⟩
 simp only [nz]
 refine pl_t 35 (?_) (by rfl) ?_ rfl ?_
 rotate_left
 ·go_simp
  try with_reducible rfl
 simp only [nz]
 have U2 := V1.on g2 S2
 have V2 := U2.set 2 [.int .i64 v_b] (put_l v_b U2.row (U2.part 2 1 (by decide)))
 have zz2 := V1.gr.size
 have lb2 := V1.lb
 have la2 := V1.la
 have yy2 := g2.size
 refine pl_store (w' := w2a.setCells w.heap.size 2 [.int .i64 v_b]) (by rfl) (ex_put1 (n := 119) rfl rfl rfl U2.box (by decide) iszI rfl rfl) rfl ?_
 refine pl_nil ?_
 clear S2 U2 V1 c_b
 obtain ⟨w2b, hw2b⟩ : ∃ W, w2a.setCells w.heap.size 2 [.int .i64 v_b] = W := ⟨_, rfl⟩
 rw [hw2b] at V2 ⊢
 clear hw2b
 go_upto_region 13 with fail
 try simp only [Act.put]
 refine pl_begin ?_
 refine pl_t 36 (?_) (by rfl) ?_ rfl ?_
 rotate_left
 ·go_simp
  try with_reducible rfl
 simp only [nz]
 refine pl_call (d := some 37) (by rfl) (by go_simp; first | done | exact ⟨rfl, rfl⟩ | with_reducible rfl) rfl ?_
 refine (c_c w2b V2.rs).mono ?_
 rintro _ w3a ⟨rfl, S3, g3⟩
 refine ⟨_, rfl, ?_⟩
 simp only [nz]
 refine pl_t 38 (?_) (by rfl) ?_ rfl ?_
 rotate_left
 ·go_simp
  try with_reducible rfl
 simp only [nz]
 have U3 := V2.on g3 S3
 have V3 := U3.set 3 [.int .i64 v_c] (put_v v_c U3.row (U3.part 3 1 (by decide)))
 have zz3 := V2.gr.size
 have lb3 := V2.lb
 have la3 := V2.la
 have yy3 := g3.size
 refine pl_store (w' := w3a.setCells w.heap.size 3 [.int .i64 v_c]) (by rfl) (ex_put1 (n := 119) rfl rfl rfl U3.box (by decide) iszI rfl rfl) rfl ?_
 refine pl_nil ?_
 clear S3 U3 V2 c_c
 obtain ⟨w3b, hw3b⟩ : ∃ W, w3a.setCells w.heap.size 3 [.int .i64 v_c] = W := ⟨_, rfl⟩
 rw [hw3b] at V3 ⊢
 clear hw3b
 go_upto_region 14 with fail
 try simp only [Act.put]
 refine pl_begin ?_
 refine pl_t 39 (?_) (by rfl) ?_ rfl ?_
 rotate_left
 ·go_simp
  try with_reducible rfl
 simp only [nz]
 refine pl_call (d := some 40) (by rfl) (by go_simp; first | done | exact ⟨rfl, rfl⟩ | with_reducible rfl) rfl ?_
 refine (c_d w3b V3.rs).mono ?_
 rintro _ w4a ⟨x, rfl, hx, hA, hB, S4, g4⟩
 refine ⟨_, rfl, ?_⟩
 simp only [nz]
 refine pl_t 41 (?_) (by rfl) ?_ rfl ?_
 rotate_left
 ·go_simp
  try with_reducible rfl
 simp only [nz]
 have U4 := V3.on g4 S4
 have V4 := U4.set 47 [x.val] (put_ne x.val Vt.zero_ok U4.row (U4.part 47 1 (by decide)))
 have zz4 := V3.gr.size
 have lb4 := V3.lb
 have la4 := V3.la
 have yy4 := g4.size
 refine pl_store (w' := w4a.setCells w.heap.size 47 [x.val]) (by rfl) (ex_put1 (n := 119) rfl rfl rfl U4.box (by decide) iszEvs rfl rfl) rfl ?_
 refine pl_nil ?_
 have hA4 := hA.put (B := w.heap.size) (o := 47) (vs := [x.val]) hB (fun b hb => by omega)
 clear hA
 clear S4 U4 V3 c_d
 obtain ⟨w4b, hw4b⟩ : ∃ W, w4a.setCells w.heap.size 47 [x.val] = W := ⟨_, rfl⟩
 rw [hw4b] at V4 hA4 ⊢
 clear hw4b
 have rpc := V4.row
 have hmo : Mg.ok ⟨4, v_a, v_b, v_c, 0, false, ⟨none, 0, []⟩, Vt.zero, 0, 0, 0, ⟨none, 0, []⟩, x, zeros32, Vt.zero, ⟨none, 0, []⟩, ⟨#[]⟩, ⟨none, 0, []⟩⟩ := ⟨Vt.zero_ok, Vt.zero_ok, zeros32_len, zeros32_byte⟩
 have hpl : (Mg.ms ⟨4, v_a, v_b, v_c, 0, false, ⟨none, 0, []⟩, Vt.zero, 0, 0, 0, ⟨none, 0, []⟩, x, zeros32, Vt.zero, ⟨none, 0, []⟩, ⟨#[]⟩, ⟨none, 0, []⟩⟩).cells.length = 119 := hmo.ms.len
 have hp1 := hmo.ms.one
 have hip : (Tryz.prog.info? 63).map (·.size) = some (Mg.ms ⟨4, v_a, v_b, v_c, 0, false, ⟨none, 0, []⟩, Vt.zero, 0, 0, 0, ⟨none, 0, []⟩, x, zeros32, Vt.zero, ⟨none, 0, []⟩, ⟨#[]⟩, ⟨none, 0, []⟩⟩).cells.length := by rw [hpl]; exact iszM
 have rpc : w4b.rangeAt w.heap.size 0 (Mg.ms ⟨4, v_a, v_b, v_c, 0, false, ⟨none, 0, []⟩, Vt.zero, 0, 0, 0, ⟨none, 0, []⟩, x, zeros32, Vt.zero, ⟨none, 0, []⟩, ⟨#[]⟩, ⟨none, 0, []⟩⟩).cells := rpc
 obtain ⟨pc, hpc⟩ : ∃ p, Hid ((Mg.ms ⟨4, v_a, v_b, v_c, 0, false, ⟨none, 0, []⟩, Vt.zero, 0, 0, 0, ⟨none, 0, []⟩, x, zeros32, Vt.zero, ⟨none, 0, []⟩, ⟨#[]⟩, ⟨none, 0, []⟩⟩).cells = p) := ⟨_, hide rfl⟩
 simp only [hpc.out] at hpl hip hp1 rpc
 go_upto_region 27 with fail
 try simp only [Act.put]
 refine pl_begin ?_
 refine pl_t 74 (.agg pc.toArray) (by rfl) (ex_mid rfl rfl rpc Tryz.underlying63 rfl hip) rfl ?_
 simp only [nz]
 refine pl_store (w' := w4b.setCells W1.heap.size 0 pc) (by rfl) (ex_put (cs := pc.toArray) rfl rfl rfl (by simpa [hpl] using V4.ans) (by simpa using hip) (all_one hp1)) rfl ?_
 refine pl_nil ?_
 have hlow : Below w.heap.size w4b (w4b.setCells W1.heap.size 0 pc) := below_sets V4.na pc 0 _ (Below.refl _ w4b)
 have hrs := run_loadVar_mid (P := Tryz.prog) (w4b.setCells W1.heap.size 0 pc) W1.heap.size 0 63 pc _ (World.rangeAt_setCells_same w4b W1.heap.size 0 pc (by rw [hpl]; exact V4.ans)) Tryz.underlying63 rfl hip
 have HF : Hid (∃ m : Mg, Ending.returned (.agg pc.toArray) = .returned (.agg m.ms.cells.toArray) ∧ m.pure = (⟨4, v_a, v_b, v_c, 0, false, [], Vt.zero, 0, 0, 0, [], v_d, zeros32, Vt.zero, [], ⟨#[]⟩, []⟩ : Mp) ∧ m.ok ∧ m.At (w4b.setCells W1.heap.size 0 pc) ∧ m.Bk (fun b => w.heap.size ≤ b) ∧ XR (w4b.setCells W1.heap.size 0 pc) D X s_d ∧ w.grownBy (w4b.setCells W1.heap.size 0 pc) (some X)) := hide ⟨⟨4, v_a, v_b, v_c, 0, false, ⟨none, 0, []⟩, Vt.zero, 0, 0, 0, ⟨none, 0, []⟩, x, zeros32, Vt.zero, ⟨none, 0, []⟩, ⟨#[]⟩, ⟨none, 0, []⟩⟩, by rw [hpc.out], by rw [← hx]; rfl, hmo, mg0_at RowsAt.none hds_none (hA4.put hB (fun b hb => by omega)) RowsAt.none RowsAt.none, ⟨no_bk, no_bk, no_bk2, hB.mono (fun b hb => by omega), no_bk, no_bk⟩, V4.rs.low hlow hXw, gb_onR V4.gr hlow (Nat.le_refl _)⟩
 clear V4 hlow rpc hpc hmo hx  hB   hA4 
 go_wp2_with fail
 refine bodyPost_ret (v := .agg pc.toArray) ?_ rfl ?_
 ·simp [results, Tryz.results80, Act.put, asAddr, hrs]
 ·exact HF.out
set_option maxRecDepth 100000 in
set_option maxHeartbeats 1000000 in
theorem xfieldsK5 (D X : Nat) (s : Xst) (w : World) (h : XR w D X s)  : Calls Tryz.prog 80 #[.pointer (some ⟨X, 0, none⟩), .agg (Ms.plain 5 0 0 Vt.zero zeros32).cells.toArray] w fun en w' => ∃ m : Mg, en = .returned (.agg m.ms.cells.toArray) ∧ m.pure = (xmg5 s).1 ∧ m.ok ∧ m.At w' ∧ m.Bk (fun b => w.heap.size ≤ b) ∧ XR w' D X (xmg5 s).2 ∧ w.grownBy w' (some X) := by
 have hXw := h.lx
 unfold xmg5
 have c_a := fun w0 h0 => xnumS D X 1048576 s w0 h0
 generalize xnuS 1048576 s = p_ at c_a ⊢
 obtain ⟨v_a, s_a⟩ := p_
 simp only at c_a ⊢
 have c_b := fun w0 h0 => xdigS D X s_a w0 h0
 have ok_b := fun hb => xdgS_ok s_a hb
 generalize xdgS s_a = p_ at c_b ok_b ⊢
 obtain ⟨v_b, s_b⟩ := p_
 simp only at c_b ok_b ⊢
 obtain ⟨zc, hzl, hzr⟩ : ∃ z : List Value, z.length = 119 ∧ ∀ w : World, (zeroValue 63).run Tryz.prog w = .ok (.agg z.toArray) w := ⟨_, (Ms.plain_ok 0 0 0 Vt.zero_ok zeros32_len zeros32_byte).len, zeroM⟩
 have hql := (ms0_ok 5).len
 have hk0 : ∀ (w' : World) b, w'.rangeAt b 0 (Ms.plain 5 0 0 Vt.zero zeros32).cells → w'.cell? ⟨b, 0, none⟩ = some (.int .i64 5) := fun w' b h => ((ms0_ok 5).at h).k
 obtain ⟨qk, hqk⟩ : ∃ q, Hid ((Ms.plain 5 0 0 Vt.zero zeros32).cells = q) := ⟨_, hide rfl⟩
 simp only [hqk.out] at hql hk0 ⊢
 obtain ⟨hB1, hr1, hs1⟩ := boxed_new w qk 63
 have ht1 := there_newN w qk.toArray 63 (n := 119) (by simp [hql])
 go_enter Tryz.func80, Tryz.ntmps80
 go_upto_region 0 with fail
 try simp only [Act.put]
 refine pl_begin ?_
 refine pl_run (d := some 3) (v := .pointer (some ⟨w.heap.size, 0, none⟩)) (w' := w.alloc (.cells qk.toArray 63)) (by rfl) (ex_box rfl rfl) rfl ?_
 simp only [nz]
 obtain ⟨W1, hW1⟩ : ∃ W, w.alloc (.cells qk.toArray 63) = W := ⟨_, rfl⟩
 rw [hW1] at hB1 hr1 hs1 ht1 ⊢
 clear hW1
 refine pl_run (d := some 4) (v := .pointer (some ⟨W1.heap.size, 0, none⟩)) (w' := W1.alloc (.cells zc.toArray 63)) (by rfl) (ex_alloc rfl (hzr _)) rfl ?_
 simp only [nz]
 refine pl_nil ?_
 obtain ⟨hB2, hr2, hs2⟩ := boxed_new W1 zc 63
 have ht2 := there_newN W1 zc.toArray 63 (n := 119) (by simp [hzl])
 obtain ⟨W2, hW2⟩ : ∃ W, W1.alloc (.cells zc.toArray 63) = W := ⟨_, rfl⟩
 rw [hW2] at hB2 hr2 hs2 ht2 ⊢
 clear hW2 hr2
 have hBW := hB1.trans (hB2.mono hB1.size)
 have hr3 := range_below hr1 hB2 hs1
 have hc0 := hk0 _ _ hr3
 rw [← hqk.out] at hr3
 have V0 : XW w D X W1.heap.size w.heap.size 119 (Ms.plain 5 0 0 Vt.zero zeros32).cells s W2 := ⟨hr3, there_belowN ht1 hB2 hs1, ht2, gb_below hBW _, h.below hBW, hs2, by have := hB2.size; omega, hB1.size, Nat.le_refl _, by omega, hXw⟩
 clear hr3 ht1 ht2 hB1 hB2 hBW hr1 hk0 hqk h hzr hzl hql
 go_upto_region 1 with fail
 try simp only [Act.put]
 refine pl_begin ?_
 refine pl_t 5 (?_) (by rfl) ?_ rfl ?_
 rotate_left
 ·go_simp
  try with_reducible rfl
 simp only [nz]
 refine pl_t 6 (.int .i64 5) (by rfl) (pl_one rfl rfl hc0 Tryz.underlying3 rfl) rfl ?_
 simp only [nz]
 refine pl_nil ?_
 clear hc0
 go_upto_region 16 with fail
 try simp only [Act.put]
 refine pl_begin ?_
 refine pl_t 44 (?_) (by rfl) ?_ rfl ?_
 rotate_left
 ·go_simp
  try with_reducible rfl
 simp only [nz]
 refine pl_call (d := some 45) (by rfl) (by go_simp; first | done | exact ⟨rfl, rfl⟩ | with_reducible rfl) rfl ?_
 refine (c_a W2 V0.rs).mono ?_
 rintro _ w1a ⟨rfl, S1, g1⟩
 refine ⟨_, rfl, ?_⟩
 simp only [nz]
 refine pl_t 46 (?_) (by rfl) ?_ rfl ?_
 rotate_left
 ·go_simp
  try with_reducible rfl
 simp only [nz]
 have U1 := V0.on g1 S1
 have V1 := U1.set 1 [.int .i64 v_a] (put_e v_a U1.row (U1.part 1 1 (by decide)))
 have zz1 := V0.gr.size
 have lb1 := V0.lb
 have la1 := V0.la
 have yy1 := g1.size
 refine pl_store (w' := w1a.setCells w.heap.size 1 [.int .i64 v_a]) (by rfl) (ex_put1 (n := 119) rfl rfl rfl U1.box (by decide) iszI rfl rfl) rfl ?_
 refine pl_nil ?_
 clear S1 U1 V0 c_a
 obtain ⟨w1b, hw1b⟩ : ∃ W, w1a.setCells w.heap.size 1 [.int .i64 v_a] = W := ⟨_, rfl⟩
 rw [hw1b] at V1 ⊢
 clear hw1b
 go_upto_region 17 with fail
 try simp only [Act.put]
 refine pl_begin ?_
 refine pl_t 47 (?_) (by rfl) ?_ rfl ?_
 rotate_left
 ·go_simp
  try with_reducible rfl
 simp only [nz]
 refine pl_call (d := some 48) (by rfl) (by go_simp; first | done | exact ⟨rfl, rfl⟩ | with_reducible rfl) rfl ?_
 refine (c_b w1b V1.rs).mono ?_
 rintro _ w2a ⟨rfl, S2, g2⟩
 refine ⟨_, rfl, ?_⟩
 simp only [nz]
 refine pl_t 49 (?_) (by rfl) ?_ rfl ?_
 rotate_left
 ·go_simp
  try with_reducible rfl
 simp only [nz]
 have U2 := V1.on g2 S2
 have hd := ok_b V1.rs.st.bs
 have hdl : (v8 v_b).length = 32 := by rw [v8_length]; exact hd.1
 have V2 := U2.set 48 (v8 v_b) (put_d v_b hd.1 zeros32_len Vt.zero_ok U2.row (U2.part 48 32 (by decide)))
 have zz2 := V1.gr.size
 have lb2 := V1.lb
 have la2 := V1.la
 have yy2 := g2.size
 refine pl_store (w' := w2a.setCells w.heap.size 48 (v8 v_b)) (by rfl) (ex_put (cs := (v8 v_b).toArray) rfl rfl rfl (by simpa [hdl] using U2.part 48 32 (by decide)) (by simpa [hdl] using iszD) (all_one (v8_one v_b))) rfl ?_
 refine pl_nil ?_
 clear S2 U2 V1 c_b
 obtain ⟨w2b, hw2b⟩ : ∃ W, w2a.setCells w.heap.size 48 (v8 v_b) = W := ⟨_, rfl⟩
 rw [hw2b] at V2 ⊢
 clear hw2b
 have rpc := V2.row
 have hmo : Mg.ok ⟨5, v_a, 0, 0, 0, false, ⟨none, 0, []⟩, Vt.zero, 0, 0, 0, ⟨none, 0, []⟩, ⟨none, 0, []⟩, v_b, Vt.zero, ⟨none, 0, []⟩, ⟨#[]⟩, ⟨none, 0, []⟩⟩ := ⟨Vt.zero_ok, Vt.zero_ok, hd.1, hd.2⟩
 have hpl : (Mg.ms ⟨5, v_a, 0, 0, 0, false, ⟨none, 0, []⟩, Vt.zero, 0, 0, 0, ⟨none, 0, []⟩, ⟨none, 0, []⟩, v_b, Vt.zero, ⟨none, 0, []⟩, ⟨#[]⟩, ⟨none, 0, []⟩⟩).cells.length = 119 := hmo.ms.len
 have hp1 := hmo.ms.one
 have hip : (Tryz.prog.info? 63).map (·.size) = some (Mg.ms ⟨5, v_a, 0, 0, 0, false, ⟨none, 0, []⟩, Vt.zero, 0, 0, 0, ⟨none, 0, []⟩, ⟨none, 0, []⟩, v_b, Vt.zero, ⟨none, 0, []⟩, ⟨#[]⟩, ⟨none, 0, []⟩⟩).cells.length := by rw [hpl]; exact iszM
 have rpc : w2b.rangeAt w.heap.size 0 (Mg.ms ⟨5, v_a, 0, 0, 0, false, ⟨none, 0, []⟩, Vt.zero, 0, 0, 0, ⟨none, 0, []⟩, ⟨none, 0, []⟩, v_b, Vt.zero, ⟨none, 0, []⟩, ⟨#[]⟩, ⟨none, 0, []⟩⟩).cells := rpc
 obtain ⟨pc, hpc⟩ : ∃ p, Hid ((Mg.ms ⟨5, v_a, 0, 0, 0, false, ⟨none, 0, []⟩, Vt.zero, 0, 0, 0, ⟨none, 0, []⟩, ⟨none, 0, []⟩, v_b, Vt.zero, ⟨none, 0, []⟩, ⟨#[]⟩, ⟨none, 0, []⟩⟩).cells = p) := ⟨_, hide rfl⟩
 simp only [hpc.out] at hpl hip hp1 rpc
 go_upto_region 27 with fail
 try simp only [Act.put]
 refine pl_begin ?_
 refine pl_t 74 (.agg pc.toArray) (by rfl) (ex_mid rfl rfl rpc Tryz.underlying63 rfl hip) rfl ?_
 simp only [nz]
 refine pl_store (w' := w2b.setCells W1.heap.size 0 pc) (by rfl) (ex_put (cs := pc.toArray) rfl rfl rfl (by simpa [hpl] using V2.ans) (by simpa using hip) (all_one hp1)) rfl ?_
 refine pl_nil ?_
 have hlow : Below w.heap.size w2b (w2b.setCells W1.heap.size 0 pc) := below_sets V2.na pc 0 _ (Below.refl _ w2b)
 have hrs := run_loadVar_mid (P := Tryz.prog) (w2b.setCells W1.heap.size 0 pc) W1.heap.size 0 63 pc _ (World.rangeAt_setCells_same w2b W1.heap.size 0 pc (by rw [hpl]; exact V2.ans)) Tryz.underlying63 rfl hip
 have HF : Hid (∃ m : Mg, Ending.returned (.agg pc.toArray) = .returned (.agg m.ms.cells.toArray) ∧ m.pure = (⟨5, v_a, 0, 0, 0, false, [], Vt.zero, 0, 0, 0, [], [], v_b, Vt.zero, [], ⟨#[]⟩, []⟩ : Mp) ∧ m.ok ∧ m.At (w2b.setCells W1.heap.size 0 pc) ∧ m.Bk (fun b => w.heap.size ≤ b) ∧ XR (w2b.setCells W1.heap.size 0 pc) D X s_b ∧ w.grownBy (w2b.setCells W1.heap.size 0 pc) (some X)) := hide ⟨⟨5, v_a, 0, 0, 0, false, ⟨none, 0, []⟩, Vt.zero, 0, 0, 0, ⟨none, 0, []⟩, ⟨none, 0, []⟩, v_b, Vt.zero, ⟨none, 0, []⟩, ⟨#[]⟩, ⟨none, 0, []⟩⟩, by rw [hpc.out], rfl, hmo, mg0_at RowsAt.none hds_none RowsAt.none RowsAt.none RowsAt.none, ⟨no_bk, no_bk, no_bk2, no_bk, no_bk, no_bk⟩, V2.rs.low hlow hXw, gb_onR V2.gr hlow (Nat.le_refl _)⟩
 clear V2 hlow rpc hpc hmo       
 go_wp2_with fail
 refine bodyPost_ret (v := .agg pc.toArray) ?_ rfl ?_
 ·simp [results, Tryz.results80, Act.put, asAddr, hrs]
 ·exact HF.out
end Go.Proofs.YtinndbipomlokaaGreat
