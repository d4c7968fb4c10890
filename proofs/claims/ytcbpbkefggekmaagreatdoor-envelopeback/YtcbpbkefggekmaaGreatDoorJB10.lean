/- messages, read: kind 5; messages, read: kind 6; messages, read: kind 7; messages, read: kind 8; the program's Decode; claims that grow in a cell; Put; Get; seal -/
import Derived.Test.YtcbpbkefggekmaaGreatDoorJB0
import Derived.Test.YtcbpbkefggekmaaGreatDoorJB9
import Derived.Test.YtcbpbkefggekmaaGreatDoorJB3
import Derived.Test.YtcbpbkefggekmaaGreatDoorJB7
import Derived.Test.YtcbpbkefggekmaaGreatDoorJB1
namespace Go.Proofs.YtcbpbkefggekmaaGreatDoor
open Go.RowKit
open Sha Tal
set_option linter.unusedVariables false
set_option linter.unusedSimpArgs false
set_option maxRecDepth 100000 in
set_option maxHeartbeats 1000000 in
theorem rmsgK5 (Q R : Nat) (s : Rst) (w : World) (h : RS w Q R s) (hl : s.1.length ≤ 40000) (hk : (kiS 8 s).1 = 5) : Calls Tryz.prog 66 #[.pointer (some ⟨Q, 0, none⟩)] w fun en w' => ∃ m : Mg, en = .returned (.agg m.ms.cells.toArray) ∧ m.pure = (mg5 (kiS 8 s).2).1 ∧ m.ok ∧ m.At w' ∧ m.Bk (fun b => w.heap.size ≤ b) ∧ RS w' Q R (mg5 (kiS 8 s).2).2 ∧ Kept w R Q w' := by
 have hRw := h.st.1.1
 have hQw := h.mr.lt
 have ck := fun w0 h0 => kindRS Q R 8 s w0 h0
 have l0 := kiS_len 8 s
 unfold mg5
 generalize kiS 8 s = p_ at ck l0 hk ⊢
 obtain ⟨k, s0⟩ := p_
 simp only at ck l0 hk ⊢
 subst hk
 have c_a := fun w0 h0 => numRS Q R 1048576 s0 w0 h0
 have l_a : (nuS 1048576 s0).2.1.length ≤ s0.1.length := nuS_len _ _
 generalize nuS 1048576 s0 = p_ at c_a l_a ⊢
 obtain ⟨v_a, s_a⟩ := p_
 simp only at c_a l_a ⊢
 have c_b := fun w0 h0 => digRS Q R s_a w0 h0 (by omega)
 have l_b : (dgS s_a).2.1.length ≤ s_a.1.length := dgS_len _
 have ok_b := fun hb => dgS_ok s_a hb
 generalize dgS s_a = p_ at c_b l_b ok_b ⊢
 obtain ⟨v_b, s_b⟩ := p_
 simp only at c_b l_b ok_b ⊢
 obtain ⟨zc, hzl, hzr⟩ : ∃ z : List Value, z.length = 119 ∧ ∀ w : World, (zeroValue 52).run Tryz.prog w = .ok (.agg z.toArray) w := ⟨_, (Ms.plain_ok 0 0 0 Vt.zero_ok zeros32_len zeros32_byte).len, zeroM⟩
 have hbk := build_kind 5
 have hql := (ms0_ok 5).len
 have hq1 := (ms0_ok 5).one
 have hiq : (Tryz.prog.info? 52).map (·.size) = some (Ms.plain 5 0 0 Vt.zero zeros32).cells.length := by rw [hql]; exact iszM
 have hk0 : ∀ (w' : World) b, w'.rangeAt b 0 (Ms.plain 5 0 0 Vt.zero zeros32).cells → w'.cell? ⟨b, 0, none⟩ = some (.int .i64 5) := fun w' b h => ((ms0_ok 5).at h).k
 obtain ⟨qk, hqk⟩ : ∃ q, Hid ((Ms.plain 5 0 0 Vt.zero zeros32).cells = q) := ⟨_, hide rfl⟩
 simp only [hqk.out] at hbk hql hq1 hiq hk0
 obtain ⟨hB1, hr1, hs1⟩ := boxed_new w zc 52
 have ht1 := there_newN w zc.toArray 52 (n := 119) (by simp [hzl])
 go_enter Tryz.func66, Tryz.ntmps66
 go_upto_region 0 with fail
 try simp only [Act.put]
 refine pl_begin ?_
 refine pl_run (d := some 2) (v := .pointer (some ⟨w.heap.size, 0, none⟩)) (w' := w.alloc (.cells zc.toArray 52)) (by rfl) (ex_alloc rfl (hzr _)) rfl ?_
 simp only [nz]
 refine pl_nil ?_
 obtain ⟨W1, hW1⟩ : ∃ W, w.alloc (.cells zc.toArray 52) = W := ⟨_, rfl⟩
 rw [hW1] at hB1 hr1 hs1 ht1 ⊢
 clear hW1 hr1
 have S1 := h.below hB1
 go_upto_region 1 with fail
 try simp only [Act.put]
 refine pl_begin ?_
 refine pl_t 4 (?_) (by rfl) ?_ rfl ?_
 rotate_left
 ·go_simp
  try with_reducible rfl
 simp only [nz]
 refine pl_call (d := some 5) (by rfl) (by go_simp; first | done | exact ⟨rfl, rfl⟩ | with_reducible rfl) rfl ?_
 refine (ck W1 S1).mono ?_
 rintro _ w2 ⟨rfl, S2, k2⟩
 refine ⟨_, rfl, ?_⟩
 simp only [nz]
 refine pl_t 6 (.agg qk.toArray) (by rfl) (ex_build (parts := [(0, .tmp 5)]) rfl rfl (hbk _)) rfl ?_
 simp only [nz]
 refine pl_run (d := some 3) (v := .pointer (some ⟨w2.heap.size, 0, none⟩)) (w' := w2.alloc (.cells zc.toArray 52)) (by rfl) (ex_alloc rfl (hzr _)) rfl ?_
 simp only [nz]
 refine pl_store (w' := (w2.alloc (.cells zc.toArray 52)).setCells w2.heap.size 0 qk) (by rfl) (ex_put (cs := qk.toArray) rfl rfl rfl (there_newN _ _ _ (by simp [hzl, hql])) (by simpa using hiq) (all_one hq1)) rfl ?_
 refine pl_nil ?_
 obtain ⟨hF1, hF2, hF3, -⟩ := fresh_store w2 zc.toArray 52 qk (by simp [hzl, hql])
 have hF4 := World.there_setCells (there_newN w2 zc.toArray 52 (n := 119) (by simp [hzl])) w2.heap.size 0 qk
 obtain ⟨w3, hw3⟩ : ∃ W, (w2.alloc (.cells zc.toArray 52)).setCells w2.heap.size 0 qk = W := ⟨_, rfl⟩
 rw [hw3] at hF1 hF2 hF3 hF4 ⊢
 clear hw3
 have hc0 := hk0 _ _ hF1
 have k3 : Kept w R Q w3 := (((Kept.refl w R Q).below hB1).trans k2).below hF2
 have z2 := k2.size
 rw [← hqk.out] at hF1
 have V3 : MV w Q R w.heap.size w2.heap.size 119 (Ms.plain 5 0 0 Vt.zero zeros32).cells s0 w3 := ⟨hF1, hF4, there_below (there_blk ht1 (k2.block _ hs1 (by omega) (by omega))) hF2 (by omega), k3, S2.below hF2, by have := hF2.size; omega, by omega, Nat.le_refl _, by have := hB1.size; omega, by omega, hRw, hQw⟩
 have hww : w.heap.size < w2.heap.size := by omega
 clear hF1 hF2 hF4 ht1 hB1 S1 S2 k2 k3 hk0 hbk hql hq1 hiq hqk h ck hzr hzl
 go_upto_region 2 with fail
 try simp only [Act.put]
 refine pl_begin ?_
 refine pl_t 7 (?_) (by rfl) ?_ rfl ?_
 rotate_left
 ·go_simp
  try with_reducible rfl
 simp only [nz]
 refine pl_t 8 (.int .i64 5) (by rfl) (pl_one rfl rfl hc0 Tryz.underlying3 rfl) rfl ?_
 simp only [nz]
 refine pl_nil ?_
 clear hc0
 go_upto_region 14 with fail
 try simp only [Act.put]
 refine pl_begin ?_
 refine pl_t 70 (?_) (by rfl) ?_ rfl ?_
 rotate_left
 ·go_simp
  try with_reducible rfl
 simp only [nz]
 refine pl_t 71 (?_) (by rfl) ?_ rfl ?_
 rotate_left
 ·go_simp
  try with_reducible rfl
 simp only [nz]
 refine pl_t 72 (?_) (by rfl) ?_ rfl ?_
 rotate_left
 ·go_simp
  try with_reducible rfl
 simp only [nz]
 refine pl_t 73 (.pointer (some ⟨R, 0, none⟩)) (by rfl) (pl_one rfl rfl V3.rs.mr.c0 Tryz.underlying98 rfl) rfl ?_
 simp only [nz]
 refine pl_call (d := some 74) (by rfl) (by go_simp; first | done | exact ⟨rfl, rfl⟩ | with_reducible rfl) rfl ?_
 refine (c_a w3 V3.rs).mono ?_
 rintro _ w5 ⟨rfl, S5, k5⟩
 refine ⟨_, rfl, ?_⟩
 simp only [nz]
 refine pl_t 75 (?_) (by rfl) ?_ rfl ?_
 rotate_left
 ·go_simp
  try with_reducible rfl
 simp only [nz]
 refine pl_call (d := some 76) (by rfl) (by go_simp; first | done | exact ⟨rfl, rfl⟩ | with_reducible rfl) rfl ?_
 refine (c_b w5 S5).mono ?_
 rintro _ w6 ⟨rfl, S6, k6⟩
 refine ⟨_, rfl, ?_⟩
 simp only [nz]
 refine pl_t 77 (?_) (by rfl) ?_ rfl ?_
 rotate_left
 ·go_simp
  try with_reducible rfl
 simp only [nz]
 have hd := ok_b S5.st.bs
 have V6 := (V3.on k5 S5).on k6 S6
 have Va := V6.set 1 [.int .i64 v_a] (put_e v_a V6.row (V6.part 1 1 (by decide)))
 refine pl_store (w' := w6.setCells w2.heap.size 1 [.int .i64 v_a]) (by rfl) (ex_put1 (n := 119) rfl rfl rfl V6.box (by decide) iszI rfl rfl) rfl ?_
 obtain ⟨wd, hwd⟩ : ∃ W, w6.setCells w2.heap.size 1 [.int .i64 v_a] = W := ⟨_, rfl⟩
 rw [hwd] at Va ⊢
 clear hwd
 refine pl_t 78 (?_) (by rfl) ?_ rfl ?_
 rotate_left
 ·go_simp
  try with_reducible rfl
 simp only [nz]
 have Ve := Va.set 48 (v8 v_b) (put_d v_b hd.1 zeros32_len Vt.zero_ok Va.row (Va.part 48 32 (by decide)))
 have hdl : (v8 v_b).length = 32 := by rw [v8_length]; exact hd.1
 refine pl_store (w' := wd.setCells w2.heap.size 48 (v8 v_b)) (by rfl) (ex_put (cs := (v8 v_b).toArray) rfl rfl rfl (by simpa [hdl] using Va.part 48 32 (by decide)) (by simpa [hdl] using iszD) (all_one (v8_one v_b))) rfl ?_
 refine pl_nil ?_
 obtain ⟨we, hwe⟩ : ∃ W, wd.setCells w2.heap.size 48 (v8 v_b) = W := ⟨_, rfl⟩
 rw [hwe] at Ve ⊢
 clear hwe
 clear Va V6 V3 S5 S6 k5 k6
 have rpc := Ve.row
 have hmo : Mg.ok ⟨5, v_a, 0, 0, 0, false, ⟨none, 0, []⟩, Vt.zero, 0, 0, 0, ⟨none, 0, []⟩, ⟨none, 0, []⟩, v_b, Vt.zero, ⟨none, 0, []⟩, ⟨#[]⟩, ⟨none, 0, []⟩⟩ := ⟨Vt.zero_ok, Vt.zero_ok, hd.1, hd.2⟩
 have hpl : (Mg.ms ⟨5, v_a, 0, 0, 0, false, ⟨none, 0, []⟩, Vt.zero, 0, 0, 0, ⟨none, 0, []⟩, ⟨none, 0, []⟩, v_b, Vt.zero, ⟨none, 0, []⟩, ⟨#[]⟩, ⟨none, 0, []⟩⟩).cells.length = 119 := hmo.ms.len
 have hp1 := hmo.ms.one
 have hip : (Tryz.prog.info? 52).map (·.size) = some (Mg.ms ⟨5, v_a, 0, 0, 0, false, ⟨none, 0, []⟩, Vt.zero, 0, 0, 0, ⟨none, 0, []⟩, ⟨none, 0, []⟩, v_b, Vt.zero, ⟨none, 0, []⟩, ⟨#[]⟩, ⟨none, 0, []⟩⟩).cells.length := by rw [hpl]; exact iszM
 have rpc : we.rangeAt w2.heap.size 0 (Mg.ms ⟨5, v_a, 0, 0, 0, false, ⟨none, 0, []⟩, Vt.zero, 0, 0, 0, ⟨none, 0, []⟩, ⟨none, 0, []⟩, v_b, Vt.zero, ⟨none, 0, []⟩, ⟨#[]⟩, ⟨none, 0, []⟩⟩).cells := rpc
 obtain ⟨pc, hpc⟩ : ∃ p, Hid ((Mg.ms ⟨5, v_a, 0, 0, 0, false, ⟨none, 0, []⟩, Vt.zero, 0, 0, 0, ⟨none, 0, []⟩, ⟨none, 0, []⟩, v_b, Vt.zero, ⟨none, 0, []⟩, ⟨#[]⟩, ⟨none, 0, []⟩⟩).cells = p) := ⟨_, hide rfl⟩
 simp only [hpc.out] at hpl hip hp1 rpc
 go_upto_region 22 with fail
 try simp only [Act.put]
 refine pl_begin ?_
 refine pl_t 121 (.agg pc.toArray) (by rfl) (ex_mid rfl rfl rpc Tryz.underlying52 rfl hip) rfl ?_
 simp only [nz]
 refine pl_store (w' := we.setCells w.heap.size 0 pc) (by rfl) (ex_put (cs := pc.toArray) rfl rfl rfl (by simpa [hpl] using Ve.ans) (by simpa using hip) (all_one hp1)) rfl ?_
 refine pl_nil ?_
 have hlow : Below w.heap.size we (we.setCells w.heap.size 0 pc) := below_sets (Nat.le_refl _) pc 0 _ (Below.refl _ we)
 have hrs := run_loadVar_mid (P := Tryz.prog) (we.setCells w.heap.size 0 pc) w.heap.size 0 52 pc _ (World.rangeAt_setCells_same we w.heap.size 0 pc (by rw [hpl]; exact Ve.ans)) Tryz.underlying52 rfl hip
 have HF : Hid (∃ m : Mg, Ending.returned (.agg pc.toArray) = .returned (.agg m.ms.cells.toArray) ∧ m.pure = (⟨5, v_a, 0, 0, 0, false, [], Vt.zero, 0, 0, 0, [], [], v_b, Vt.zero, [], ⟨#[]⟩, []⟩ : Mp) ∧ m.ok ∧ m.At (we.setCells w.heap.size 0 pc) ∧ m.Bk (fun b => w.heap.size ≤ b) ∧ RS (we.setCells w.heap.size 0 pc) Q R s_b ∧ Kept w R Q (we.setCells w.heap.size 0 pc)) := hide ⟨⟨5, v_a, 0, 0, 0, false, ⟨none, 0, []⟩, Vt.zero, 0, 0, 0, ⟨none, 0, []⟩, ⟨none, 0, []⟩, v_b, Vt.zero, ⟨none, 0, []⟩, ⟨#[]⟩, ⟨none, 0, []⟩⟩, by rw [hpc.out], rfl, hmo, mg0_at RowsAt.none hds_none RowsAt.none RowsAt.none RowsAt.none, ⟨no_bk, no_bk, no_bk2, no_bk, no_bk, no_bk⟩, Ve.rs.low hlow hQw, Ve.kept.low hlow (Nat.le_refl _)⟩
 clear Ve hlow rpc hpc hmo 
 go_wp2_with fail
 refine bodyPost_ret (v := .agg pc.toArray) ?_ rfl ?_
 ·simp [results, Tryz.results66, Act.put, asAddr, hrs]
 ·exact HF.out
set_option maxRecDepth 100000 in
set_option maxHeartbeats 1000000 in
theorem rmsgK6 (Q R : Nat) (s : Rst) (w : World) (h : RS w Q R s) (hl : s.1.length ≤ 40000) (hk : (kiS 8 s).1 = 6) : Calls Tryz.prog 66 #[.pointer (some ⟨Q, 0, none⟩)] w fun en w' => ∃ m : Mg, en = .returned (.agg m.ms.cells.toArray) ∧ m.pure = (mg6 (kiS 8 s).2).1 ∧ m.ok ∧ m.At w' ∧ m.Bk (fun b => w.heap.size ≤ b) ∧ RS w' Q R (mg6 (kiS 8 s).2).2 ∧ Kept w R Q w' := by
 have hRw := h.st.1.1
 have hQw := h.mr.lt
 have ck := fun w0 h0 => kindRS Q R 8 s w0 h0
 have l0 := kiS_len 8 s
 unfold mg6
 generalize kiS 8 s = p_ at ck l0 hk ⊢
 obtain ⟨k, s0⟩ := p_
 simp only at ck l0 hk ⊢
 subst hk
 have c_a := fun w0 h0 => numRS Q R 1048576 s0 w0 h0
 have l_a : (nuS 1048576 s0).2.1.length ≤ s0.1.length := nuS_len _ _
 generalize nuS 1048576 s0 = p_ at c_a l_a ⊢
 obtain ⟨v_a, s_a⟩ := p_
 simp only at c_a l_a ⊢
 have c_b := fun w0 h0 => numRS Q R 1099511627776 s_a w0 h0
 have l_b : (nuS 1099511627776 s_a).2.1.length ≤ s_a.1.length := nuS_len _ _
 generalize nuS 1099511627776 s_a = p_ at c_b l_b ⊢
 obtain ⟨v_b, s_b⟩ := p_
 simp only at c_b l_b ⊢
 obtain ⟨zc, hzl, hzr⟩ : ∃ z : List Value, z.length = 119 ∧ ∀ w : World, (zeroValue 52).run Tryz.prog w = .ok (.agg z.toArray) w := ⟨_, (Ms.plain_ok 0 0 0 Vt.zero_ok zeros32_len zeros32_byte).len, zeroM⟩
 have hbk := build_kind 6
 have hql := (ms0_ok 6).len
 have hq1 := (ms0_ok 6).one
 have hiq : (Tryz.prog.info? 52).map (·.size) = some (Ms.plain 6 0 0 Vt.zero zeros32).cells.length := by rw [hql]; exact iszM
 have hk0 : ∀ (w' : World) b, w'.rangeAt b 0 (Ms.plain 6 0 0 Vt.zero zeros32).cells → w'.cell? ⟨b, 0, none⟩ = some (.int .i64 6) := fun w' b h => ((ms0_ok 6).at h).k
 obtain ⟨qk, hqk⟩ : ∃ q, Hid ((Ms.plain 6 0 0 Vt.zero zeros32).cells = q) := ⟨_, hide rfl⟩
 simp only [hqk.out] at hbk hql hq1 hiq hk0
 obtain ⟨hB1, hr1, hs1⟩ := boxed_new w zc 52
 have ht1 := there_newN w zc.toArray 52 (n := 119) (by simp [hzl])
 go_enter Tryz.func66, Tryz.ntmps66
 go_upto_region 0 with fail
 try simp only [Act.put]
 refine pl_begin ?_
 refine pl_run (d := some 2) (v := .pointer (some ⟨w.heap.size, 0, none⟩)) (w' := w.alloc (.cells zc.toArray 52)) (by rfl) (ex_alloc rfl (hzr _)) rfl ?_
 simp only [nz]
 refine pl_nil ?_
 obtain ⟨W1, hW1⟩ : ∃ W, w.alloc (.cells zc.toArray 52) = W := ⟨_, rfl⟩
 rw [hW1] at hB1 hr1 hs1 ht1 ⊢
 clear hW1 hr1
 have S1 := h.below hB1
 go_upto_region 1 with fail
 try simp only [Act.put]
 refine pl_begin ?_
 refine pl_t 4 (?_) (by rfl) ?_ rfl ?_
 rotate_left
 ·go_simp
  try with_reducible rfl
 simp only [nz]
 refine pl_call (d := some 5) (by rfl) (by go_simp; first | done | exact ⟨rfl, rfl⟩ | with_reducible rfl) rfl ?_
 refine (ck W1 S1).mono ?_
 rintro _ w2 ⟨rfl, S2, k2⟩
 refine ⟨_, rfl, ?_⟩
 simp only [nz]
 refine pl_t 6 (.agg qk.toArray) (by rfl) (ex_build (parts := [(0, .tmp 5)]) rfl rfl (hbk _)) rfl ?_
 simp only [nz]
 refine pl_run (d := some 3) (v := .pointer (some ⟨w2.heap.size, 0, none⟩)) (w' := w2.alloc (.cells zc.toArray 52)) (by rfl) (ex_alloc rfl (hzr _)) rfl ?_
 simp only [nz]
 refine pl_store (w' := (w2.alloc (.cells zc.toArray 52)).setCells w2.heap.size 0 qk) (by rfl) (ex_put (cs := qk.toArray) rfl rfl rfl (there_newN _ _ _ (by simp [hzl, hql])) (by simpa using hiq) (all_one hq1)) rfl ?_
 refine pl_nil ?_
 obtain ⟨hF1, hF2, hF3, -⟩ := fresh_store w2 zc.toArray 52 qk (by simp [hzl, hql])
 have hF4 := World.there_setCells (there_newN w2 zc.toArray 52 (n := 119) (by simp [hzl])) w2.heap.size 0 qk
 obtain ⟨w3, hw3⟩ : ∃ W, (w2.alloc (.cells zc.toArray 52)).setCells w2.heap.size 0 qk = W := ⟨_, rfl⟩
 rw [hw3] at hF1 hF2 hF3 hF4 ⊢
 clear hw3
 have hc0 := hk0 _ _ hF1
 have k3 : Kept w R Q w3 := (((Kept.refl w R Q).below hB1).trans k2).below hF2
 have z2 := k2.size
 rw [← hqk.out] at hF1
 have V3 : MV w Q R w.heap.size w2.heap.size 119 (Ms.plain 6 0 0 Vt.zero zeros32).cells s0 w3 := ⟨hF1, hF4, there_below (there_blk ht1 (k2.block _ hs1 (by omega) (by omega))) hF2 (by omega), k3, S2.below hF2, by have := hF2.size; omega, by omega, Nat.le_refl _, by have := hB1.size; omega, by omega, hRw, hQw⟩
 have hww : w.heap.size < w2.heap.size := by omega
 clear hF1 hF2 hF4 ht1 hB1 S1 S2 k2 k3 hk0 hbk hql hq1 hiq hqk h ck hzr hzl
 go_upto_region 2 with fail
 try simp only [Act.put]
 refine pl_begin ?_
 refine pl_t 7 (?_) (by rfl) ?_ rfl ?_
 rotate_left
 ·go_simp
  try with_reducible rfl
 simp only [nz]
 refine pl_t 8 (.int .i64 6) (by rfl) (pl_one rfl rfl hc0 Tryz.underlying3 rfl) rfl ?_
 simp only [nz]
 refine pl_nil ?_
 clear hc0
 go_upto_region 16 with fail
 have V8 := V3.drew
 refine hs_begin (S := (fun W' => W'.cell? ⟨Q, 0, none⟩ = some (.pointer (some ⟨R, 0, none⟩)))) 14 rfl (by kernel_rfl) ?_
 obtain ⟨w8, hw8⟩ : ∃ W, w3.drew = W := ⟨_, rfl⟩
 rw [hw8] at V8 ⊢
 clear hw8 V3
 have hS : (fun W' => W'.cell? ⟨Q, 0, none⟩ = some (.pointer (some ⟨R, 0, none⟩))) w8 := V8.rs.mr.c0
 refine hs_t 0 81 (?_) rfl (by kernel_rfl) (by kernel_rfl) (by kernel_rfl) (by rfl) ?_ hS rfl ?_
 rotate_left
 ·intro w' hw
  go_simp
  try with_reducible rfl
 simp only [nz]
 refine hs_t 1 82 (?_) rfl (by kernel_rfl) (by kernel_rfl) (by kernel_rfl) (by rfl) ?_ hS rfl ?_
 rotate_left
 ·intro w' hw
  go_simp
  try with_reducible rfl
 simp only [nz]
 refine hs_t 2 83 (?_) rfl (by kernel_rfl) (by kernel_rfl) (by kernel_rfl) (by rfl) ?_ hS rfl ?_
 rotate_left
 ·intro w' hw
  go_simp
  try with_reducible rfl
 simp only [nz]
 refine hs_t 3 84 (.pointer (some ⟨R, 0, none⟩)) rfl (by kernel_rfl) (by kernel_rfl) (by kernel_rfl) (by rfl) (fun w' hw => pl_one rfl rfl hw Tryz.underlying98 rfl) hS rfl ?_
 simp only [nz]
 refine hs_t 5 86 (?_) rfl (by kernel_rfl) (by kernel_rfl) (by kernel_rfl) (by rfl) ?_ hS rfl ?_
 rotate_left
 ·intro w' hw
  go_simp
  try with_reducible rfl
 simp only [nz]
 refine hs_t 6 87 (?_) rfl (by kernel_rfl) (by kernel_rfl) (by kernel_rfl) (by rfl) ?_ hS rfl ?_
 rotate_left
 ·intro w' hw
  go_simp
  try with_reducible rfl
 simp only [nz]
 refine hs_t 7 88 (?_) rfl (by kernel_rfl) (by kernel_rfl) (by kernel_rfl) (by rfl) ?_ hS rfl ?_
 rotate_left
 ·intro w' hw
  go_simp
  try with_reducible rfl
 simp only [nz]
 refine hs_t 8 89 (.pointer (some ⟨R, 0, none⟩)) rfl (by kernel_rfl) (by kernel_rfl) (by kernel_rfl) (by rfl) (fun w' hw => pl_one rfl rfl hw Tryz.underlying98 rfl) hS rfl ?_
 simp only [nz]
 refine hs_call (i := 4) (d := some 85) rfl (by kernel_rfl) (by rfl) (by go_simp; first | done | exact ⟨rfl, rfl⟩ | with_reducible rfl) rfl ?_
 refine (c_a w8 V8.rs).mono ?_
 rintro _ w5 ⟨rfl, S5, k5⟩
 have hS : (fun W' => W'.cell? ⟨Q, 0, none⟩ = some (.pointer (some ⟨R, 0, none⟩))) w5 := S5.mr.c0
 refine ⟨_, rfl, hS, ?_⟩
 simp only [nz]
 refine hs_t 10 91 (?_) rfl (by kernel_rfl) (by kernel_rfl) (by kernel_rfl) (by rfl) ?_ hS rfl ?_
 rotate_left
 ·intro w' hw
  go_simp
  try with_reducible rfl
 simp only [nz]
 refine hs_call (i := 9) (d := some 90) rfl (by kernel_rfl) (by rfl) (by go_simp; first | done | exact ⟨rfl, rfl⟩ | with_reducible rfl) rfl ?_
 refine (c_b w5 S5).mono ?_
 rintro _ w6 ⟨rfl, S6, k6⟩
 have hS : (fun W' => W'.cell? ⟨Q, 0, none⟩ = some (.pointer (some ⟨R, 0, none⟩))) w6 := S6.mr.c0
 refine ⟨_, rfl, hS, ?_⟩
 simp only [nz]
 have V_0 := ((V8.on k5 S5).on k6 S6)
 have V_1 := V_0.set 1 [.int .i64 v_a] (put_e v_a V_0.row (V_0.part 1 1 (by decide)))
 refine hs_store (i := 11) (w' := w6.setCells w2.heap.size 1 [.int .i64 v_a]) rfl (by kernel_rfl) (by rfl) (ex_put1 (n := 119) rfl rfl rfl V_0.box (by decide) iszI rfl rfl) rfl V_1.rs.mr.c0 ?_
 obtain ⟨w_11, hw_11⟩ : ∃ W, w6.setCells w2.heap.size 1 [.int .i64 v_a] = W := ⟨_, rfl⟩
 rw [hw_11] at V_1 ⊢
 clear hw_11
 have hS : (fun W' => W'.cell? ⟨Q, 0, none⟩ = some (.pointer (some ⟨R, 0, none⟩))) w_11 := V_1.rs.mr.c0
 refine hs_t 12 92 (?_) rfl (by kernel_rfl) (by kernel_rfl) (by kernel_rfl) (by rfl) ?_ hS rfl ?_
 rotate_left
 ·intro w' hw
  go_simp
  try with_reducible rfl
 simp only [nz]
 have V_2 := V_1.set 4 [.int .i64 v_b] (put_s v_b V_1.row (V_1.part 4 1 (by decide)))
 refine hs_store (i := 13) (w' := w_11.setCells w2.heap.size 4 [.int .i64 v_b]) rfl (by kernel_rfl) (by rfl) (ex_put1 (n := 119) rfl rfl rfl V_1.box (by decide) iszI rfl rfl) rfl V_2.rs.mr.c0 ?_
 obtain ⟨w_13, hw_13⟩ : ∃ W, w_11.setCells w2.heap.size 4 [.int .i64 v_b] = W := ⟨_, rfl⟩
 rw [hw_13] at V_2 ⊢
 clear hw_13
 have hS : (fun W' => W'.cell? ⟨Q, 0, none⟩ = some (.pointer (some ⟨R, 0, none⟩))) w_13 := V_2.rs.mr.c0
 refine hs_done (by kernel_rfl) ?_
 clear hS V8 S5 k5 S6 k6 V_0 V_1 c_a c_b
 have Ve := V_2
 have rpc := Ve.row
 have hmo : Mg.ok ⟨6, v_a, 0, 0, v_b, false, ⟨none, 0, []⟩, Vt.zero, 0, 0, 0, ⟨none, 0, []⟩, ⟨none, 0, []⟩, zeros32, Vt.zero, ⟨none, 0, []⟩, ⟨#[]⟩, ⟨none, 0, []⟩⟩ := ⟨Vt.zero_ok, Vt.zero_ok, zeros32_len, zeros32_byte⟩
 have hpl : (Mg.ms ⟨6, v_a, 0, 0, v_b, false, ⟨none, 0, []⟩, Vt.zero, 0, 0, 0, ⟨none, 0, []⟩, ⟨none, 0, []⟩, zeros32, Vt.zero, ⟨none, 0, []⟩, ⟨#[]⟩, ⟨none, 0, []⟩⟩).cells.length = 119 := hmo.ms.len
 have hp1 := hmo.ms.one
 have hip : (Tryz.prog.info? 52).map (·.size) = some (Mg.ms ⟨6, v_a, 0, 0, v_b, false, ⟨none, 0, []⟩, Vt.zero, 0, 0, 0, ⟨none, 0, []⟩, ⟨none, 0, []⟩, zeros32, Vt.zero, ⟨none, 0, []⟩, ⟨#[]⟩, ⟨none, 0, []⟩⟩).cells.length := by rw [hpl]; exact iszM
 have rpc : w_13.rangeAt w2.heap.size 0 (Mg.ms ⟨6, v_a, 0, 0, v_b, false, ⟨none, 0, []⟩, Vt.zero, 0, 0, 0, ⟨none, 0, []⟩, ⟨none, 0, []⟩, zeros32, Vt.zero, ⟨none, 0, []⟩, ⟨#[]⟩, ⟨none, 0, []⟩⟩).cells := rpc
 obtain ⟨pc, hpc⟩ : ∃ p, Hid ((Mg.ms ⟨6, v_a, 0, 0, v_b, false, ⟨none, 0, []⟩, Vt.zero, 0, 0, 0, ⟨none, 0, []⟩, ⟨none, 0, []⟩, zeros32, Vt.zero, ⟨none, 0, []⟩, ⟨#[]⟩, ⟨none, 0, []⟩⟩).cells = p) := ⟨_, hide rfl⟩
 simp only [hpc.out] at hpl hip hp1 rpc
 go_upto_region 22 with fail
 try simp only [Act.put]
 refine pl_begin ?_
 refine pl_t 121 (.agg pc.toArray) (by rfl) (ex_mid rfl rfl rpc Tryz.underlying52 rfl hip) rfl ?_
 simp only [nz]
 refine pl_store (w' := w_13.setCells w.heap.size 0 pc) (by rfl) (ex_put (cs := pc.toArray) rfl rfl rfl (by simpa [hpl] using Ve.ans) (by simpa using hip) (all_one hp1)) rfl ?_
 refine pl_nil ?_
 have hlow : Below w.heap.size w_13 (w_13.setCells w.heap.size 0 pc) := below_sets (Nat.le_refl _) pc 0 _ (Below.refl _ w_13)
 have hrs := run_loadVar_mid (P := Tryz.prog) (w_13.setCells w.heap.size 0 pc) w.heap.size 0 52 pc _ (World.rangeAt_setCells_same w_13 w.heap.size 0 pc (by rw [hpl]; exact Ve.ans)) Tryz.underlying52 rfl hip
 have HF : Hid (∃ m : Mg, Ending.returned (.agg pc.toArray) = .returned (.agg m.ms.cells.toArray) ∧ m.pure = (⟨6, v_a, 0, 0, v_b, false, [], Vt.zero, 0, 0, 0, [], [], zeros32, Vt.zero, [], ⟨#[]⟩, []⟩ : Mp) ∧ m.ok ∧ m.At (w_13.setCells w.heap.size 0 pc) ∧ m.Bk (fun b => w.heap.size ≤ b) ∧ RS (w_13.setCells w.heap.size 0 pc) Q R s_b ∧ Kept w R Q (w_13.setCells w.heap.size 0 pc)) := hide ⟨⟨6, v_a, 0, 0, v_b, false, ⟨none, 0, []⟩, Vt.zero, 0, 0, 0, ⟨none, 0, []⟩, ⟨none, 0, []⟩, zeros32, Vt.zero, ⟨none, 0, []⟩, ⟨#[]⟩, ⟨none, 0, []⟩⟩, by rw [hpc.out], rfl, hmo, mg0_at RowsAt.none hds_none RowsAt.none RowsAt.none RowsAt.none, ⟨no_bk, no_bk, no_bk2, no_bk, no_bk, no_bk⟩, Ve.rs.low hlow hQw, Ve.kept.low hlow (Nat.le_refl _)⟩
 clear Ve hlow rpc hpc hmo V_2
 go_wp2_with fail
 refine bodyPost_ret (v := .agg pc.toArray) ?_ rfl ?_
 ·simp [results, Tryz.results66, Act.put, asAddr, hrs]
 ·exact HF.out
set_option maxRecDepth 100000 in
set_option maxHeartbeats 1000000 in
theorem rmsgK7 (Q R : Nat) (s : Rst) (w : World) (h : RS w Q R s) (hl : s.1.length ≤ 40000) (hk : (kiS 8 s).1 = 7) : Calls Tryz.prog 66 #[.pointer (some ⟨Q, 0, none⟩)] w fun en w' => ∃ m : Mg, en = .returned (.agg m.ms.cells.toArray) ∧ m.pure = (mg7 (kiS 8 s).2).1 ∧ m.ok ∧ m.At w' ∧ m.Bk (fun b => w.heap.size ≤ b) ∧ RS w' Q R (mg7 (kiS 8 s).2).2 ∧ Kept w R Q w' := by
 have hRw := h.st.1.1
 have hQw := h.mr.lt
 have ck := fun w0 h0 => kindRS Q R 8 s w0 h0
 have l0 := kiS_len 8 s
 unfold mg7
 generalize kiS 8 s = p_ at ck l0 hk ⊢
 obtain ⟨k, s0⟩ := p_
 simp only at ck l0 hk ⊢
 subst hk
 have c_a := fun w0 h0 => bgetS Q R s0 w0 h0 (by omega)
 have l_a : (baS s0).2.1.length ≤ s0.1.length := baS_len _
 generalize baS s0 = p_ at c_a l_a ⊢
 obtain ⟨⟨q_a, rs_a⟩, s_a⟩ := p_
 simp only at c_a l_a ⊢
 have c_b := fun w0 h0 => rcertS Q R s_a w0 h0 (by omega)
 have l_b : (ceS s_a).2.1.length ≤ s_a.1.length := ceS_len _
 generalize ceS s_a = p_ at c_b l_b ⊢
 obtain ⟨⟨vt_b, sg_b⟩, s_b⟩ := p_
 simp only at c_b l_b ⊢
 obtain ⟨zc, hzl, hzr⟩ : ∃ z : List Value, z.length = 119 ∧ ∀ w : World, (zeroValue 52).run Tryz.prog w = .ok (.agg z.toArray) w := ⟨_, (Ms.plain_ok 0 0 0 Vt.zero_ok zeros32_len zeros32_byte).len, zeroM⟩
 have hbk := build_kind 7
 have hql := (ms0_ok 7).len
 have hq1 := (ms0_ok 7).one
 have hiq : (Tryz.prog.info? 52).map (·.size) = some (Ms.plain 7 0 0 Vt.zero zeros32).cells.length := by rw [hql]; exact iszM
 have hk0 : ∀ (w' : World) b, w'.rangeAt b 0 (Ms.plain 7 0 0 Vt.zero zeros32).cells → w'.cell? ⟨b, 0, none⟩ = some (.int .i64 7) := fun w' b h => ((ms0_ok 7).at h).k
 obtain ⟨qk, hqk⟩ : ∃ q, Hid ((Ms.plain 7 0 0 Vt.zero zeros32).cells = q) := ⟨_, hide rfl⟩
 simp only [hqk.out] at hbk hql hq1 hiq hk0
 obtain ⟨hB1, hr1, hs1⟩ := boxed_new w zc 52
 have ht1 := there_newN w zc.toArray 52 (n := 119) (by simp [hzl])
 go_enter Tryz.func66, Tryz.ntmps66
 go_upto_region 0 with fail
 try simp only [Act.put]
 refine pl_begin ?_
 refine pl_run (d := some 2) (v := .pointer (some ⟨w.heap.size, 0, none⟩)) (w' := w.alloc (.cells zc.toArray 52)) (by rfl) (ex_alloc rfl (hzr _)) rfl ?_
 simp only [nz]
 refine pl_nil ?_
 obtain ⟨W1, hW1⟩ : ∃ W, w.alloc (.cells zc.toArray 52) = W := ⟨_, rfl⟩
 rw [hW1] at hB1 hr1 hs1 ht1 ⊢
 clear hW1 hr1
 have S1 := h.below hB1
 go_upto_region 1 with fail
 try simp only [Act.put]
 refine pl_begin ?_
 refine pl_t 4 (?_) (by rfl) ?_ rfl ?_
 rotate_left
 ·go_simp
  try with_reducible rfl
 simp only [nz]
 refine pl_call (d := some 5) (by rfl) (by go_simp; first | done | exact ⟨rfl, rfl⟩ | with_reducible rfl) rfl ?_
 refine (ck W1 S1).mono ?_
 rintro _ w2 ⟨rfl, S2, k2⟩
 refine ⟨_, rfl, ?_⟩
 simp only [nz]
 refine pl_t 6 (.agg qk.toArray) (by rfl) (ex_build (parts := [(0, .tmp 5)]) rfl rfl (hbk _)) rfl ?_
 simp only [nz]
 refine pl_run (d := some 3) (v := .pointer (some ⟨w2.heap.size, 0, none⟩)) (w' := w2.alloc (.cells zc.toArray 52)) (by rfl) (ex_alloc rfl (hzr _)) rfl ?_
 simp only [nz]
 refine pl_store (w' := (w2.alloc (.cells zc.toArray 52)).setCells w2.heap.size 0 qk) (by rfl) (ex_put (cs := qk.toArray) rfl rfl rfl (there_newN _ _ _ (by simp [hzl, hql])) (by simpa using hiq) (all_one hq1)) rfl ?_
 refine pl_nil ?_
 obtain ⟨hF1, hF2, hF3, -⟩ := fresh_store w2 zc.toArray 52 qk (by simp [hzl, hql])
 have hF4 := World.there_setCells (there_newN w2 zc.toArray 52 (n := 119) (by simp [hzl])) w2.heap.size 0 qk
 obtain ⟨w3, hw3⟩ : ∃ W, (w2.alloc (.cells zc.toArray 52)).setCells w2.heap.size 0 qk = W := ⟨_, rfl⟩
 rw [hw3] at hF1 hF2 hF3 hF4 ⊢
 clear hw3
 have hc0 := hk0 _ _ hF1
 have k3 : Kept w R Q w3 := (((Kept.refl w R Q).below hB1).trans k2).below hF2
 have z2 := k2.size
 rw [← hqk.out] at hF1
 have V3 : MV w Q R w.heap.size w2.heap.size 119 (Ms.plain 7 0 0 Vt.zero zeros32).cells s0 w3 := ⟨hF1, hF4, there_below (there_blk ht1 (k2.block _ hs1 (by omega) (by omega))) hF2 (by omega), k3, S2.below hF2, by have := hF2.size; omega, by omega, Nat.le_refl _, by have := hB1.size; omega, by omega, hRw, hQw⟩
 have hww : w.heap.size < w2.heap.size := by omega
 clear hF1 hF2 hF4 ht1 hB1 S1 S2 k2 k3 hk0 hbk hql hq1 hiq hqk h ck hzr hzl
 go_upto_region 2 with fail
 try simp only [Act.put]
 refine pl_begin ?_
 refine pl_t 7 (?_) (by rfl) ?_ rfl ?_
 rotate_left
 ·go_simp
  try with_reducible rfl
 simp only [nz]
 refine pl_t 8 (.int .i64 7) (by rfl) (pl_one rfl rfl hc0 Tryz.underlying3 rfl) rfl ?_
 simp only [nz]
 refine pl_nil ?_
 clear hc0
 go_upto_region 18 with fail
 try simp only [Act.put]
 refine pl_begin ?_
 refine pl_t 95 (?_) (by rfl) ?_ rfl ?_
 rotate_left
 ·go_simp
  try with_reducible rfl
 simp only [nz]
 refine pl_t 96 (?_) (by rfl) ?_ rfl ?_
 rotate_left
 ·go_simp
  try with_reducible rfl
 simp only [nz]
 refine pl_t 97 (?_) (by rfl) ?_ rfl ?_
 rotate_left
 ·go_simp
  try with_reducible rfl
 simp only [nz]
 refine pl_t 98 (.pointer (some ⟨R, 0, none⟩)) (by rfl) (pl_one rfl rfl V3.rs.mr.c0 Tryz.underlying98 rfl) rfl ?_
 simp only [nz]
 refine pl_call (d := some 99) (by rfl) (by go_simp; first | done | exact ⟨rfl, rfl⟩ | with_reducible rfl) rfl ?_
 refine (c_a w3 V3.rs).mono ?_
 rintro _ w5 ⟨x, rfl, hx, hA, hB, S5, k5⟩
 refine ⟨_, rfl, ?_⟩
 simp only [nz]
 refine pl_t 100 (?_) (by rfl) ?_ rfl ?_
 rotate_left
 ·go_simp
  try with_reducible rfl
 simp only [nz]
 refine pl_call (d := some 101) (by rfl) (by go_simp; first | done | exact ⟨rfl, rfl⟩ | with_reducible rfl) rfl ?_
 refine (c_b w5 S5).mono ?_
 rintro _ w6 ⟨y, rfl, hy, hC, hD, hvt, S6, k6⟩
 refine ⟨_, rfl, ?_⟩
 simp only [nz]
 refine pl_t 102 (?_) (by rfl) ?_ rfl ?_
 rotate_left
 ·go_simp
  try with_reducible rfl
 simp only [nz]
 have lb := V3.lb
 have la := V3.la
 have na := V3.kept.size
 have z5 := k5.size
 have V6 := (V3.on k5 S5).on k6 S6
 have hA5 : x.At RqE w6 := hA.kept k6 (n := w3.heap.size) (by omega) (by omega) hB (fun b hb => hb.1)
 have Va := V6.set 5 [.bool q_a, x.val] (put_b q_a x.val V6.row (V6.part 5 2 (by decide)))
 refine pl_store (w' := w6.setCells w2.heap.size 5 [.bool q_a, x.val]) (by rfl) (ex_put (cs := #[.bool q_a, x.val]) rfl rfl rfl (V6.part 5 2 (by decide)) iszBa (by simp [Value.oneCell', Sl.val])) rfl ?_
 have hA6 := hA5.put (B := w2.heap.size) (o := 5) (vs := [.bool q_a, x.val]) hB (fun b hb => by omega)
 have hC6 := hC.put (B := w2.heap.size) (o := 5) (vs := [.bool q_a, x.val]) hD (fun b hb => by omega)
 obtain ⟨wd, hwd⟩ : ∃ W, w6.setCells w2.heap.size 5 [.bool q_a, x.val] = W := ⟨_, rfl⟩
 rw [hwd] at Va hA6 hC6 ⊢
 clear hwd
 refine pl_t 103 (?_) (by rfl) ?_ rfl ?_
 rotate_left
 ·go_simp
  try with_reducible rfl
 simp only [nz]
 have hcl : (certL vt_b y).length = 37 := by have := hvt.len; simp [certL]; omega
 have hc1 : ∀ v ∈ certL vt_b y, v.oneCell' = true := fun v hv => by
  rcases List.mem_append.1 hv with g | g
  ·exact Vt.one vt_b v g
  ·rw [List.mem_singleton.1 g]; rfl
 have Ve := Va.set 80 (certL vt_b y) (put_ct vt_b y.val hvt Vt.zero_ok zeros32_len Vt.zero_ok Va.row (Va.part 80 37 (by decide)))
 refine pl_store (w' := wd.setCells w2.heap.size 80 (certL vt_b y)) (by rfl) (ex_put (cs := (certL vt_b y).toArray) rfl rfl rfl (by simpa [hcl] using Va.part 80 37 (by decide)) (by simpa [hcl] using iszCe) (all_one hc1)) rfl ?_
 refine pl_nil ?_
 have hA7 := hA6.put (B := w2.heap.size) (o := 80) (vs := certL vt_b y) hB (fun b hb => by omega)
 have hC7 := hC6.put (B := w2.heap.size) (o := 80) (vs := certL vt_b y) hD (fun b hb => by omega)
 obtain ⟨we, hwe⟩ : ∃ W, wd.setCells w2.heap.size 80 (certL vt_b y) = W := ⟨_, rfl⟩
 rw [hwe] at Ve hA7 hC7 ⊢
 clear hwe
 clear Va V6 V3 S5 S6 k5 k6 hA hC hA5 hA6 hC6
 have rpc := Ve.row
 have hmo : Mg.ok ⟨7, 0, 0, 0, 0, q_a, x, Vt.zero, 0, 0, 0, ⟨none, 0, []⟩, ⟨none, 0, []⟩, zeros32, vt_b, y, ⟨#[]⟩, ⟨none, 0, []⟩⟩ := ⟨Vt.zero_ok, hvt, zeros32_len, zeros32_byte⟩
 have hpl : (Mg.ms ⟨7, 0, 0, 0, 0, q_a, x, Vt.zero, 0, 0, 0, ⟨none, 0, []⟩, ⟨none, 0, []⟩, zeros32, vt_b, y, ⟨#[]⟩, ⟨none, 0, []⟩⟩).cells.length = 119 := hmo.ms.len
 have hp1 := hmo.ms.one
 have hip : (Tryz.prog.info? 52).map (·.size) = some (Mg.ms ⟨7, 0, 0, 0, 0, q_a, x, Vt.zero, 0, 0, 0, ⟨none, 0, []⟩, ⟨none, 0, []⟩, zeros32, vt_b, y, ⟨#[]⟩, ⟨none, 0, []⟩⟩).cells.length := by rw [hpl]; exact iszM
 have rpc : we.rangeAt w2.heap.size 0 (Mg.ms ⟨7, 0, 0, 0, 0, q_a, x, Vt.zero, 0, 0, 0, ⟨none, 0, []⟩, ⟨none, 0, []⟩, zeros32, vt_b, y, ⟨#[]⟩, ⟨none, 0, []⟩⟩).cells := rpc
 obtain ⟨pc, hpc⟩ : ∃ p, Hid ((Mg.ms ⟨7, 0, 0, 0, 0, q_a, x, Vt.zero, 0, 0, 0, ⟨none, 0, []⟩, ⟨none, 0, []⟩, zeros32, vt_b, y, ⟨#[]⟩, ⟨none, 0, []⟩⟩).cells = p) := ⟨_, hide rfl⟩
 simp only [hpc.out] at hpl hip hp1 rpc
 go_upto_region 22 with fail
 try simp only [Act.put]
 refine pl_begin ?_
 refine pl_t 121 (.agg pc.toArray) (by rfl) (ex_mid rfl rfl rpc Tryz.underlying52 rfl hip) rfl ?_
 simp only [nz]
 refine pl_store (w' := we.setCells w.heap.size 0 pc) (by rfl) (ex_put (cs := pc.toArray) rfl rfl rfl (by simpa [hpl] using Ve.ans) (by simpa using hip) (all_one hp1)) rfl ?_
 refine pl_nil ?_
 have hlow : Below w.heap.size we (we.setCells w.heap.size 0 pc) := below_sets (Nat.le_refl _) pc 0 _ (Below.refl _ we)
 have hrs := run_loadVar_mid (P := Tryz.prog) (we.setCells w.heap.size 0 pc) w.heap.size 0 52 pc _ (World.rangeAt_setCells_same we w.heap.size 0 pc (by rw [hpl]; exact Ve.ans)) Tryz.underlying52 rfl hip
 have HF : Hid (∃ m : Mg, Ending.returned (.agg pc.toArray) = .returned (.agg m.ms.cells.toArray) ∧ m.pure = (⟨7, 0, 0, 0, 0, q_a, rs_a, Vt.zero, 0, 0, 0, [], [], zeros32, vt_b, sg_b, ⟨#[]⟩, []⟩ : Mp) ∧ m.ok ∧ m.At (we.setCells w.heap.size 0 pc) ∧ m.Bk (fun b => w.heap.size ≤ b) ∧ RS (we.setCells w.heap.size 0 pc) Q R s_b ∧ Kept w R Q (we.setCells w.heap.size 0 pc)) := hide ⟨⟨7, 0, 0, 0, 0, q_a, x, Vt.zero, 0, 0, 0, ⟨none, 0, []⟩, ⟨none, 0, []⟩, zeros32, vt_b, y, ⟨#[]⟩, ⟨none, 0, []⟩⟩, by rw [hpc.out], by rw [← hx, ← hy]; rfl, hmo, mg0_at (hA7.put hB (fun b hb => by omega)) hds_none RowsAt.none (hC7.put hD (fun b hb => by omega)) RowsAt.none, ⟨hB.mono (fun b hb => by omega), no_bk, no_bk2, no_bk, hD.mono (fun b hb => by omega), no_bk⟩, Ve.rs.low hlow hQw, Ve.kept.low hlow (Nat.le_refl _)⟩
 clear Ve hlow rpc hpc hmo hA7 hC7 hB hD hx hy
 go_wp2_with fail
 refine bodyPost_ret (v := .agg pc.toArray) ?_ rfl ?_
 ·simp [results, Tryz.results66, Act.put, asAddr, hrs]
 ·exact HF.out
set_option maxRecDepth 100000 in
set_option maxHeartbeats 1000000 in
theorem rmsgK8 (Q R : Nat) (s : Rst) (w : World) (h : RS w Q R s) (hl : s.1.length ≤ 40000) (hk : (kiS 8 s).1 = 8) : Calls Tryz.prog 66 #[.pointer (some ⟨Q, 0, none⟩)] w fun en w' => ∃ m : Mg, en = .returned (.agg m.ms.cells.toArray) ∧ m.pure = (mg8 (kiS 8 s).2).1 ∧ m.ok ∧ m.At w' ∧ m.Bk (fun b => w.heap.size ≤ b) ∧ RS w' Q R (mg8 (kiS 8 s).2).2 ∧ Kept w R Q w' := by
 have hRw := h.st.1.1
 have hQw := h.mr.lt
 have ck := fun w0 h0 => kindRS Q R 8 s w0 h0
 have l0 := kiS_len 8 s
 unfold mg8
 generalize kiS 8 s = p_ at ck l0 hk ⊢
 obtain ⟨k, s0⟩ := p_
 simp only at ck l0 hk ⊢
 subst hk
 have c_a := fun w0 h0 => textRS Q R 4194304 s0 w0 h0
 have l_a : (txS 4194304 s0).2.1.length ≤ s0.1.length := txS_len _ _
 generalize txS 4194304 s0 = p_ at c_a l_a ⊢
 obtain ⟨v_a, s_a⟩ := p_
 simp only at c_a l_a ⊢
 have c_b := fun w0 h0 => rlistS_any Q R s_a w0 h0 (by omega)
 have l_b : (lsS 64 siS s_a).2.1.length ≤ s_a.1.length := lsS_len siS_len _ _
 generalize lsS 64 siS s_a = p_ at c_b l_b ⊢
 obtain ⟨v_b, s_b⟩ := p_
 simp only at c_b l_b ⊢
 obtain ⟨zc, hzl, hzr⟩ : ∃ z : List Value, z.length = 119 ∧ ∀ w : World, (zeroValue 52).run Tryz.prog w = .ok (.agg z.toArray) w := ⟨_, (Ms.plain_ok 0 0 0 Vt.zero_ok zeros32_len zeros32_byte).len, zeroM⟩
 have hbk := build_kind 8
 have hql := (ms0_ok 8).len
 have hq1 := (ms0_ok 8).one
 have hiq : (Tryz.prog.info? 52).map (·.size) = some (Ms.plain 8 0 0 Vt.zero zeros32).cells.length := by rw [hql]; exact iszM
 have hk0 : ∀ (w' : World) b, w'.rangeAt b 0 (Ms.plain 8 0 0 Vt.zero zeros32).cells → w'.cell? ⟨b, 0, none⟩ = some (.int .i64 8) := fun w' b h => ((ms0_ok 8).at h).k
 obtain ⟨qk, hqk⟩ : ∃ q, Hid ((Ms.plain 8 0 0 Vt.zero zeros32).cells = q) := ⟨_, hide rfl⟩
 simp only [hqk.out] at hbk hql hq1 hiq hk0
 obtain ⟨hB1, hr1, hs1⟩ := boxed_new w zc 52
 have ht1 := there_newN w zc.toArray 52 (n := 119) (by simp [hzl])
 go_enter Tryz.func66, Tryz.ntmps66
 go_upto_region 0 with fail
 try simp only [Act.put]
 refine pl_begin ?_
 refine pl_run (d := some 2) (v := .pointer (some ⟨w.heap.size, 0, none⟩)) (w' := w.alloc (.cells zc.toArray 52)) (by rfl) (ex_alloc rfl (hzr _)) rfl ?_
 simp only [nz]
 refine pl_nil ?_
 obtain ⟨W1, hW1⟩ : ∃ W, w.alloc (.cells zc.toArray 52) = W := ⟨_, rfl⟩
 rw [hW1] at hB1 hr1 hs1 ht1 ⊢
 clear hW1 hr1
 have S1 := h.below hB1
 go_upto_region 1 with fail
 try simp only [Act.put]
 refine pl_begin ?_
 refine pl_t 4 (?_) (by rfl) ?_ rfl ?_
 rotate_left
 ·go_simp
  try with_reducible rfl
 simp only [nz]
 refine pl_call (d := some 5) (by rfl) (by go_simp; first | done | exact ⟨rfl, rfl⟩ | with_reducible rfl) rfl ?_
 refine (ck W1 S1).mono ?_
 rintro _ w2 ⟨rfl, S2, k2⟩
 refine ⟨_, rfl, ?_⟩
 simp only [nz]
 refine pl_t 6 (.agg qk.toArray) (by rfl) (ex_build (parts := [(0, .tmp 5)]) rfl rfl (hbk _)) rfl ?_
 simp only [nz]
 refine pl_run (d := some 3) (v := .pointer (some ⟨w2.heap.size, 0, none⟩)) (w' := w2.alloc (.cells zc.toArray 52)) (by rfl) (ex_alloc rfl (hzr _)) rfl ?_
 simp only [nz]
 refine pl_store (w' := (w2.alloc (.cells zc.toArray 52)).setCells w2.heap.size 0 qk) (by rfl) (ex_put (cs := qk.toArray) rfl rfl rfl (there_newN _ _ _ (by simp [hzl, hql])) (by simpa using hiq) (all_one hq1)) rfl ?_
 refine pl_nil ?_
 obtain ⟨hF1, hF2, hF3, -⟩ := fresh_store w2 zc.toArray 52 qk (by simp [hzl, hql])
 have hF4 := World.there_setCells (there_newN w2 zc.toArray 52 (n := 119) (by simp [hzl])) w2.heap.size 0 qk
 obtain ⟨w3, hw3⟩ : ∃ W, (w2.alloc (.cells zc.toArray 52)).setCells w2.heap.size 0 qk = W := ⟨_, rfl⟩
 rw [hw3] at hF1 hF2 hF3 hF4 ⊢
 clear hw3
 have hc0 := hk0 _ _ hF1
 have k3 : Kept w R Q w3 := (((Kept.refl w R Q).below hB1).trans k2).below hF2
 have z2 := k2.size
 rw [← hqk.out] at hF1
 have V3 : MV w Q R w.heap.size w2.heap.size 119 (Ms.plain 8 0 0 Vt.zero zeros32).cells s0 w3 := ⟨hF1, hF4, there_below (there_blk ht1 (k2.block _ hs1 (by omega) (by omega))) hF2 (by omega), k3, S2.below hF2, by have := hF2.size; omega, by omega, Nat.le_refl _, by have := hB1.size; omega, by omega, hRw, hQw⟩
 have hww : w.heap.size < w2.heap.size := by omega
 clear hF1 hF2 hF4 ht1 hB1 S1 S2 k2 k3 hk0 hbk hql hq1 hiq hqk h ck hzr hzl
 go_upto_region 2 with fail
 try simp only [Act.put]
 refine pl_begin ?_
 refine pl_t 7 (?_) (by rfl) ?_ rfl ?_
 rotate_left
 ·go_simp
  try with_reducible rfl
 simp only [nz]
 refine pl_t 8 (.int .i64 8) (by rfl) (pl_one rfl rfl hc0 Tryz.underlying3 rfl) rfl ?_
 simp only [nz]
 refine pl_nil ?_
 clear hc0
 go_upto_region 20 with fail
 try simp only [Act.put]
 refine pl_begin ?_
 refine pl_t 106 (?_) (by rfl) ?_ rfl ?_
 rotate_left
 ·go_simp
  try with_reducible rfl
 simp only [nz]
 refine pl_t 107 (?_) (by rfl) ?_ rfl ?_
 rotate_left
 ·go_simp
  try with_reducible rfl
 simp only [nz]
 refine pl_t 108 (?_) (by rfl) ?_ rfl ?_
 rotate_left
 ·go_simp
  try with_reducible rfl
 simp only [nz]
 refine pl_t 109 (.pointer (some ⟨R, 0, none⟩)) (by rfl) (pl_one rfl rfl V3.rs.mr.c0 Tryz.underlying98 rfl) rfl ?_
 simp only [nz]
 refine pl_call (d := some 110) (by rfl) (by go_simp; first | done | exact ⟨rfl, rfl⟩ | with_reducible rfl) rfl ?_
 refine (c_a w3 V3.rs).mono ?_
 rintro _ w5 ⟨rfl, S5, k5⟩
 refine ⟨_, rfl, ?_⟩
 simp only [nz]
 refine pl_t 111 (?_) (by rfl) ?_ rfl ?_
 rotate_left
 ·go_simp
  try with_reducible rfl
 simp only [nz]
 have V5 := V3.on k5 S5
 have Va := V5.set 117 [.string v_a] (put_st v_a Vt.zero_ok zeros32_len Vt.zero_ok V5.row (V5.part 117 1 (by decide)))
 refine pl_store (w' := w5.setCells w2.heap.size 117 [.string v_a]) (by rfl) (ex_put1 (n := 119) rfl rfl rfl V5.box (by decide) iszStr rfl rfl) rfl ?_
 refine pl_nil ?_
 obtain ⟨w6, hw6⟩ : ∃ W, w5.setCells w2.heap.size 117 [.string v_a] = W := ⟨_, rfl⟩
 rw [hw6] at Va ⊢
 clear hw6
 clear V5 V3 S5 k5
 go_upto_region 21 with fail
 try simp only [Act.put]
 refine pl_begin ?_
 refine pl_t 112 (?_) (by rfl) ?_ rfl ?_
 rotate_left
 ·go_simp
  try with_reducible rfl
 simp only [nz]
 refine pl_t 113 (?_) (by rfl) ?_ rfl ?_
 rotate_left
 ·go_simp
  try with_reducible rfl
 simp only [nz]
 refine pl_t 114 (?_) (by rfl) ?_ rfl ?_
 rotate_left
 ·go_simp
  try with_reducible rfl
 simp only [nz]
 refine pl_t 115 (.pointer (some ⟨R, 0, none⟩)) (by rfl) (pl_one rfl rfl Va.rs.mr.c0 Tryz.underlying98 rfl) rfl ?_
 simp only [nz]
 refine pl_t 116 (?_) (by rfl) ?_ rfl ?_
 rotate_left
 ·go_simp
  try with_reducible rfl
 simp only [nz]
 refine pl_t 117 (?_) (by rfl) ?_ rfl ?_
 rotate_left
 ·go_simp
  try with_reducible rfl
 simp only [nz]
 refine pl_t 118 (?_) (by rfl) ?_ rfl ?_
 rotate_left
 ·go_simp
  try with_reducible rfl
 simp only [nz]
 refine pl_call (d := some 119) (by rfl) (by go_simp; first | done | exact ⟨rfl, rfl⟩ | with_reducible rfl) rfl ?_
 refine (c_b w6 Va.rs).mono ?_
 rintro _ wd ⟨x, rfl, hx, hA, hB, Sd, kd⟩
 refine ⟨_, rfl, ?_⟩
 simp only [nz]
 refine pl_t 120 (?_) (by rfl) ?_ rfl ?_
 rotate_left
 ·go_simp
  try with_reducible rfl
 simp only [nz]
 have Vd := Va.on kd Sd
 have Ve := Vd.set 118 [x.val] (put_sg x.val Vt.zero_ok zeros32_len Vt.zero_ok Vd.row (Vd.part 118 1 (by decide)))
 have lb := Va.lb
 have la := Va.la
 have na := Va.kept.size
 refine pl_store (w' := wd.setCells w2.heap.size 118 [x.val]) (by rfl) (ex_put1 (n := 119) rfl rfl rfl Vd.box (by decide) iszSgs rfl rfl) rfl ?_
 refine pl_nil ?_
 have hA1 := hA.put (B := w2.heap.size) (o := 118) (vs := [x.val]) hB (fun b hb => by omega)
 obtain ⟨we, hwe⟩ : ∃ W, wd.setCells w2.heap.size 118 [x.val] = W := ⟨_, rfl⟩
 rw [hwe] at Ve hA1 ⊢
 clear hwe
 clear Vd Sd kd Va hA
 have rpc := Ve.row
 have hmo : Mg.ok ⟨8, 0, 0, 0, 0, false, ⟨none, 0, []⟩, Vt.zero, 0, 0, 0, ⟨none, 0, []⟩, ⟨none, 0, []⟩, zeros32, Vt.zero, ⟨none, 0, []⟩, v_a, x⟩ := ⟨Vt.zero_ok, Vt.zero_ok, zeros32_len, zeros32_byte⟩
 have hpl : (Mg.ms ⟨8, 0, 0, 0, 0, false, ⟨none, 0, []⟩, Vt.zero, 0, 0, 0, ⟨none, 0, []⟩, ⟨none, 0, []⟩, zeros32, Vt.zero, ⟨none, 0, []⟩, v_a, x⟩).cells.length = 119 := hmo.ms.len
 have hp1 := hmo.ms.one
 have hip : (Tryz.prog.info? 52).map (·.size) = some (Mg.ms ⟨8, 0, 0, 0, 0, false, ⟨none, 0, []⟩, Vt.zero, 0, 0, 0, ⟨none, 0, []⟩, ⟨none, 0, []⟩, zeros32, Vt.zero, ⟨none, 0, []⟩, v_a, x⟩).cells.length := by rw [hpl]; exact iszM
 have rpc : we.rangeAt w2.heap.size 0 (Mg.ms ⟨8, 0, 0, 0, 0, false, ⟨none, 0, []⟩, Vt.zero, 0, 0, 0, ⟨none, 0, []⟩, ⟨none, 0, []⟩, zeros32, Vt.zero, ⟨none, 0, []⟩, v_a, x⟩).cells := rpc
 obtain ⟨pc, hpc⟩ : ∃ p, Hid ((Mg.ms ⟨8, 0, 0, 0, 0, false, ⟨none, 0, []⟩, Vt.zero, 0, 0, 0, ⟨none, 0, []⟩, ⟨none, 0, []⟩, zeros32, Vt.zero, ⟨none, 0, []⟩, v_a, x⟩).cells = p) := ⟨_, hide rfl⟩
 simp only [hpc.out] at hpl hip hp1 rpc
 go_upto_region 22 with fail
 try simp only [Act.put]
 refine pl_begin ?_
 refine pl_t 121 (.agg pc.toArray) (by rfl) (ex_mid rfl rfl rpc Tryz.underlying52 rfl hip) rfl ?_
 simp only [nz]
 refine pl_store (w' := we.setCells w.heap.size 0 pc) (by rfl) (ex_put (cs := pc.toArray) rfl rfl rfl (by simpa [hpl] using Ve.ans) (by simpa using hip) (all_one hp1)) rfl ?_
 refine pl_nil ?_
 have hlow : Below w.heap.size we (we.setCells w.heap.size 0 pc) := below_sets (Nat.le_refl _) pc 0 _ (Below.refl _ we)
 have hrs := run_loadVar_mid (P := Tryz.prog) (we.setCells w.heap.size 0 pc) w.heap.size 0 52 pc _ (World.rangeAt_setCells_same we w.heap.size 0 pc (by rw [hpl]; exact Ve.ans)) Tryz.underlying52 rfl hip
 have HF : Hid (∃ m : Mg, Ending.returned (.agg pc.toArray) = .returned (.agg m.ms.cells.toArray) ∧ m.pure = (⟨8, 0, 0, 0, 0, false, [], Vt.zero, 0, 0, 0, [], [], zeros32, Vt.zero, [], v_a, v_b⟩ : Mp) ∧ m.ok ∧ m.At (we.setCells w.heap.size 0 pc) ∧ m.Bk (fun b => w.heap.size ≤ b) ∧ RS (we.setCells w.heap.size 0 pc) Q R s_b ∧ Kept w R Q (we.setCells w.heap.size 0 pc)) := hide ⟨⟨8, 0, 0, 0, 0, false, ⟨none, 0, []⟩, Vt.zero, 0, 0, 0, ⟨none, 0, []⟩, ⟨none, 0, []⟩, zeros32, Vt.zero, ⟨none, 0, []⟩, v_a, x⟩, by rw [hpc.out], by rw [← hx]; rfl, hmo, mg0_at RowsAt.none hds_none RowsAt.none RowsAt.none (hA1.put hB (fun b hb => by omega)), ⟨no_bk, no_bk, no_bk2, no_bk, no_bk, hB.mono (fun b hb => by omega)⟩, Ve.rs.low hlow hQw, Ve.kept.low hlow (Nat.le_refl _)⟩
 clear Ve hlow rpc hpc hmo hA1 hB hx
 go_wp2_with fail
 refine bodyPost_ret (v := .agg pc.toArray) ?_ rfl ?_
 ·simp [results, Tryz.results66, Act.put, asAddr, hrs]
 ·exact HF.out
theorem rmsgS (Q R : Nat) (s : Rst) (w : World) (h : RS w Q R s) (hl : s.1.length ≤ 40000) : Calls Tryz.prog 66 #[.pointer (some ⟨Q, 0, none⟩)] w fun en w' => ∃ m : Mg, en = .returned (.agg m.ms.cells.toArray) ∧ m.pure = (mgS s).1 ∧ m.ok ∧ m.At w' ∧ m.Bk (fun b => w.heap.size ≤ b) ∧ RS w' Q R (mgS s).2 ∧ Kept w R Q w' := by
 unfold mgS mgF
 by_cases n1 : (kiS 8 s).1 = 1
 ·rw [if_pos n1]; exact rmsgK1 Q R s w h hl n1
 rw [if_neg n1]
 by_cases n2 : (kiS 8 s).1 = 2
 ·rw [if_pos n2]; exact rmsgK2 Q R s w h hl n2
 rw [if_neg n2]
 by_cases n3 : (kiS 8 s).1 = 3
 ·rw [if_pos n3]; exact rmsgK3 Q R s w h hl n3
 rw [if_neg n3]
 by_cases n4 : (kiS 8 s).1 = 4
 ·rw [if_pos n4]; exact rmsgK4 Q R s w h hl n4
 rw [if_neg n4]
 by_cases n5 : (kiS 8 s).1 = 5
 ·rw [if_pos n5]; exact rmsgK5 Q R s w h hl n5
 rw [if_neg n5]
 by_cases n6 : (kiS 8 s).1 = 6
 ·rw [if_pos n6]; exact rmsgK6 Q R s w h hl n6
 rw [if_neg n6]
 by_cases n7 : (kiS 8 s).1 = 7
 ·rw [if_pos n7]; exact rmsgK7 Q R s w h hl n7
 rw [if_neg n7]
 by_cases n8 : (kiS 8 s).1 = 8
 ·rw [if_pos n8]; exact rmsgK8 Q R s w h hl n8
 rw [if_neg n8]
 exact rmsgK0 Q R s w h hl n1 n2 n3 n4 n5 n6 n7 n8
set_option maxRecDepth 100000 in
set_option maxHeartbeats 2000000 in
theorem newReaderS (s : ByteArray) (hs : s.size ≤ 1099511627) (w : World) : Calls Tryz.prog 65 #[.string s] w fun e w' => ∃ Q R, e = .returned (.pointer (some ⟨Q, 0, none⟩)) ∧ w.heap.size ≤ R ∧ RS w' Q R (strL s, 0, false) ∧ Below w.heap.size w w' := by
 obtain ⟨c, w1, hc, hr, hB⟩ := bytes_of s hs w
 have hl : (strL s).length ≤ 549755813888 := by rw [strL_length]; omega
 have cr := read_any (some ⟨w.heap.size, 0, none⟩) c (strL s) w1 hr hl
 generalize strL s = zs at *
 go_enter Tryz.func65, Tryz.ntmps65
 go_wp2_with fail
 refine cr.mono ?_
 rintro e w2 ⟨R, rfl, hR, hSt, hb2⟩
 have hB2 := hB.trans (hb2.mono hB.size)
 have hB3 : Below w2.heap.size w2 (w2.alloc (.cells #[.pointer (some ⟨R, 0, none⟩), .bool false] 178)) := (Below.refl _ _).alloc (Nat.le_refl _) _
 have hB4 := hB2.trans (hB3.mono hB2.size)
 have hRl := hSt.1.1
 have hSt3 := hSt.below hB3
 have hQ : MrAt (w2.alloc (.cells #[.pointer (some ⟨R, 0, none⟩), .bool false] 178)) w2.heap.size R false :=
  ⟨by simp, hRl, World.cell?_alloc_at _ _ _ _ rfl, World.cell?_alloc_at _ _ _ _ rfl, World.frozen?_alloc_at _ _ _ _ rfl⟩
 have hQt := there_newN w2 #[.pointer (some ⟨R, 0, none⟩), .bool false] 178 (n := 2) rfl
 have hRw : w.heap.size ≤ R := by have := hB.size; omega
 clear cr hc hr hSt hB3 hB2 hb2 hB
 go_wp2_with fail
 go_ret
 exact ⟨_, R, rfl, hRw, ⟨hSt3, hQ, hQt⟩, hB4⟩
def faE (s : Rst) : Int := if s.2.2 = true then 130 else doneE s.1 s.2.1
set_option maxRecDepth 100000 in
set_option maxHeartbeats 1000000 in
theorem faultS (Q R : Nat) (s : Rst) (w : World) (h : RS w Q R s) : Calls Tryz.prog 67 #[.pointer (some ⟨Q, 0, none⟩)] w fun en w' => en = .returned (.int .i64 (faE s)) ∧ w' = w := by
 obtain ⟨rest, e, z⟩ := s
 unfold faE
 cases z
 ·exact fault_ok Q R rest e w h.st h.mr
 ·have c0 := h.mr.c0
  have c1 := h.mr.c1
  simp only at c0 c1
  clear h
  go_enter Tryz.func67, Tryz.ntmps67
  go_wp2_with fail
  go_ret
  exact ⟨rfl, rfl⟩
def Mp.none : Mp := ⟨0, 0, 0, 0, 0, false, [], Vt.zero, 0, 0, 0, [], [], zeros32, Vt.zero, [], ⟨#[]⟩, []⟩
def decS (zs : List Int) : Mp × Int := if faE (mgS (zs, 0, false)).2 = 0 then ((mgS (zs, 0, false)).1, 0) else (Mp.none, faE (mgS (zs, 0, false)).2)
def Mg.none : Mg := ⟨0, 0, 0, 0, 0, false, ⟨Option.none, 0, []⟩, Vt.zero, 0, 0, 0, ⟨Option.none, 0, []⟩, ⟨Option.none, 0, []⟩, zeros32, Vt.zero, ⟨Option.none, 0, []⟩, ⟨#[]⟩, ⟨Option.none, 0, []⟩⟩
theorem Mg.none_ok : Mg.none.ok := ⟨Vt.zero_ok, Vt.zero_ok, zeros32_len, zeros32_byte⟩
theorem Mg.none_at (w : World) : Mg.none.At w := mg0_at RowsAt.none hds_none RowsAt.none RowsAt.none RowsAt.none
theorem Mg.At.put {m : Mg} {W : World} {n o : Nat} {vs : List Value} (h : m.At W) (k : Mg.Bk m (fun b => n < b)) : m.At (W.setCells n o vs) := by
 obtain ⟨k1, k2, k2', k3, k4, k5⟩ := k
 have f : ∀ b, n < b → b ≠ n := fun b hb => by omega
 exact ⟨h.rs.put k1 f, h.he.put k2 k2' f, h.ne.put k3 f, h.cs.put k4 f, h.sg.put k5 f⟩
theorem build_none (w : World) : (Instr.build 52 #[]).run Tryz.prog w = .ok (.agg Mg.none.ms.cells.toArray) w := build_msg #[] _ w rfl
set_option maxRecDepth 100000 in
set_option maxHeartbeats 1000000 in
theorem decode_any (sb : ByteArray) (hs : sb.size ≤ 40000) (w : World) : Calls Tryz.prog 30 #[.string sb] w fun en w' => ∃ m : Mg, en = .returned (.tuple #[.agg m.ms.cells.toArray, .int .i64 (decS (strL sb)).2]) ∧ m.pure = (decS (strL sb)).1 ∧ m.ok ∧ m.At w' ∧ m.Bk (fun b => w.heap.size ≤ b) ∧ Below w.heap.size w w' := by
 obtain ⟨zc, hzc, hzl, hz1, hzr, hb0⟩ : ∃ z : List Value, Hid (z = Mg.none.ms.cells) ∧ z.length = 119 ∧ (∀ v ∈ z, v.oneCell' = true) ∧ (∀ w : World, (zeroValue 52).run Tryz.prog w = .ok (.agg z.toArray) w) ∧ ∀ w : World, (Instr.build 52 #[]).run Tryz.prog w = .ok (.agg z.toArray) w := ⟨_, hide rfl, Mg.none_ok.ms.len, Mg.none_ok.ms.one, zeroM, build_none⟩
 have hiz : (Tryz.prog.info? 52).map (·.size) = some zc.length := by rw [hzl]; exact iszM
 have cn := fun w0 => newReaderS sb (by omega) w0
 have cr := fun Q R w0 h0 => rmsgS Q R (strL sb, 0, false) w0 h0 (by show (strL sb).length ≤ 40000; rw [strL_length]; exact hs)
 have hs' : (sb.size : Int) ≤ 4194304 := by omega
 unfold decS
 generalize strL sb = zs at cn cr ⊢
 generalize mgS (zs, 0, false) = p_ at cr ⊢
 obtain ⟨mp, t⟩ := p_
 simp only at cr ⊢
 have cf := fun Q R w0 h0 => faultS Q R t w0 h0
 generalize faE t = f at cf ⊢
 obtain ⟨hB1, hr1, hs1⟩ := boxed_new w zc 52
 have ht1 := there_newN w zc.toArray 52 (n := 119) (by simp [hzl])
 go_enter Tryz.func30, Tryz.ntmps30
 go_upto_region 0 with fail
 try simp only [Act.put]
 refine pl_begin ?_
 refine pl_run (d := some 2) (v := .pointer (some ⟨w.heap.size, 0, none⟩)) (w' := w.alloc (.cells zc.toArray 52)) (by rfl) (ex_alloc rfl (hzr _)) rfl ?_
 simp only [nz]
 refine pl_t 3 (?_) (by rfl) ?_ rfl ?_
 rotate_left
 ·go_simp
  try with_reducible rfl
 simp only [nz]
 refine pl_nil ?_
 obtain ⟨W1, hW1⟩ : ∃ W, w.alloc (.cells zc.toArray 52) = W := ⟨_, rfl⟩
 rw [hW1] at hB1 hr1 hs1 ht1 ⊢
 clear hW1 hr1
 go_upto_region 3 with fail
 try simp only [Act.put]
 refine pl_begin ?_
 refine pl_t 11 (?_) (by rfl) ?_ rfl ?_
 rotate_left
 ·go_simp
  try with_reducible rfl
 simp only [nz]
 refine pl_call (d := some 12) (by rfl) (by go_simp; first | done | exact ⟨rfl, rfl⟩ | with_reducible rfl) rfl ?_
 refine (cn W1).mono ?_
 rintro _ w2 ⟨Q, R, rfl, hRw, S2, hb2⟩
 refine ⟨_, rfl, ?_⟩
 simp only [nz]
 refine pl_t 4 (?_) (by rfl) ?_ rfl ?_
 rotate_left
 ·go_simp
  try with_reducible rfl
 simp only [nz]
 refine pl_nil ?_
 have hT2 := there_below ht1 hb2 hs1
 have hRQ := S2.mr.ne
 have hB2 := hB1.trans (hb2.mono hB1.size)
 have z2 := hb2.size
 clear cn
 go_upto_region 4 with fail
 try simp only [Act.put]
 refine pl_begin ?_
 refine pl_t 13 (?_) (by rfl) ?_ rfl ?_
 rotate_left
 ·go_simp
  try with_reducible rfl
 simp only [nz]
 refine pl_call (d := some 14) (by rfl) (by go_simp; first | done | exact ⟨rfl, rfl⟩ | with_reducible rfl) rfl ?_
 refine (cr Q R w2 S2).mono ?_
 rintro _ w3 ⟨m, rfl, hp, hmo, hA, hB, S3, k3⟩
 refine ⟨_, rfl, ?_⟩
 simp only [nz]
 have hql := hmo.ms.len
 have hq1 := hmo.ms.one
 have hiq : (Tryz.prog.info? 52).map (·.size) = some m.ms.cells.length := by rw [hql]; exact iszM
 obtain ⟨q, hqq⟩ : ∃ q, Hid (m.ms.cells = q) := ⟨_, hide rfl⟩
 simp only [hqq.out] at hql hq1 hiq ⊢
 refine pl_run (d := some 5) (v := .pointer (some ⟨w3.heap.size, 0, none⟩)) (w' := w3.alloc (.cells zc.toArray 52)) (by rfl) (ex_alloc rfl (hzr _)) rfl ?_
 simp only [nz]
 refine pl_store (w' := (w3.alloc (.cells zc.toArray 52)).setCells w3.heap.size 0 q) (by rfl) (ex_put (cs := q.toArray) rfl rfl rfl (there_newN _ _ _ (by simp [hzl, hql])) (by simpa using hiq) (all_one hq1)) rfl ?_
 refine pl_nil ?_
 obtain ⟨r4, hF2, hF3, -⟩ := fresh_store w3 zc.toArray 52 q (by simp [hzl, hql])
 have hT3 := there_blk hT2 (k3.block w.heap.size (by omega) (by omega) (by omega))
 have hB3 : Below w.heap.size w w3 := k3.to hB2 (by omega) (by omega)
 have z3 := k3.size
 obtain ⟨w4, hw4⟩ : ∃ W, (w3.alloc (.cells zc.toArray 52)).setCells w3.heap.size 0 q = W := ⟨_, rfl⟩
 rw [hw4] at r4 hF2 hF3 ⊢
 clear hw4
 have S4 := S3.below hF2
 have hT4 := there_below hT3 hF2 (by omega)
 have hB4 := hB3.trans (hF2.mono hB3.size)
 have hA4 := hA.below hF2
 have cf := cf Q R
 have hBk : m.Bk (fun b => w.heap.size < b) := ⟨hB.1.mono (fun b hb => by omega), hB.2.1.mono (fun b hb => by omega), fun y hy => (hB.2.2.1 y hy).mono (fun b hb => by omega), hB.2.2.2.1.mono (fun b hb => by omega), hB.2.2.2.2.1.mono (fun b hb => by omega), hB.2.2.2.2.2.mono (fun b hb => by omega)⟩
 have hBk0 : m.Bk (fun b => w.heap.size ≤ b) := ⟨hB.1.mono (fun b hb => by omega), hB.2.1.mono (fun b hb => by omega), fun y hy => (hB.2.2.1 y hy).mono (fun b hb => by omega), hB.2.2.2.1.mono (fun b hb => by omega), hB.2.2.2.2.1.mono (fun b hb => by omega), hB.2.2.2.2.2.mono (fun b hb => by omega)⟩
 have B9 := fun vs => below_sets (Nat.le_refl w.heap.size) vs 0 _ hB4
 have A9 := fun vs => Mg.At.put (o := 0) (vs := vs) hA4 hBk
 have HM := hide (show m.pure = mp ∧ m.ok ∧ m.Bk (fun b => w.heap.size ≤ b) from ⟨hp, hmo, hBk0⟩)
 clear hF2 hA hB hBk hBk0 hT3 hB3 S3 k3 hT2 hB2 hp hmo hA4 cr S2 hb2
 go_upto_region 5 with fail
 try simp only [Act.put]
 refine pl_begin ?_
 refine pl_t 15 (?_) (by rfl) ?_ rfl ?_
 rotate_left
 ·go_simp
  try with_reducible rfl
 simp only [nz]
 refine pl_call (d := some 16) (by rfl) (by go_simp; first | done | exact ⟨rfl, rfl⟩ | with_reducible rfl) rfl ?_
 refine (cf w4 S4).mono ?_
 rintro _ w5 ⟨rfl, hx⟩
 obtain rfl := hx.symm
 clear hx
 refine ⟨_, rfl, ?_⟩
 simp only [nz]
 refine pl_t 6 (?_) (by rfl) ?_ rfl ?_
 rotate_left
 ·go_simp
  try with_reducible rfl
 simp only [nz]
 refine pl_nil ?_
 clear cf S4
 by_cases hf : f = 0
 ·subst hf
  go_upto_region 8 with fail
  try simp only [Act.put]
  refine pl_begin ?_
  refine pl_t 21 (.agg q.toArray) (by rfl) (ex_mid rfl rfl r4 Tryz.underlying52 rfl hiq) rfl ?_
  simp only [nz]
  refine pl_store (w' := w4.setCells w.heap.size 0 q) (by rfl) (ex_put (cs := q.toArray) rfl rfl rfl (by simpa [hql] using hT4) (by simpa using hiq) (all_one hq1)) rfl ?_
  refine pl_t 3 (?_) (by rfl) ?_ rfl ?_
  rotate_left
  ·go_simp
   try with_reducible rfl
  simp only [nz]
  refine pl_nil ?_
  have hrs := run_loadVar_mid (P := Tryz.prog) (w4.setCells w.heap.size 0 q) w.heap.size 0 52 q _ (World.rangeAt_setCells_same w4 w.heap.size 0 q (by rw [hql]; exact hT4)) Tryz.underlying52 rfl hiq
  have HF : Hid (∃ g : Mg, Ending.returned (.tuple #[.agg q.toArray, .int .i64 0]) = .returned (.tuple #[.agg g.ms.cells.toArray, .int .i64 0]) ∧ g.pure = mp ∧ g.ok ∧ g.At (w4.setCells w.heap.size 0 q) ∧ g.Bk (fun b => w.heap.size ≤ b) ∧ Below w.heap.size w (w4.setCells w.heap.size 0 q)) := hide ⟨m, by rw [hqq.out], HM.out.1, HM.out.2.1, A9 q, HM.out.2.2, B9 q⟩
  clear HM A9 B9 r4 hT4 hB4 hqq
  go_wp2_with fail
  refine bodyPost_ret (results_ct rfl _ _ _ rfl hrs) rfl ?_
  exact HF.out
 ·have hfb : (f != 0) = true := by simpa using hf
  go_upto_region 7 with fail
  try simp only [Act.put]
  refine pl_begin ?_
  refine pl_t 19 (.agg zc.toArray) (by rfl) (ex_build (parts := []) rfl rfl (hb0 _)) rfl ?_
  simp only [nz]
  refine pl_t 20 (?_) (by rfl) ?_ rfl ?_
  rotate_left
  ·go_simp
   try with_reducible rfl
  simp only [nz]
  refine pl_store (w' := w4.setCells w.heap.size 0 zc) (by rfl) (ex_put (cs := zc.toArray) rfl rfl rfl (by simpa [hzl] using hT4) (by simpa using hiz) (all_one hz1)) rfl ?_
  refine pl_t 3 (?_) (by rfl) ?_ rfl ?_
  rotate_left
  ·go_simp
   try with_reducible rfl
  simp only [nz]
  refine pl_nil ?_
  have hrs := run_loadVar_mid (P := Tryz.prog) (w4.setCells w.heap.size 0 zc) w.heap.size 0 52 zc _ (World.rangeAt_setCells_same w4 w.heap.size 0 zc (by rw [hzl]; exact hT4)) Tryz.underlying52 rfl hiz
  have HF : Hid (∃ g : Mg, Ending.returned (.tuple #[.agg zc.toArray, .int .i64 f]) = .returned (.tuple #[.agg g.ms.cells.toArray, .int .i64 f]) ∧ g.pure = Mp.none ∧ g.ok ∧ g.At (w4.setCells w.heap.size 0 zc) ∧ g.Bk (fun b => w.heap.size ≤ b) ∧ Below w.heap.size w (w4.setCells w.heap.size 0 zc)) := hide ⟨Mg.none, by rw [hzc.out], rfl, Mg.none_ok, Mg.none_at _, ⟨no_bk, no_bk, no_bk2, no_bk, no_bk, no_bk⟩, B9 zc⟩
  clear HM A9 B9 r4 hT4 hB4 hqq hzc
  go_wp2_with fail
  refine bodyPost_ret (results_ct rfl _ _ _ rfl hrs) rfl ?_
  first | exact HF.out | (rw [if_neg hf]; exact HF.out) | (simp only [if_neg hf]; exact HF.out)
def infoCl0 : List Value := [Value.int .i64 0, .string ⟨#[]⟩] ++ v8 (List.replicate 16 0)
theorem infoCl : (Tryz.prog.info? 69).map (fun i => (i.zero, i.size, i.bytes)) = some (some (.agg infoCl0.toArray), 18, 40) := by kernel_rfl
theorem iszCls : (Tryz.prog.info? 64).map (·.size) = some 1 := by kernel_rfl
theorem zeroClE (w : World) : (zeroValue 69).run Tryz.prog w = .ok (.agg ([Value.int .i64 0] ++ ([Value.string ⟨#[]⟩] ++ v8 (List.replicate 16 0))).toArray) w := by kernel_rfl
set_option maxRecDepth 100000 in
theorem build_cl (n : Int) (b : ByteArray) (t : List Value) (ht : t.length = 16) (w : World) : (Instr.build 69 #[(0, .int .i64 n), (1, .string b), (2, .agg t.toArray)]).run Tryz.prog w = .ok (.agg (.int .i64 n :: .string b :: t).toArray) w :=
 build_fill (zs := [Value.int .i64 0] ++ ([Value.string ⟨#[]⟩] ++ v8 (List.replicate 16 0))) (pl := #[(0, 1), (1, 1), (2, 16)]) (zeroClE w) (by kernel_rfl) (by kernel_rfl) _ _ (fill_three (c1 := [.int .i64 n]) (c2 := [.string b]) rfl rfl rfl rfl rfl rfl rfl rfl ht rfl rfl rfl)
theorem ex_app2 {P : Program} {o : Oper} {a : Act} {w : World} {s x : Operand} {t e : TypeId} {i : TypeInfo} {z : Value} {B cb k : Nat} {v : Value} {n : Nat} {xs u : List Value} (ho : o.op = .call { callee := .builtin .append, args := #[s, x], argTypes := #[t, t] }) (hv : a.eval s = v) (hx : a.eval x = .slice (some ⟨cb, 0, none⟩) 1 1)
    (ht : P.underlying t = some (.slice e)) (hi : P.info? e = some i) (hz : i.zero = some z) (hs : i.size = k) (hb : i.bytes ≤ 1000) (hty : o.type = t)
    (hown : w.ownsRow B e k v n xs) (hB : B ≤ w.heap.size) (hr : w.rangeAt cb 0 u) (hu : u.length = k) (h1 : ∀ y ∈ u, y.oneCell' = true) (hn : n ≤ 1000000000) (hzk : z.cells.size = k) :
    ∃ v' w', (execOp a.eval o).run P w = .ok (.value v') w' ∧ (w'.ownsRow B e k v' (n + 1) (xs ++ u) ∧ w.grownBy w' v.ownBlock ∧ ∀ g, v'.ownBlock = some g → v.ownBlock = some g ∨ w.heap.size ≤ g) := by
  have hsrc : Src P k t (.slice (some ⟨cb, 0, none⟩) 1 1) 1 u w := Src.ofSlice _ ht ⟨cb, 0, none⟩ 1 1 _ (by simpa using hu) (fun j y hy => by have := hr j y hy; rw [Addr.add_mid]; exact this) h1
  obtain ⟨v', w', hrun, ho2, hg, hap⟩ := run_append_own_src2 (P := P) w B t t o.type e i _ k i.bytes ht hi hz hs rfl (by rw [hzk]) v n xs hown _ 1 u hsrc (by unfold maxLen; omega) (Nat.le_trans (Nat.mul_le_mul (show n + 1 ≤ 1000000001 by omega) hb) (by decide)) hB
  exact ⟨v', w', exec_append1 ho hv hx hrun, ho2, hg, fun g hg' => (hap g hg').imp id (fun e => by omega)⟩
theorem own_blk {w w' : World} {B k n : Nat} {t : TypeId} {v : Value} {xs : List Value} (h : w.ownsRow B t k v n xs) (hb : ∀ g, v.ownBlock = some g → w'.heap[g]? = w.heap[g]?) : w'.ownsRow B t k v n xs := by
 refine ⟨h.1, ?_⟩
 rcases h.2 with hn | ⟨g, cap, cur, rfl, hb1, hgg, rest⟩
 ·exact .inl hn
 ·refine .inr ⟨g, cap, cur, rfl, hb1, ?_, rest⟩
  rw [hb g rfl]
  exact hgg
theorem own_cellC {w : World} {B k n : Nat} {t : TypeId} {v : Value} {xs : List Value} (h : w.ownsRow B t k v n xs) : v.cells = #[v] ∧ v.oneCell' = true := by
 rcases h.2 with ⟨rfl, _⟩ | ⟨g, cap, cur, rfl, _⟩ <;> exact ⟨rfl, rfl⟩
structure OutC (w : World) (O : Nat) (v : Value) (cs : List Ev) : Prop where
 lt : O < w.heap.size
 c0 : w.cell? ⟨O, 0, none⟩ = some v
 th : w.there O 0 1
 own : w.ownsRow (O + 1) 69 18 v cs.length (cs.flatMap Ev.cells)
 ok : ∀ c ∈ cs, c.ok
theorem OutC.on {w w' : World} {O : Nat} {v : Value} {cs : List Ev} (h : OutC w O v cs) (hs : w.heap.size ≤ w'.heap.size) (hO : w'.heap[O]? = w.heap[O]?) (hv : ∀ g, v.ownBlock = some g → w'.heap[g]? = w.heap[g]?) : OutC w' O v cs :=
 ⟨Nat.lt_of_lt_of_le h.lt hs, (cell_block hO).1.trans h.c0, there_blk h.th hO, own_blk h.own hv, h.ok⟩
theorem OutC.below {w w' : World} {O : Nat} {v : Value} {cs : List Ev} (h : OutC w O v cs) (hb : Below w.heap.size w w') : OutC w' O v cs :=
 h.on hb.size (hb.block O h.lt) (fun g hg => hb.block g (h.own.lt g hg).2)
structure Grow (w w' : World) (O : Nat) (v v' : Value) : Prop where
 os : w'.os = w.os
 tape : w'.tape = w.tape
 output : w'.output = w.output
 size : w.heap.size ≤ w'.heap.size
 block : ∀ i, i < w.heap.size → i ≠ O → v.ownBlock ≠ some i → w'.heap[i]? = w.heap[i]?
 own : ∀ g, v'.ownBlock = some g → v.ownBlock = some g ∨ w.heap.size ≤ g
theorem Grow.refl (w : World) (O : Nat) (v : Value) : Grow w w O v v := ⟨rfl, rfl, rfl, Nat.le_refl _, fun _ _ _ _ => rfl, fun _ h => .inl h⟩
theorem Grow.of {w w' : World} (hb : Below w.heap.size w w') (O : Nat) (v : Value) : Grow w w' O v v := ⟨hb.os, hb.tape, hb.output, hb.size, fun i hi _ _ => hb.block i hi, fun _ h => .inl h⟩
theorem Grow.trans {a b c : World} {O : Nat} {v v' v'' : Value} (h : Grow a b O v v') (k : Grow b c O v' v'') : Grow a c O v v'' where
 os := k.os.trans h.os
 tape := k.tape.trans h.tape
 output := k.output.trans h.output
 size := Nat.le_trans h.size k.size
 block := fun i hi h1 h2 => (k.block i (Nat.lt_of_lt_of_le hi h.size) h1 (fun e => by
  rcases h.own i e with e | e
  ·exact h2 e
  ·omega)).trans (h.block i hi h1 h2)
 own := fun g hg => by
  rcases k.own g hg with e | e
  ·exact h.own g e
  ·exact .inr (Nat.le_trans h.size e)
def Clr (O : Nat) (v : Value) (b : Nat) : Prop := b ≠ O ∧ v.ownBlock ≠ some b
theorem Grow.keep {w w' : World} {O : Nat} {v v' : Value} (h : Grow w w' O v v') {b : Nat} (hb : b < w.heap.size) (hc : Clr O v b) : w'.heap[b]? = w.heap[b]? ∧ Clr O v' b := by
 refine ⟨h.block b hb hc.1 hc.2, hc.1, fun e => ?_⟩
 rcases h.own b e with e | e
 ·exact hc.2 e
 ·omega
theorem Grow.low {w w' : World} {O B : Nat} {v v' : Value} (h : Grow w w' O v v') (hO : B ≤ O) (hB : B ≤ w.heap.size) (hv : ∀ g, v.ownBlock = some g → O + 1 ≤ g) : Below B w w' :=
 ⟨h.os, h.tape, h.output, h.size, fun i hi => h.block i (by omega) (by omega) (fun e => by have := hv i e; omega)⟩
theorem Sl.At.grow {α : Type} {E : El α} {w w' : World} {O : Nat} {v v' : Value} {x : Sl α} (h : x.At E w) (k : Grow w w' O v v') (hb : x.Bk (Clr O v)) : x.At E w' :=
 h.on k.size hb (fun b hP hlt => k.block b hlt hP.1 hP.2)
theorem Sl.Bk.grow {α : Type} {E : El α} {w w' : World} {O : Nat} {v v' : Value} {x : Sl α} (h : x.At E w) (k : Grow w w' O v v') (hb : x.Bk (Clr O v)) : x.Bk (Clr O v') := fun b h1 h2 => by
 rcases h.2.2 with q | ⟨c, off, e, hlt, _⟩
 ·exact absurd q h1
 ·have hc := hb b h1 h2
  rw [e] at h2
  cases h2
  exact (k.keep hlt hc).2
set_option maxRecDepth 100000 in
set_option maxHeartbeats 1000000 in
theorem cadd_any (O : Nat) (v : Value) (cs : List Ev) (e : Ev) (w : World) (h : OutC w O v cs) (he : e.ok) (hn : cs.length ≤ 1000000000) :
  Calls Tryz.prog 52 #[.int .i64 e.n, .string e.s, .agg (v8 e.t).toArray, .pointer (some ⟨O, 0, none⟩)] w fun en w' => en = .returned (.tuple #[]) ∧ ∃ v', OutC w' O v' (cs ++ [e]) ∧ Grow w w' O v v' := by
 obtain ⟨i1, hi1, hiz, his, hib⟩ := info_parts infoCl
 have hzk : (Value.agg (infoCl0).toArray).cells.size = 18 := by decide
 have it16 : (Tryz.prog.info? 23).map (·.size) = some (v8 e.t).length := by rw [v8_length, he.tl]; exact iszT
 have hbc := fun w0 => build_cl e.n e.s (v8 e.t) (by rw [v8_length, he.tl]) w0
 obtain ⟨B1, r1, s1⟩ := boxed_new w (v8 e.t) 23
 have h1 := h.below B1
 have hul : e.cells.length = 18 := EvE.len e he
 have hone : ∀ y ∈ e.cells, y.oneCell' = true := EvE.one e
 have hflat : (cs ++ [e]).flatMap Ev.cells = cs.flatMap Ev.cells ++ e.cells := by simp
 have hok : ∀ c ∈ cs ++ [e], c.ok := fun c hc => by
  rcases List.mem_append.1 hc with hc | hc
  ·exact h.ok c hc
  ·rw [List.mem_singleton.1 hc]; exact he
 have hlen : (cs ++ [e]).length = cs.length + 1 := by simp
 obtain ⟨u, hu⟩ : ∃ u, Hid (e.cells = u) := ⟨_, hide rfl⟩
 have hbc : ∀ w0, (Instr.build 69 #[(0, .int .i64 e.n), (1, .string e.s), (2, .agg (v8 e.t).toArray)]).run Tryz.prog w0 = .ok (.agg u.toArray) w0 := fun w0 => by rw [← hu.out]; exact hbc w0
 rw [hu.out] at hul hone hflat
 obtain ⟨tg, htg⟩ : ∃ t, v8 e.t = t := ⟨_, rfl⟩
 rw [htg] at it16 B1 r1 s1 h1
 simp only [htg] at hbc ⊢
 clear htg
 obtain ⟨id, hid⟩ : ∃ x, e.n = x := ⟨_, rfl⟩
 obtain ⟨bd, hbd⟩ : ∃ x, e.s = x := ⟨_, rfl⟩
 simp only [hid, hbd] at hbc ⊢
 clear hid hbd
 go_enter Tryz.func52, Tryz.ntmps52
 go_upto_region 1 with fail
 obtain ⟨W, hW⟩ : ∃ W, w.alloc (.cells tg.toArray 23) = W := ⟨_, rfl⟩
 rw [hW] at B1 r1 s1 h1 ⊢
 clear hW
 have B2 : Below W.heap.size W (W.alloc (.cells u.toArray 69)) := (Below.refl _ _).alloc (Nat.le_refl _) _
 have r2 : (W.alloc (.cells u.toArray 69)).rangeAt W.heap.size 0 u := by simpa using range_new W u.toArray 69
 have h2 := h1.below B2
 try simp only [Act.put]
 refine pl_begin ?_
 refine pl_t 7 (v) (by rfl) (pl_one rfl rfl h1.c0 Tryz.underlying64 rfl) rfl ?_
 simp only [nz]
 refine pl_t 8 (?_) (by rfl) ?_ rfl ?_
 rotate_left
 ·go_simp
  try with_reducible rfl
 simp only [nz]
 refine pl_t 9 (?_) (by rfl) ?_ rfl ?_
 rotate_left
 ·go_simp
  try with_reducible rfl
 simp only [nz]
 refine pl_t 10 (.agg tg.toArray) (by rfl) (ex_mid rfl rfl r1 Tryz.underlying23 rfl it16) rfl ?_
 simp only [nz]
 refine pl_t 11 (.agg u.toArray) (by rfl) (ex_build (parts := [(0, .tmp 8), (1, .tmp 9), (2, .tmp 10)]) (vs := [(0, .int .i64 id), (1, .string bd), (2, .agg tg.toArray)]) rfl (by first | with_reducible rfl | rfl | simp [Act.eval]) (hbc _)) rfl ?_
 simp only [nz]
 refine pl_run (d := some 12) (v := .slice (some ⟨W.heap.size, 0, none⟩) 1 1) (w' := W.alloc (.cells u.toArray 69)) (by rfl) (exec_bs1 rfl rfl (run_bs1 64 69 i1 _ u Tryz.underlying64 hi1 hiz (by rw [his, hul]) (by omega) (by omega) _)) rfl ?_
 simp only [nz]
 obtain ⟨W2, hW2⟩ : ∃ X, W.alloc (.cells u.toArray 69) = X := ⟨_, rfl⟩
 rw [hW2] at B2 r2 h2 ⊢
 clear hW2
 refine pl_runX (d := some 13) (by rfl) rfl (ex_app2 rfl rfl rfl Tryz.underlying64 hi1 hiz his (by rw [hib]; decide) rfl h2.own (by have := h2.lt; omega) r2 hul hone hn hzk) ?_
 rintro v6 w6 ⟨o6, g6, gb6⟩
 simp only [nz]
 have hv6 := own_cellC o6
 have hX : w6.heap[O]? = W2.heap[O]? := g6.block O h2.lt (fun q => by have := (h2.own.lt O q.symm).1; omega)
 have th6 := there_blk h2.th hX
 refine pl_store (w' := w6.setCells O 0 [v6]) (by rfl) (ex_put1 (n := 1) rfl rfl rfl th6 (by decide) iszCls hv6.1 hv6.2) rfl ?_
 refine pl_nil ?_
 have hoth : ∀ i, i ≠ O → (w6.setCells O 0 [v6]).heap[i]? = w6.heap[i]? := fun i hi => blk_sets hi
 have r7 : (w6.setCells O 0 [v6]).rangeAt O 0 [v6] := World.rangeAt_setCells_same w6 O 0 [v6] th6
 have HO : Hid (OutC (w6.setCells O 0 [v6]) O v6 (cs ++ [e])) := hide ⟨by rw [size_sets]; exact Nat.lt_of_lt_of_le h2.lt g6.size, by simpa using r7 0 _ rfl, World.there_setCells th6 _ _ _, by
  rw [hlen, hflat]
  exact own_blk o6 (fun g hg => hoth g (fun q => by have := (o6.lt g hg).1; omega)), hok⟩
 have HG : Hid (Grow w (w6.setCells O 0 [v6]) O v v6) := hide ⟨(gb_setsR w6 O [v6] 0).os.trans (g6.os.trans (B2.os.trans B1.os)), (gb_setsR w6 O [v6] 0).tape.trans (g6.tape.trans (B2.tape.trans B1.tape)), (gb_setsR w6 O [v6] 0).output.trans (g6.output.trans (B2.output.trans B1.output)), by rw [size_sets]; exact Nat.le_trans B1.size (Nat.le_trans B2.size g6.size), fun i hi h3 h4 => by
  rw [hoth i h3, g6.block i (Nat.lt_of_lt_of_le hi (Nat.le_trans B1.size B2.size)) (fun q => h4 q.symm), B2.block i (Nat.lt_of_lt_of_le hi B1.size), B1.block i hi], fun g hg => (gb6 g hg).imp (fun q => q) (fun q => Nat.le_trans (Nat.le_trans B1.size B2.size) q)⟩
 clear r7 hoth th6 hX hv6 gb6 g6 o6 r2 h2 B2 h1 r1 B1 h hbc
 go_wp2_with fail
 go_end0
 exact ⟨rfl, v6, HO.out, HG.out⟩
theorem infoB : (Tryz.prog.info? 5).map (fun i => (i.zero, i.size, i.bytes)) = some (some (.int .u8 0), 1, 1) := by kernel_rfl
theorem ex_mkB {o : Oper} {a : Act} {w : World} {x : Operand} {B : Nat} {c : Int} (ho : o.op = .makeSlice 59 (.const (.int .i64 0)) x) (hx : a.eval x = .int .i64 c) (h0 : 0 ≤ c) (hc : c ≤ 1000000000) (hB : B ≤ w.heap.size) :
  ∃ v w', (execOp a.eval o).run Tryz.prog w = .ok (.value v) w' ∧ (Mine w' B v [] ∧ Below B w w') := by
 obtain ⟨i, hi, hz, hs, hb⟩ := info_parts infoB
 obtain ⟨n, rfl⟩ : ∃ n : Nat, c = (n : Int) := ⟨c.toNat, by omega⟩
 obtain ⟨w', h1, h2, h3⟩ := run_make_own (P := Tryz.prog) (w := w) B 59 5 i _ 1 Tryz.underlying59 hi hz hs .i64 .i64 n (by rw [hb]; omega) (by unfold maxLen; omega) hB
 refine ⟨_, w', ?_, Mine.mk' [] h2 rfl rfl (fun z hz => absurd hz List.not_mem_nil), (Below.refl _ _).grown h3 hB (fun k hk => by cases hk)⟩
 unfold execOp
 have h4 : a.eval (.const (.int .i64 0)) = .int .i64 0 := rfl
 simp only [ho, hx, h4, Sem.run_bind, h1, Result.andThen_ok, Sem.run_pure]
theorem ex_appM {o : Oper} {a : Act} {w : World} {s x : Operand} {v : Value} {B : Nat} {zs ys : List Int} {b : Option Addr} {cap : Nat} (ho : o.op = .call { callee := .builtin .append, args := #[s, x], argTypes := #[59, 59] }) (hv : a.eval s = v) (hx : a.eval x = .slice b ys.length cap) (hty : o.type = 59)
    (hM : Mine w B v zs) (hr : RowAt w b ys) (hl : zs.length + ys.length ≤ 1000000000) (hB : B ≤ w.heap.size) :
    ∃ v' w', (execOp a.eval o).run Tryz.prog w = .ok (.value v') w' ∧ (Mine w' B v' (zs ++ ys) ∧ Below B w w') := by
  obtain ⟨i, hi, hz, hs, hb⟩ := info_parts infoB
  obtain ⟨v', w', hrun, hown, hgr⟩ := run_append_own_src (P := Tryz.prog) w B 59 59 59 5 i (.int .u8 0) 1 1 Tryz.underlying59 hi hz hs hb rfl v zs.length _ hM.1 (.slice b ys.length cap) ys.length (v8 ys) (hr.src cap) (by unfold maxLen; omega) (by omega) hB
  refine ⟨v', w', exec_append ho hv hx (by rw [hty]; exact hrun), Mine.mk' _ hown (by simp) (by simp [v8]) (fun z hz => ?_), own_low (Below.refl _ _) hB hM.1 hgr⟩
  rcases List.mem_append.1 hz with hz | hz
  · exact hM.2 z hz
  · exact hr.2.1 z hz
theorem evL_len {e : Ev} (h : e.ok) (hs : e.s.size ≤ 100000) : (putL e.n).length ≤ 9 ∧ (textL e.s).length ≤ 100009 ∧ (evL e).length ≤ 100034 := by
 have h1 := putL_len h.nh
 have h2 := @putL_len (e.s.size : Int) (by omega)
 have h3 := h.tl
 refine ⟨h1, ?_, ?_⟩
 ·unfold textL; simp only [List.length_append, strL_length]; omega
 ·unfold evL textL; simp only [List.length_append, strL_length]; omega
theorem row_part {w : World} {b o : Nat} {zs : List Int} (h : w.rangeAt b o (v8 zs)) (hb : b < w.heap.size) (hz : ∀ z ∈ zs, 0 ≤ z ∧ z < 256) (hl : zs.length ≤ maxLen) : RowAt w (some ⟨b, o, none⟩) zs := ⟨hl, hz, .inr ⟨b, o, rfl, hb, h⟩⟩
set_option maxRecDepth 100000 in
set_option maxHeartbeats 2000000 in
theorem eput_any (al : Option Addr) (cap : Nat) (bs : List Int) (e : Ev) (w : World) (h : RowAt w al bs) (hb : bs.length ≤ 100000) (he : e.ok) (hs : e.s.size ≤ 100000) :
  Calls Tryz.prog 17 #[.slice al bs.length cap, .agg e.cells.toArray] w fun en w' => ∃ v, en = .returned v ∧ Mine w' w.heap.size v (bs ++ evL e) ∧ Below w.heap.size w w' := by
 obtain ⟨q1, q2, q3⟩ := evL_len he hs
 have cp := fun w0 => put_any none 0 [] e.n w0 (nil_row w0) (by simp) he.nh
 simp only [List.nil_append, List.length_nil] at cp
 obtain ⟨B1, r1, sA⟩ := boxed_new w e.cells 25
 have c0 : (w.alloc (.cells e.cells.toArray 25)).cell? ⟨w.heap.size, 0, none⟩ = some (.int .i64 e.n) := by have := r1 0 _ rfl; rwa [Nat.zero_add] at this
 have c1 : (w.alloc (.cells e.cells.toArray 25)).cell? ⟨w.heap.size, 1, none⟩ = some (.string e.s) := by have := r1 1 _ rfl; rwa [Nat.zero_add] at this
 have ct : (w.alloc (.cells e.cells.toArray 25)).rangeAt w.heap.size 2 (v8 e.t) := fun j y hy => by
  have := r1 (j + 2) y hy
  rw [show 0 + (j + 2) = 2 + j by omega] at this
  exact this
 have hrow := h.below B1
 have HE : Hid (evL e = putL e.n ++ textL e.s ++ e.t) := hide (by unfold evL; rw [List.append_assoc])
 have htl := he.tl
 have htb := he.tb
 obtain ⟨en, hen⟩ : ∃ x, e.n = x := ⟨_, rfl⟩
 obtain ⟨es, hes⟩ : ∃ x, e.s = x := ⟨_, rfl⟩
 obtain ⟨et, het⟩ : ∃ x, e.t = x := ⟨_, rfl⟩
 rw [hen, hes, het] at HE
 rw [hen] at c0 q1
 rw [hes] at c1 q2 hs
 rw [het] at ct htl htb
 simp only [hen] at cp
 clear hen hes het r1 h
 obtain ⟨EL, hEL⟩ : ∃ l, Hid (evL e = l) := ⟨_, hide rfl⟩
 rw [hEL.out] at HE ⊢
 obtain ⟨q, hq⟩ : ∃ q, Hid (e.cells = q) := ⟨_, hide rfl⟩
 rw [hq.out] at B1 sA c0 c1 ct hrow ⊢
 clear hq hEL q3 he
 obtain ⟨z1, hz1⟩ : ∃ z, Hid (putL en = z) := ⟨_, hide rfl⟩
 obtain ⟨z2, hz2⟩ : ∃ z, Hid (textL es = z) := ⟨_, hide rfl⟩
 simp only [hz1.out] at cp q1 HE
 simp only [hz2.out] at q2 HE
 obtain ⟨zz, hzz⟩ : ∃ z, Hid (z1 ++ textL es = z) := ⟨_, hide rfl⟩
 have hzl : zz.length ≤ 100018 := by rw [← hzz.out, hz2.out, List.length_append]; omega
 obtain ⟨bl, hbl⟩ : ∃ n, bs.length = n := ⟨_, rfl⟩
 go_enter Tryz.func17, Tryz.ntmps17
 go_upto_region 1 with fail
 have hdr : Below (w.alloc (.cells q.toArray 25)).heap.size (w.alloc (.cells q.toArray 25)) (w.alloc (.cells q.toArray 25)).drew := (Below.refl _ _).drew
 have B1 := B1.trans (hdr.mono B1.size)
 have c0 := (hdr.cell (p := ⟨w.heap.size, 0, none⟩) sA).trans c0
 have c1 := (hdr.cell (p := ⟨w.heap.size, 1, none⟩) sA).trans c1
 have ct := range_below ct hdr sA
 have hrow := hrow.below hdr
 have sA := Nat.lt_of_lt_of_le sA hdr.size
 refine hs_begin (S := (Below (w.alloc (.cells q.toArray 25)).drew.heap.size (w.alloc (.cells q.toArray 25)).drew)) 7 rfl (by kernel_rfl) ?_
 obtain ⟨w8, hw8⟩ : ∃ W, (w.alloc (.cells q.toArray 25)).drew = W := ⟨_, rfl⟩
 rw [hw8] at B1 c0 c1 ct hrow sA ⊢
 clear hdr hw8
 obtain ⟨A, hA⟩ : ∃ A, w.heap.size = A := ⟨_, rfl⟩
 rw [hA] at c0 c1 ct sA
 have B1' := hide B1
 have HAA := hide hA
 simp only [hA]
 rw [hA] at B1
 clear hA B1
 have hS : (Below w8.heap.size w8) w8 := Below.refl _ _
 refine hs_t 0 7 (?_) rfl (by kernel_rfl) (by kernel_rfl) (by kernel_rfl) (by rfl) ?_ hS rfl ?_
 rotate_left
 ·intro w' hw
  go_simp
  try with_reducible rfl
 simp only [nz]
 refine hs_t 1 8 (.int .i64 en) rfl (by kernel_rfl) (by kernel_rfl) (by kernel_rfl) (by rfl) (fun w' hw => pl_one rfl rfl ((hw.cell (p := ⟨A, 0, none⟩) sA).trans c0) Tryz.underlying3 rfl) hS rfl ?_
 simp only [nz]
 refine hs_t 3 10 (?_) rfl (by kernel_rfl) (by kernel_rfl) (by kernel_rfl) (by rfl) ?_ hS rfl ?_
 rotate_left
 ·intro w' hw
  go_simp
  try with_reducible rfl
 simp only [nz]
 refine hs_t 4 11 (.string es) rfl (by kernel_rfl) (by kernel_rfl) (by kernel_rfl) (by rfl) (fun w' hw => pl_one rfl rfl ((hw.cell (p := ⟨A, 1, none⟩) sA).trans c1) Tryz.underlying9 rfl) hS rfl ?_
 simp only [nz]
 refine hs_call (i := 2) (d := some 9) rfl (by kernel_rfl) (by rfl) (by go_simp; first | done | exact ⟨rfl, rfl⟩ | with_reducible rfl) rfl ?_
 refine (cp w8).mono ?_
 rintro _ w9 ⟨v9, rfl, m9, hb9⟩
 have hS : (Below w8.heap.size w8) w9 := hS.trans (hb9.mono hS.size)
 obtain ⟨a9, cap9, rfl, -, -, row9⟩ := m9.rowAt (by unfold maxLen; omega)
 refine ⟨_, rfl, hS, ?_⟩
 simp only [nz]
 refine hs_call (i := 5) (d := some 12) rfl (by kernel_rfl) (by rfl) (by go_simp; first | done | exact ⟨rfl, rfl⟩ | with_reducible rfl) rfl ?_
 refine (putText_any a9 cap9 _ es w9 row9 (by omega) (by omega)).mono ?_
 rintro _ wa ⟨va, rfl, ma, hba⟩
 have ma : Mine wa w9.heap.size va zz := by rw [← hzz.out]; exact ma
 have hS : (Below w8.heap.size w8) wa := hS.trans (hba.mono hS.size)
 obtain ⟨aa, capa, rfl, -, -, rowa⟩ := ma.rowAt (by unfold maxLen; omega)
 refine ⟨_, rfl, hS, ?_⟩
 simp only [nz]
 refine hs_t 6 5 (?_) rfl (by kernel_rfl) (by kernel_rfl) (by kernel_rfl) (by rfl) ?_ hS rfl ?_
 rotate_left
 ·intro w' hw
  go_simp
  try with_reducible rfl
 simp only [nz]
 refine hs_done (by kernel_rfl) ?_
 obtain ⟨ol, hol⟩ : ∃ n, zz.length = n := ⟨_, rfl⟩
 have holb : ol ≤ 100018 := by omega
 have hrow := hrow.below hS
 have ct := range_below ct hS sA
 have sA := Nat.lt_of_lt_of_le sA hS.size
 have HB0 := hide (B1'.out.trans (hS.mono B1'.out.size))
 have rowt := row_part ct sA htb (by rw [htl]; unfold maxLen; decide)
 have HR := hide hrow
 have HO := hide rowa
 have HT := hide rowt
 have hb' : bl ≤ 100000 := by rw [← hbl]; exact hb
 have HBL := hide hbl
 have HOL := hide hol
 simp only [hbl, hol]
 have hw1 : IntKind.i64.wrap ((bl : Int) + (ol : Int)) = (bl : Int) + (ol : Int) := by rw [IntKind.wrap_i64]; omega
 have hw2 : IntKind.i64.wrap ((bl : Int) + (ol : Int) + 16) = (bl : Int) + (ol : Int) + 16 := by rw [IntKind.wrap_i64]; omega
 clear hS hb9 hba m9 row9 ma rowa hrow rowt ct cp c0 c1 hbl hol B1'
 go_upto_region 2 with fail
 try simp only [Act.put]
 refine pl_begin ?_
 refine pl_t 13 (?_) (by rfl) ?_ rfl ?_
 rotate_left
 ·go_simp
  try with_reducible rfl
 simp only [nz]
 refine pl_t 14 (?_) (by rfl) ?_ rfl ?_
 rotate_left
 ·go_simp
  try with_reducible rfl
 simp only [nz]
 refine pl_t 15 (?_) (by rfl) ?_ rfl ?_
 rotate_left
 ·go_simp
  try with_reducible rfl
 simp only [nz]
 refine pl_t 16 (?_) (by rfl) ?_ rfl ?_
 rotate_left
 ·go_simp
  try with_reducible rfl
 simp only [nz]
 refine pl_t 17 (.int .i64 ((bl : Int) + (ol : Int))) (by rfl) (by go_simp <;> (try simp [hw1])) rfl ?_
 simp only [nz]
 refine pl_t 18 (.int .i64 ((bl : Int) + (ol : Int) + 16)) (by rfl) (by go_simp <;> (try simp [hw2])) rfl ?_
 simp only [nz]
 refine pl_runX (d := some 19) (by rfl) rfl (ex_mkB (B := wa.heap.size) rfl rfl (by omega) (by omega) (Nat.le_refl _)) ?_
 rintro v1 w1 ⟨m1, hb1⟩
 simp only [nz]
 refine pl_t 6 (?_) (by rfl) ?_ rfl ?_
 rotate_left
 ·go_simp
  try with_reducible rfl
 simp only [nz]
 refine pl_nil ?_
 have r1 : RowAt w1 al bs := HR.out.below hb1
 go_upto_region 3 with fail
 have e1 : Value.slice al bl cap = .slice al bs.length cap := by rw [HBL.out]
 rw [e1]
 try simp only [Act.put]
 refine pl_begin ?_
 refine pl_t 20 (?_) (by rfl) ?_ rfl ?_
 rotate_left
 ·go_simp
  try with_reducible rfl
 simp only [nz]
 refine pl_t 21 (?_) (by rfl) ?_ rfl ?_
 rotate_left
 ·go_simp
  try with_reducible rfl
 simp only [nz]
 refine pl_runX (d := some 22) (by rfl) rfl (ex_appM rfl rfl rfl rfl m1 r1 (by simp only [List.length_nil]; omega) hb1.size) ?_
 rintro v2 w2 ⟨m2, hb2⟩
 simp only [nz]
 refine pl_t 6 (?_) (by rfl) ?_ rfl ?_
 rotate_left
 ·go_simp
  try with_reducible rfl
 simp only [nz]
 refine pl_nil ?_
 have hb2 := hb1.trans hb2
 have r2 : RowAt w2 aa zz := HO.out.below hb2
 have e2 : Value.slice aa ol capa = .slice aa zz.length capa := by rw [HOL.out]
 try rw [e2]
 clear e1 r1 m1 hb1
 go_upto_region 4 with fail
 try simp only [Act.put]
 refine pl_begin ?_
 refine pl_t 23 (?_) (by rfl) ?_ rfl ?_
 rotate_left
 ·go_simp
  try with_reducible rfl
 simp only [nz]
 refine pl_t 24 (?_) (by rfl) ?_ rfl ?_
 rotate_left
 ·go_simp
  try with_reducible rfl
 simp only [nz]
 refine pl_runX (d := some 25) (by rfl) rfl (ex_appM rfl rfl rfl rfl m2 r2 (by rw [HOL.out, List.nil_append, HBL.out]; omega) hb2.size) ?_
 rintro v3 w3 ⟨m3, hb3⟩
 simp only [nz]
 refine pl_t 6 (?_) (by rfl) ?_ rfl ?_
 rotate_left
 ·go_simp
  try with_reducible rfl
 simp only [nz]
 refine pl_nil ?_
 have hb3 := hb2.trans hb3
 have r3 : RowAt w3 (some ⟨A, 2, none⟩) et := HT.out.below hb3
 have e3 : Value.slice (some ⟨A, 2, none⟩) 16 16 = .slice (some ⟨A, 2, none⟩) et.length 16 := by rw [htl]
 clear r2 m2 hb2
 go_upto_region 5 with fail
 try simp only [Act.put]
 refine pl_begin ?_
 refine pl_t 26 (?_) (by rfl) ?_ rfl ?_
 rotate_left
 ·go_simp
  try with_reducible rfl
 simp only [nz]
 refine pl_t 27 (?_) (by rfl) ?_ rfl ?_
 rotate_left
 ·go_simp
  try with_reducible rfl
 simp only [nz]
 refine pl_t 28 (.slice (some ⟨A, 2, none⟩) 16 16) (by rfl) (by go_simp; first | done | with_reducible rfl) rfl ?_
 simp only [nz]
 rw [e3]
 refine pl_runX (d := some 29) (by rfl) rfl (ex_appM rfl rfl rfl rfl m3 r3 (by rw [List.length_append, List.length_append, HOL.out, List.length_nil, HBL.out, htl]; omega) hb3.size) ?_
 rintro v4 w4 ⟨m4, hb4⟩
 simp only [nz]
 refine pl_t 4 (?_) (by rfl) ?_ rfl ?_
 rotate_left
 ·go_simp
  try with_reducible rfl
 simp only [nz]
 refine pl_nil ?_
 have hb4 := hb3.trans hb4
 have HM : Hid (Mine w4 w.heap.size v4 (bs ++ EL)) := hide (by
  have e : [] ++ bs ++ zz ++ et = bs ++ EL := by rw [HE.out, List.nil_append, ← hzz.out, hz2.out, List.append_assoc]
  rw [e] at m4
  exact m4.mono' HB0.out.size)
 have HB := hide (HB0.out.trans (hb4.mono HB0.out.size))
 clear m4 hb4 hb3 m3 r3 e3
 go_wp2_with fail
 go_ret
 exact ⟨_, rfl, HM.out, by first | exact HB.out | (rw [← HAA.out]; exact HB.out)⟩
theorem ex_conv {o : Oper} {a : Act} {w w' : World} {x : Operand} {s d : TypeId} {u v : Value} (ho : o.op = .convert s d x) (hx : a.eval x = u) (hc : (convert s d u).run Tryz.prog w = .ok v w') : (execOp a.eval o).run Tryz.prog w = .ok (.value v) w' := by
 unfold execOp
 simp [ho, hx, hc]
def evZ : Ev := ⟨0, ⟨#[]⟩, List.replicate 16 0⟩
def getE (zs : List Int) : Ev × Int := if doneE (evS zs 0).2.1 (evS zs 0).2.2 = 0 then ((evS zs 0).1, 0) else (evZ, doneE (evS zs 0).2.1 (evS zs 0).2.2)
theorem evZ_ok : evZ.ok := ⟨rfl, fun z hz => by have := List.eq_of_mem_replicate hz; omega, by decide, by decide, by decide⟩
theorem evS_ok {zs : List Int} (h : Bs zs) : (evS zs 0).1.ok := enS_ok (zs, 0, false) (fun _ => h)
theorem copy_padO {w : World} {B o n : Nat} {a : Option Addr} {cap : Nat} {t : List Int} (h0 : 0 < n) (hT : w.there B o n) (hz : w.rangeAt B o (v8 (List.replicate n (0 : Int)))) (hrow : RowAt w a t) (ht : t.length = n ∨ t = []) :
  ∃ w', (Builtin.copy_ #[59, 59] 3 #[.slice (some ⟨B, o, none⟩) n n, .slice a t.length cap]).run Tryz.prog w = .ok (goInt t.length) w' ∧ w'.rangeAt B o (v8 (padN n t)) ∧ w' = w.setCells B o (v8 t) := by
 rcases ht with ht | rfl
 ·rcases hrow.2.2 with rfl | ⟨b, off, rfl, hb, hr⟩
  ·exfalso; simp at ht; omega
  ·refine ⟨_, ?_, ?_, rfl⟩
   ·have := run_copy_cells (P := Tryz.prog) w 59 59 3 5 B o n n ⟨b, off, none⟩ t.length cap (v8 t) Tryz.underlying59 isz8 (by rw [v8_length, ht]; exact (Nat.min_self _).symm) (fun j v hv => by rw [Addr.add_mid]; exact hr j v hv) (fun j hj => by rw [v8_length] at hj; exact (hT j (by omega)).1) (fun j hj => by rw [v8_length] at hj; exact (hT j (by omega)).2) (v8_one _)
    rw [v8_length] at this
    exact this
   ·unfold padN
    rw [if_pos ht]
    exact World.rangeAt_setCells_same w B o (v8 t) (by rw [v8_length, ht]; exact hT)
 ·refine ⟨w, run_copy_none (P := Tryz.prog) w 59 59 3 5 _ a n n 0 cap Tryz.underlying59 isz8 (by simp), ?_, rfl⟩
  unfold padN
  rw [if_neg (by simp; omega)]
  exact hz
theorem build_e0 (w : World) : (Instr.build 25 #[]).run Tryz.prog w = .ok (.agg evZ.cells.toArray) w := by kernel_rfl
theorem zero_e0 (w : World) : (zeroValue 25).run Tryz.prog w = .ok (.agg evZ.cells.toArray) w := by kernel_rfl
theorem evZ_cells : evZ.cells = .int .i64 0 :: .string ⟨#[]⟩ :: v8 (List.replicate 16 (0 : Int)) := rfl
theorem there_partO {w : World} {b n o m : Nat} (h : w.there b 0 n) (hm : o + m ≤ n) : w.there b o m := fun j hj => by
 have := h (o + j) (by omega)
 rwa [Nat.zero_add] at this
theorem isz18 : (Tryz.prog.info? 25).map (·.size) = some 18 := by kernel_rfl
theorem iszS9 : (Tryz.prog.info? 9).map (·.size) = some 1 := by kernel_rfl
theorem low_gb {w a b : World} {R B : Nat} (h : Below B w a) (hg : a.grownBy b (some R)) (hB : B ≤ a.heap.size) (hR : B ≤ R) : Below B w b := h.grown hg hB (fun k hk => by injection hk with hk; omega)
set_option maxRecDepth 100000 in
set_option maxHeartbeats 2000000 in
theorem eget_any (sb : ByteArray) (hs : sb.size ≤ 40000) (w : World) : Calls Tryz.prog 15 #[.string sb] w fun en w' => en = .returned (.tuple #[.agg (getE (strL sb)).1.cells.toArray, .int .i64 (getE (strL sb)).2]) ∧ Below w.heap.size w w' := by
 obtain ⟨zc, hzc, hzl, hz1, hzr, hb0⟩ : ∃ z : List Value, Hid (z = evZ.cells) ∧ z.length = 18 ∧ (∀ v ∈ z, v.oneCell' = true) ∧ (∀ w : World, (zeroValue 25).run Tryz.prog w = .ok (.agg z.toArray) w) ∧ ∀ w : World, (Instr.build 25 #[]).run Tryz.prog w = .ok (.agg z.toArray) w := ⟨_, hide rfl, rfl, EvE.one evZ, zero_e0, build_e0⟩
 have hiz : (Tryz.prog.info? 25).map (·.size) = some zc.length := by rw [hzl]; exact isz18
 obtain ⟨cap, hcv⟩ : ∃ cap : World → Nat, ∀ w0, ∃ w1, (convert 9 59 (.string sb)).run Tryz.prog w0 = .ok (.slice (some ⟨w0.heap.size, 0, none⟩) (strL sb).length (cap w0)) w1 ∧ RowAt w1 (some ⟨w0.heap.size, 0, none⟩) (strL sb) ∧ Below w0.heap.size w0 w1 := ⟨fun w0 => (bytes_of sb (by omega) w0).choose, fun w0 => (bytes_of sb (by omega) w0).choose_spec⟩
 have hll : (strL sb).length ≤ 40000 := by rw [strL_length]; exact hs
 have hbz : Bs (strL sb) := strL_byte sb
 obtain ⟨zs, hzs⟩ : ∃ z, Hid (strL sb = z) := ⟨_, hide rfl⟩
 simp only [hzs.out] at hcv
 rw [hzs.out] at hll hbz ⊢
 have HBZ := hide hbz
 clear hbz
 obtain ⟨hB1, hr1, hs1⟩ := boxed_new w zc 25
 have ht1 := there_newN w zc.toArray 25 (n := 18) (by simp [hzl])
 have HG : Hid (∀ r, rawS (textS (numS zs 0 64).2.1 (numS zs 0 64).2.2 4194304).2.1 (textS (numS zs 0 64).2.1 (numS zs 0 64).2.2 4194304).2.2 16 = r → evS zs 0 = (⟨(numS zs 0 64).1, strOf (textS (numS zs 0 64).2.1 (numS zs 0 64).2.2 4194304).1, padN 16 r.1⟩, r.2.1, r.2.2)) := hide (fun r hr => by subst hr; rfl)
 obtain ⟨G, hG⟩ : ∃ G, Hid (getE zs = G) := ⟨_, hide rfl⟩
 rw [hG.out]
 go_enter Tryz.func15, Tryz.ntmps15
 go_upto_region 0 with fail
 try simp only [Act.put]
 refine pl_begin ?_
 refine pl_run (d := some 2) (v := .pointer (some ⟨w.heap.size, 0, none⟩)) (w' := w.alloc (.cells zc.toArray 25)) (by rfl) (ex_alloc rfl (hzr _)) rfl ?_
 simp only [nz]
 refine pl_t 3 (?_) (by rfl) ?_ rfl ?_
 rotate_left
 ·go_simp
  try with_reducible rfl
 simp only [nz]
 refine pl_nil ?_
 obtain ⟨W1, hW1⟩ : ∃ W, w.alloc (.cells zc.toArray 25) = W := ⟨_, rfl⟩
 rw [hW1] at hB1 hr1 hs1 ht1 ⊢
 clear hW1 hr1
 obtain ⟨W2, hcv1, row2, hb2⟩ := hcv W1
 go_upto_region 1 with fail
 try simp only [Act.put]
 refine pl_begin ?_
 refine pl_t 7 (?_) (by rfl) ?_ rfl ?_
 rotate_left
 ·go_simp
  try with_reducible rfl
 simp only [nz]
 refine pl_run (d := some 8) (v := .slice (some ⟨W1.heap.size, 0, none⟩) zs.length (cap W1)) (w' := W2) (by rfl) (ex_conv rfl rfl hcv1) rfl ?_
 simp only [nz]
 refine pl_call (d := some 9) (by rfl) (by go_simp; first | done | exact ⟨rfl, rfl⟩ | with_reducible rfl) rfl ?_
 refine (read_any _ (cap W1) zs W2 row2 (by omega)).mono ?_
 rintro _ W3 ⟨R, rfl, hRw, S0, hb3⟩
 refine ⟨_, rfl, ?_⟩
 simp only [nz]
 refine pl_t 4 (?_) (by rfl) ?_ rfl ?_
 rotate_left
 ·go_simp
  try with_reducible rfl
 simp only [nz]
 refine pl_nil ?_
 have z2 := hb2.size
 have z3 := hb3.size
 have hB3 := hB1.trans ((hb2.trans (hb3.mono z2)).mono hB1.size)
 have tT3 := there_below (there_below ht1 hb2 hs1) hb3 (by omega)
 obtain ⟨hB4, rA, sA⟩ := boxed_new W3 zc 25
 have tA := there_newN W3 zc.toArray 25 (n := 18) (by simp [hzl])
 go_upto_region 2 with fail
 try simp only [Act.put]
 refine pl_begin ?_
 refine pl_run (d := some 5) (v := .pointer (some ⟨W3.heap.size, 0, none⟩)) (w' := W3.alloc (.cells zc.toArray 25)) (by rfl) (ex_alloc rfl (hzr _)) rfl ?_
 simp only [nz]
 refine pl_nil ?_
 have S3 := S0.below hB4
 have hRlt := S0.1.1
 have B3' := hB3.trans (hB4.mono hB3.size)
 have tT := there_below tT3 hB4 (by omega)
 obtain ⟨w3, hw3⟩ : ∃ W, W3.alloc (.cells zc.toArray 25) = W := ⟨_, rfl⟩
 rw [hw3] at rA sA tA S3 B3' tT ⊢
 clear hw3
 obtain ⟨A, hA⟩ : ∃ A, W3.heap.size = A := ⟨_, rfl⟩
 rw [hA] at rA sA tA hRlt
 simp only [hA]
 have hAR : A ≠ R := by omega
 have hTA : w.heap.size < A := by omega
 have hTR : w.heap.size < R := by omega
 have sT : w.heap.size < w3.heap.size := by omega
 rw [hzc.out, evZ_cells] at rA
 clear hA hB3 hB1 hb2 hb3 z2 z3 hs1 ht1 tT3 S0 hB4 row2 hcv1 hcv hRw hzr
 have hp5' := numS_bd (most := 64) (rest := zs) (e := 0) (fun _ => HBZ.out) (by omega)
 have hb5' := numS_bz (most := 64) (rest := zs) (e := 0) (fun _ => HBZ.out)
 have hln5 := numS_len zs 0 64
 obtain ⟨⟨x1, y1, z1⟩, hn1⟩ : ∃ p, Hid (numS zs 0 64 = p) := ⟨_, hide rfl⟩
 go_upto_region 3 with fail
 try simp only [Act.put]
 refine pl_begin ?_
 refine pl_t 10 (?_) (by rfl) ?_ rfl ?_
 rotate_left
 ·go_simp
  try with_reducible rfl
 simp only [nz]
 refine pl_call (d := some 11) (by rfl) (by go_simp; first | done | exact ⟨rfl, rfl⟩ | with_reducible rfl) rfl ?_
 refine (num_any R zs 0 64 w3 S3).mono ?_
 rintro _ w4 ⟨hh, S4, g4⟩
 rw [hn1.out] at hh S4
 subst hh
 refine ⟨_, rfl, ?_⟩
 simp only [nz]
 refine pl_t 12 (.pointer (some ⟨A, 0, none⟩)) (by rfl) (by go_simp <;> (try simp [*])) rfl ?_
 simp only [nz]
 refine pl_store (w' := w4.setCells A 0 [.int .i64 x1]) (by rfl) (ex_put1 (n := 18) rfl rfl rfl (there_gbR tA g4 sA hAR) (by decide) iszI rfl rfl) rfl ?_
 refine pl_nil ?_
 have rA4 := range_gbR rA g4 sA hAR
 have tA4 := there_gbR tA g4 sA hAR
 have rA5 := range_set rA4 0 (.int .i64 x1)
 have B4 := low_gb B3' g4 (by omega) (by omega)
 have tT4 := there_gbR tT g4 (by omega) (by omega)
 have z4 := g4.size
 have hb5 : Below A w4 (w4.setCells A 0 [.int .i64 x1]) := below_sets (Nat.le_refl _) _ _ _ (Below.refl _ _)
 have S5 := S4.belowN hb5 hRlt
 have tA5 : (w4.setCells A 0 [.int .i64 x1]).there A 0 18 := World.there_setCells tA4 _ _ _
 have B5 := B4.trans (hb5.mono (by omega))
 have tT5 := there_below tT4 hb5 (by omega)
 have sA5 : A < (w4.setCells A 0 [.int .i64 x1]).heap.size := by rw [size_sets]; omega
 have rA5 : (w4.setCells A 0 [.int .i64 x1]).rangeAt A 0 (.int .i64 x1 :: .string ⟨#[]⟩ :: v8 (List.replicate 16 (0 : Int))) := rA5
 obtain ⟨w5, hw5⟩ : ∃ W, w4.setCells A 0 [.int .i64 x1] = W := ⟨_, rfl⟩
 rw [hw5] at rA5 tA5 S5 B5 tT5 sA5 ⊢
 clear hw5 rA rA4 tA tA4 S4 S3 g4 B3' B4 tT tT4 sA sT z4 hb5
 rw [hn1.out] at hp5' hb5' hln5
 have hp5 : 0 ≤ (numS y1 z1 9223372036854775807).1 := (numS_bd (most := 9223372036854775807) (rest := y1) (e := z1) hb5' (by omega)).1
 have hln6 := textS_len y1 z1 4194304
 obtain ⟨⟨x2, y2, z2⟩, hn2⟩ : ∃ p, Hid (textS y1 z1 4194304 = p) := ⟨_, hide rfl⟩
 obtain ⟨s1, hs1⟩ : ∃ s, Hid (strOf x2 = s) := ⟨_, hide rfl⟩
 go_upto_region 4 with fail
 try simp only [Act.put]
 refine pl_begin ?_
 refine pl_t 13 (?_) (by rfl) ?_ rfl ?_
 rotate_left
 ·go_simp
  try with_reducible rfl
 simp only [nz]
 refine pl_call (d := some 14) (by rfl) (by go_simp; first | done | exact ⟨rfl, rfl⟩ | with_reducible rfl) rfl ?_
 refine (text_any R y1 z1 4194304 w5 S5 hp5).mono ?_
 rintro _ w6 ⟨hh, S6, g6⟩
 rw [hn2.out] at hh S6
 rw [show strOf ((x2, y2, z2) : List Int × List Int × Int).1 = s1 from hs1.out] at hh
 subst hh
 refine ⟨_, rfl, ?_⟩
 simp only [nz]
 refine pl_t 15 (.pointer (some ⟨A, 1, none⟩)) (by rfl) (by go_simp <;> (try simp [*])) rfl ?_
 simp only [nz]
 refine pl_store (w' := w6.setCells A 1 [.string s1]) (by rfl) (ex_put1 (n := 18) rfl rfl rfl (there_gbR tA5 g6 sA5 hAR) (by decide) iszS9 rfl rfl) rfl ?_
 refine pl_nil ?_
 have rA6 := range_gbR rA5 g6 sA5 hAR
 have tA6 := there_gbR tA5 g6 sA5 hAR
 have rA7 := range_set rA6 1 (.string s1)
 have B6 := low_gb B5 g6 (by omega) (by omega)
 have tT6 := there_gbR tT5 g6 (by omega) (by omega)
 have z6 := g6.size
 have hb7 : Below A w6 (w6.setCells A 1 [.string s1]) := below_sets (Nat.le_refl _) _ _ _ (Below.refl _ _)
 have S7 := S6.belowN hb7 hRlt
 have tA7 : (w6.setCells A 1 [.string s1]).there A 0 18 := World.there_setCells tA6 _ _ _
 have B7 := B6.trans (hb7.mono (by omega))
 have tT7 := there_below tT6 hb7 (by omega)
 have sA7 : A < (w6.setCells A 1 [.string s1]).heap.size := by rw [size_sets]; omega
 have rA7 : (w6.setCells A 1 [.string s1]).rangeAt A 0 (.int .i64 x1 :: .string s1 :: v8 (List.replicate 16 (0 : Int))) := rA7
 obtain ⟨w7, hw7⟩ : ∃ W, w6.setCells A 1 [.string s1] = W := ⟨_, rfl⟩
 rw [hw7] at rA7 tA7 S7 B7 tT7 sA7 ⊢
 clear hw7 rA5 rA6 tA5 tA6 S5 S6 g6 B5 B6 tT5 tT6 sA5 z6 hb7
 go_upto_region 5 with fail
 have hdr : Below w7.heap.size w7 w7.drew := (Below.refl _ _).drew
 have rA8 := range_below rA7 hdr sA7
 have tA8 := there_below tA7 hdr sA7
 have S8 := S7.below hdr
 have B8 := B7.trans (hdr.mono B7.size)
 have tT8 := there_below tT7 hdr (by omega)
 have sA8 := Nat.lt_of_lt_of_le sA7 hdr.size
 refine hs_begin (S := fun _ : World => True) 5 rfl (by kernel_rfl) ?_
 obtain ⟨w8, hw8⟩ : ∃ W, w7.drew = W := ⟨_, rfl⟩
 rw [hw8] at rA8 tA8 S8 B8 tT8 sA8 ⊢
 clear hw8 hdr rA7 tA7 S7 B7 tT7 sA7
 have hS : (fun _ : World => True) w8 := trivial
 rw [hn2.out] at hln6
 have hl8 : y2.length ≤ 40000 := by simp only at hln5 hln6; omega
 obtain ⟨⟨r1, y3, z3⟩, hrw⟩ : ∃ p, Hid (rawS y2 z2 16 = p) := ⟨_, hide rfl⟩
 refine hs_t 0 16 (.pointer (some ⟨A, 2, none⟩)) rfl (by kernel_rfl) (by kernel_rfl) (by kernel_rfl) (by rfl) (fun w' hw => by go_simp <;> (try simp [*])) hS rfl ?_
 simp only [nz]
 refine hs_t 1 17 (.slice (some ⟨A, 2, none⟩) 16 16) rfl (by kernel_rfl) (by kernel_rfl) (by kernel_rfl) (by rfl) (fun w' hw => by go_simp; first | done | with_reducible rfl) hS rfl ?_
 simp only [nz]
 refine hs_t 2 18 (?_) rfl (by kernel_rfl) (by kernel_rfl) (by kernel_rfl) (by rfl) ?_ hS rfl ?_
 rotate_left
 ·intro w' hw
  go_simp
  try with_reducible rfl
 simp only [nz]
 refine hs_call (i := 3) (d := some 19) rfl (by kernel_rfl) (by rfl) (by go_simp; first | done | exact ⟨rfl, rfl⟩ | with_reducible rfl) rfl ?_
 refine (raw_big R y2 z2 16 w8 S8 hl8).mono ?_
 rintro _ w9 ⟨v9, rfl, m9, S9, g9⟩
 have hS : (fun _ : World => True) w9 := trivial
 refine ⟨_, rfl, hS, ?_⟩
 have hN : (rawS y2 z2 16).1.length = 16 ∨ (rawS y2 z2 16).1 = [] := rawS_N y2 z2 16
 rw [hrw.out] at m9 S9 hN
 obtain ⟨av, cv, hve, -, -, row9⟩ := m9.rowAt (by unfold maxLen; rcases hN with h | h <;> (rw [h]; simp))
 rw [hve]
 have tA9 := there_gbR tA8 g9 sA8 hAR
 have rA9 := range_gbR rA8 g9 sA8 hAR
 have sA9 := Nat.lt_of_lt_of_le sA8 g9.size
 have rz9 : w9.rangeAt A 2 (v8 (List.replicate 16 (0 : Int))) := fun j y hy => by
  have := rA9 (j + 2) y hy
  rw [show 0 + (j + 2) = 2 + j by omega] at this
  exact this
 obtain ⟨wc, hcp, hrc, hwc⟩ := copy_padO (n := 16) (cap := cv) (by decide) (there_partO tA9 (by decide)) rz9 row9 hN
 have hSc : (fun _ : World => True) wc := trivial
 simp only [nz]
 refine hs_run (i := 4) (d := some 20) (v := goInt r1.length) (w' := wc) rfl (by kernel_rfl) (by rfl) (exec_copy rfl rfl rfl hcp) rfl hSc ?_
 simp only [nz]
 refine hs_done (by kernel_rfl) ?_
 have z9 := g9.size
 have hbc : Below A w9 wc := by rw [hwc]; exact below_sets (Nat.le_refl _) _ _ _ (Below.refl _ _)
 have Sc := S9.belowN hbc hRlt
 have Bc : Below w.heap.size w wc := (low_gb B8 g9 (by omega) (by omega)).trans (hbc.mono (by omega))
 have tTc := there_below (there_gbR tT8 g9 (by omega) (by omega)) hbc hTA
 have tcc : wc.rangeAt A 0 [.int .i64 x1, .string s1] := by
  rw [hwc]
  exact World.rangeAt_setCells_apart (fun j y hy => by
   rcases j with _ | _ | j
   ·exact rA9 0 y hy
   ·exact rA9 1 y hy
   ·simp at hy) _ _ _ (.inr (.inl (by simp)))
 have rAc : wc.rangeAt A 0 (Ev.cells ⟨x1, s1, padN 16 r1⟩) := range_join (cs := [.int .i64 x1, .string s1]) tcc hrc
 have HEV := HG.out _ (by rw [hn1.out, hn2.out, hrw.out])
 rw [hn1.out, hn2.out] at HEV
 simp only [hs1.out] at HEV
 have HV := hide HEV
 have hok : Ev.ok ⟨x1, s1, padN 16 r1⟩ := by have := evS_ok HBZ.out; rw [HEV] at this; exact this
 have hql : (Ev.cells ⟨x1, s1, padN 16 r1⟩).length = 18 := EvE.len _ hok
 have hq1 := EvE.one ⟨x1, s1, padN 16 r1⟩
 have hiq : (Tryz.prog.info? 25).map (·.size) = some (Ev.cells ⟨x1, s1, padN 16 r1⟩).length := by rw [hql]; exact isz18
 have hq1 : ∀ v ∈ Ev.cells ⟨x1, s1, padN 16 r1⟩, v.oneCell' = true := hq1
 obtain ⟨q, hq⟩ : ∃ q, Hid (Ev.cells ⟨x1, s1, padN 16 r1⟩ = q) := ⟨_, hide rfl⟩
 rw [hq.out] at rAc hql hq1 hiq
 have hGd : Hid (G = if doneE y3 z3 = 0 then (⟨x1, s1, padN 16 r1⟩, 0) else (evZ, doneE y3 z3)) := hide (by
  rw [← hG.out]
  unfold getE
  rw [HV.out])
 clear HEV HG HV hcp hrc hwc row9 m9 hve S9 S8 g9 rA9 rA8 tA9 tA8 tT8 B8 rz9 tcc hok hS hSc hbc hN sA8 sA9 z9 hp5 hp5' hb5' hln5 hln6 hl8 hG
 obtain ⟨f, hf⟩ : ∃ f, doneE y3 z3 = f := ⟨_, rfl⟩
 rw [hf] at hGd
 go_upto_region 6 with fail
 try simp only [Act.put]
 refine pl_begin ?_
 refine pl_t 21 (?_) (by rfl) ?_ rfl ?_
 rotate_left
 ·go_simp
  try with_reducible rfl
 simp only [nz]
 refine pl_call (d := some 22) (by rfl) (by go_simp; first | done | exact ⟨rfl, rfl⟩ | with_reducible rfl) rfl ?_
 refine (done_any R y3 z3 wc Sc).mono ?_
 rintro _ wd ⟨rfl, hx⟩
 obtain rfl := hx.symm
 clear hx
 refine ⟨_, rfl, ?_⟩
 simp only [nz]
 refine pl_t 6 (?_) (by rfl) ?_ rfl ?_
 rotate_left
 ·go_simp
  try with_reducible rfl
 simp only [nz]
 refine pl_nil ?_
 simp only [hf]
 clear hf Sc
 by_cases hf0 : f = 0
 ·subst hf0
  have hr : G = (⟨x1, s1, padN 16 r1⟩, 0) := by rw [hGd.out, if_pos rfl]
  go_upto_region 9 with fail
  try simp only [Act.put]
  refine pl_begin ?_
  refine pl_t 27 (.agg q.toArray) (by rfl) (ex_mid rfl rfl rAc Tryz.underlying25 rfl hiq) rfl ?_
  simp only [nz]
  refine pl_store (w' := wc.setCells w.heap.size 0 q) (by rfl) (ex_put (cs := q.toArray) rfl rfl rfl (by simpa [hql] using tTc) (by simpa using hiq) (all_one hq1)) rfl ?_
  refine pl_t 3 (?_) (by rfl) ?_ rfl ?_
  rotate_left
  ·go_simp
   try with_reducible rfl
  simp only [nz]
  refine pl_nil ?_
  have hrs := run_loadVar_mid (P := Tryz.prog) (wc.setCells w.heap.size 0 q) w.heap.size 0 25 q _ (World.rangeAt_setCells_same wc w.heap.size 0 q (by rw [hql]; exact tTc)) Tryz.underlying25 rfl hiq
  have HF : Hid (Ending.returned (.tuple #[.agg q.toArray, .int .i64 0]) = Ending.returned (.tuple #[.agg G.1.cells.toArray, .int .i64 G.2]) ∧ Below w.heap.size w (wc.setCells w.heap.size 0 q)) := hide ⟨by rw [hr, ← hq.out], below_sets (Nat.le_refl _) _ _ _ Bc⟩
  clear rAc tTc Bc hGd hr
  go_wp2_with fail
  refine bodyPost_ret (results_ct rfl _ _ _ rfl hrs) rfl ?_
  exact HF.out
 ·have hfb : (f != 0) = true := by simpa using hf0
  have hr : G = (evZ, f) := by rw [hGd.out, if_neg hf0]
  go_upto_region 8 with fail
  try simp only [Act.put]
  refine pl_begin ?_
  refine pl_t 25 (.agg zc.toArray) (by rfl) (ex_build (parts := []) rfl rfl (hb0 _)) rfl ?_
  simp only [nz]
  refine pl_t 26 (?_) (by rfl) ?_ rfl ?_
  rotate_left
  ·go_simp
   try with_reducible rfl
  simp only [nz]
  refine pl_store (w' := wc.setCells w.heap.size 0 zc) (by rfl) (ex_put (cs := zc.toArray) rfl rfl rfl (by simpa [hzl] using tTc) (by simpa using hiz) (all_one hz1)) rfl ?_
  refine pl_t 3 (?_) (by rfl) ?_ rfl ?_
  rotate_left
  ·go_simp
   try with_reducible rfl
  simp only [nz]
  refine pl_nil ?_
  have hrs := run_loadVar_mid (P := Tryz.prog) (wc.setCells w.heap.size 0 zc) w.heap.size 0 25 zc _ (World.rangeAt_setCells_same wc w.heap.size 0 zc (by rw [hzl]; exact tTc)) Tryz.underlying25 rfl hiz
  have HF : Hid (Ending.returned (.tuple #[.agg zc.toArray, .int .i64 f]) = Ending.returned (.tuple #[.agg G.1.cells.toArray, .int .i64 G.2]) ∧ Below w.heap.size w (wc.setCells w.heap.size 0 zc)) := hide ⟨by rw [hr, ← hzc.out], below_sets (Nat.le_refl _) _ _ _ Bc⟩
  clear rAc tTc Bc hGd hr
  go_wp2_with fail
  refine bodyPost_ret (results_ct rfl _ _ _ rfl hrs) rfl ?_
  exact HF.out
end Go.Proofs.YtcbpbkefggekmaaGreatDoor
namespace Go.Proofs.YtcbpbkefggekmaaGreatDoor.Qs
open Go.RowKit
open Sha
end Go.Proofs.YtcbpbkefggekmaaGreatDoor.Qs
namespace Go.Proofs.YtcbpbkefggekmaaGreatDoor.Sha
open Go.Proofs.YtcbpbkefggekmaaGreatDoor.Qs
open Go.RowKit
open Sha
def macKey (zs : List Int) : List Int := if 64 < zs.length then sha zs else zs
def macBlock (zs : List Int) : List Int := macKey zs ++ List.replicate (64 - (macKey zs).length) 0
end Go.Proofs.YtcbpbkefggekmaaGreatDoor.Sha
namespace Go.Proofs.YtcbpbkefggekmaaGreatDoor.Qs
open Go.RowKit
open Sha
theorem isz52 : (Tryz.prog.info? 169).map (·.size) = some 64 := by kernel_rfl
theorem macKey_len (zs : List Int) : (macKey zs).length ≤ 64 := by
 unfold macKey
 split
 ·rw [sha_length]; omega
 ·omega
theorem macBlock_len (zs : List Int) : (macBlock zs).length = 64 := by
 have := macKey_len zs
 simp [macBlock]; omega
theorem new64 (w : World) : (w.alloc (.cells (Array.replicate 64 (.int .u8 0)) 169)).rangeAt w.heap.size 0 (v8 (List.replicate 64 (0 : Int))) ∧ (w.alloc (.cells (Array.replicate 64 (.int .u8 0)) 169)).there w.heap.size 0 64 := new_bytes w 64 169
theorem copy_head (w : World) (B : Nat) (a : Option Addr) (cap : Nat) (ks : List Int) (hl : ks.length ≤ 64) (h : RowAt w a ks) (hT : w.there B 0 64) (hz : w.rangeAt B 0 (v8 (List.replicate 64 (0 : Int)))) :
  ∃ w', (Builtin.copy_ #[59, 59] 3 #[.slice (some ⟨B, 0, none⟩) 64 64, .slice a ks.length cap]).run Tryz.prog w = .ok (goInt ks.length) w' ∧ w'.rangeAt B 0 (v8 (ks ++ List.replicate (64 - ks.length) (0 : Int))) ∧ w' = w.setCells B 0 (v8 ks) := by
 rcases h.2.2 with rfl | ⟨b, off, rfl, hb, hr⟩
 ·exact ⟨w, run_copy_none (P := Tryz.prog) w 59 59 3 5 _ a 64 64 0 cap Tryz.underlying59 isz8 rfl, by simpa using hz, rfl⟩
 ·refine ⟨w.setCells B 0 (v8 ks), ?_, ?_, rfl⟩
  ·have := run_copy_cells (P := Tryz.prog) w 59 59 3 5 B 0 64 64 ⟨b, off, none⟩ ks.length cap (v8 ks) Tryz.underlying59 isz8 (by rw [v8_length]; exact (Nat.min_eq_left hl).symm) (fun j v hv => by rw [Addr.add_mid]; exact hr j v hv) (fun j hj => by rw [v8_length] at hj; exact (hT j (by omega)).1) (fun j hj => by rw [v8_length] at hj; exact (hT j (by omega)).2) (v8_one _)
   rw [v8_length] at this
   exact this
  ·have e0 : List.replicate 64 (0 : Int) = [] ++ List.replicate ks.length (0 : Int) ++ List.replicate (64 - ks.length) (0 : Int) := by
    rw [List.nil_append, List.replicate_append_replicate]; congr 1; omega
   rw [e0, v8_append, v8_append] at hz
   have := range_fill (vs := v8 ks) hz (by simp) (by
    rw [v8_length]
    have := there_part hT 0 ks.length (by omega)
    simpa [v8] using this)
   rw [← v8_append, ← v8_append] at this
   simpa [v8] using this
set_option maxRecDepth 20000 in
set_option maxHeartbeats 1000000 in
theorem blockOf_any (a : Option Addr) (cap : Nat) (zs : List Int) (w : World) (hG : Glob w) (h : RowAt w a zs) (hc : zs.length ≤ cap) (hm : cap ≤ maxLen) (hl : zs.length ≤ 1000000) :
   Calls Tryz.prog 105 #[.slice a zs.length cap] w fun e w' => e = .returned (.agg (v8 (macBlock zs)).toArray) ∧ Below w.heap.size w w' := by
  go_enter Tryz.func105, Tryz.ntmps105
  go_upto_region 2 with fail
  go_name_world w1 hw1
  obtain ⟨hB1, hZ, hT, hT0, hz1⟩ : Below w.heap.size w w1 ∧ w1.rangeAt (w.heap.size + 1) 0 (v8 (List.replicate 64 (0 : Int))) ∧ w1.there (w.heap.size + 1) 0 64 ∧ w1.there w.heap.size 0 64 ∧ w1.heap.size = w.heap.size + 2 := by
    have q := new64 (w.alloc (.cells (Array.replicate 64 (.int .u8 0)) 169))
    have q2 := World.there_alloc (new64 w).2 (.cells (Array.replicate 64 (.int .u8 0)) 169)
    have es : (w.alloc (.cells (Array.replicate 64 (.int .u8 0)) 169)).heap.size = w.heap.size + 1 := by simp
    have hB : Below w.heap.size w ((w.alloc (.cells (Array.replicate 64 (.int .u8 0)) 169)).alloc (.cells (Array.replicate 64 (.int .u8 0)) 169)) := ((Below.refl _ _).alloc (Nat.le_refl _) _).alloc (by simp) _
    have hs : ((w.alloc (.cells (Array.replicate 64 (.int .u8 0)) 169)).alloc (.cells (Array.replicate 64 (.int .u8 0)) 169)).heap.size = w.heap.size + 2 := by simp
    rw [es] at q
    rw [show (w.alloc (.cells (Array.replicate 64 (.int .u8 0)) 169)).alloc (.cells (Array.replicate 64 (.int .u8 0)) 169) = w1 from hw1] at q q2 hB hs
    exact ⟨hB, q.1, q.2, q2, hs⟩
  clear hw1
  have HZ1 : Hid (w1.heap.size = w.heap.size + 2) := hz1
  clear hz1
  have fin : ∀ (w3 : World) (ks : List Int), ks = macKey zs → w3.rangeAt (w.heap.size + 1) 0 (v8 (ks ++ List.replicate (64 - ks.length) (0 : Int))) → w3.rangeAt (w.heap.size + 1) 0 (v8 (macBlock zs)) := fun w3 ks e hr => by rw [e] at hr; exact hr
  by_cases hlt : 64 < zs.length
  · have hltI : (64 : Int) < zs.length := by omega
    have ek : macKey zs = sha zs := by unfold macKey; rw [if_pos hlt]
    have hat : (⟨a, cap, zs⟩ : Part).at w1 := Part.at.below (w := w) ⟨h, hc, hm⟩ hB1
    have hP := one_part w1 #[.slice a zs.length cap] ⟨a, cap, zs⟩ hat rfl
    have hBp : Below w.heap.size w (w1.alloc (.cells #[.slice a zs.length cap] 59)) := hB1.alloc hB1.size _
    have hcz : cat [(⟨a, cap, zs⟩ : Part)] = zs := by simp [cat]
    have c1 := sum_any _ 1 _ _ (hG.below hBp) hP (by rw [hcz]; omega)
    rw [hcz] at c1
    simp only [List.length_cons, List.length_nil, Nat.zero_add] at c1
    have hBq : Below w1.heap.size w1 (w1.alloc (.cells #[.slice a zs.length cap] 59)) := (Below.refl _ _).alloc (Nat.le_refl _) _
    obtain ⟨d, hd⟩ : ∃ d, Hid (sha zs = d) := ⟨_, rfl⟩
    have hdl : d.length = 32 := by rw [← hd.out]; exact sha_length zs
    have hdo : ∀ z ∈ d, 0 ≤ z ∧ z < 256 := by rw [← hd.out]; exact sha_ok zs
    rw [hd.out] at c1 ek
    clear hP hat hcz
    go_wp2_with fail
    refine c1.mono ?_
    rintro e w2 ⟨rfl, hw2⟩
    have hw2' : Below w1.heap.size w1 w2 := hBq.trans (hw2.mono hBq.size)
    clear c1 hw2 hBq hBp
    have hd1 : (v8 d).length = 32 := by rw [v8_length, hdl]
    have F := fresh_store w2 (Array.replicate 32 (.int .u8 0)) 41 (v8 d) (by rw [hd1]; rfl)
    have hi24 : (Tryz.prog.info? 41).map (·.size) = some (v8 d).toArray.size := by rw [List.size_toArray, hd1]; exact isz24
    have hN24 : (w2.alloc (.cells (Array.replicate 32 (.int .u8 0)) 41)).there w2.heap.size 0 (v8 d).toArray.size := by
      have e : (v8 d).toArray.size = 32 := by rw [List.size_toArray, hd1]
      rw [e]; exact (new_bytes w2 32 41).2
    have h1d := all_oneCell_toArray (v8_one d)
    go_upto_region 4 with (refine wpList_store_mid (op := ⟨none, .store 41 (.tmp 4) (.tmp 10), _, _, _, none⟩) rfl 41 _ _ rfl _ _ (v8 d).toArray rfl rfl hN24 hi24 h1d ?_)
    go_name_world w4 hw4
    rw [show (w2.alloc (.cells (Array.replicate 32 (.int .u8 0)) 41)).setCells w2.heap.size 0 (v8 d) = w4 from hw4] at F
    obtain ⟨hRd, hBd, hzd, _⟩ := F
    have hw4' : Below w1.heap.size w1 w4 := hw2'.trans (hBd.mono hw2'.size)
    have hB4 : Below w.heap.size w w4 := hB1.trans (hw4'.mono hB1.size)
    have hZ4 := range_below hZ hw4' (by have := HZ1.out; omega)
    have hT4 := there_below hT hw4' (by have := HZ1.out; omega)
    have hT04 := there_below hT0 hw4' (by have := HZ1.out; omega)
    have hrow : RowAt w4 (some ⟨w2.heap.size, 0, none⟩) d := ⟨by rw [hdl]; unfold maxLen; omega, hdo, Or.inr ⟨_, _, rfl, by omega, hRd⟩⟩
    obtain ⟨w3, hcp, hr3, hw3⟩ := copy_head w4 (w.heap.size + 1) (some ⟨w2.heap.size, 0, none⟩) 32 d (by omega) hrow hT4 hZ4
    have hsl := slice_all (w := w4) Tryz.underlying169 isz8 (w.heap.size + 1) 0 (by omega)
    have hsl2 := slice_all (w := w4) Tryz.underlying41 isz8 w2.heap.size 0 (by omega)
    have hR3 := fin w3 d ek.symm hr3
    have hB3 : Below w.heap.size w w3 := by rw [hw3]; exact below_sets (Nat.le_succ _) _ _ _ hB4
    have hT3 : w3.there w.heap.size 0 64 := by rw [hw3]; exact World.there_setCells hT04 _ _ _
    have hml := macBlock_len zs
    rw [hdl] at hcp
    clear fin hr3 ek hw4 hN24 hi24 h1d hd1 hZ hT hT0 hB1
    simp only [Act.put]
    go_upto_region 6 with fail
    rw [← hw3]
    obtain ⟨cs, hcs⟩ : ∃ cs, Hid (v8 (macBlock zs) = cs) := ⟨_, rfl⟩
    have hcl : cs.length = 64 := by rw [← hcs.out, v8_length, hml]
    have h1c : ∀ v ∈ cs, v.oneCell' = true := by rw [← hcs.out]; exact v8_one _
    rw [hcs.out] at hR3
    have hi : (Tryz.prog.info? 169).map (·.size) = some cs.length := by rw [hcl]; exact isz52
    clear hw3
    refine wp_region_list ?_
    refine wpList_load_mid rfl 169 _ rfl _ _ rfl cs _ hR3 Tryz.underlying169 rfl hi ?_
    refine wpList_store_mid rfl 169 _ _ rfl _ _ cs.toArray rfl rfl (by simpa [hcl] using hT3) (by simpa using hi) (all_oneCell_toArray h1c) ?_
    have hRr := World.rangeAt_setCells_same w3 w.heap.size 0 cs (by rw [hcl]; exact hT3)
    have hBl := below_sets (Nat.le_refl w.heap.size) cs 0 w3 hB3
    generalize w3.setCells w.heap.size 0 cs = wx at *
    have hrs := run_loadVar_mid (P := Tryz.prog) wx w.heap.size 0 169 cs _ hRr Tryz.underlying169 rfl hi
    clear hi
    go_wp2_with fail
    refine bodyPost_ret (v := .agg cs.toArray) (by simp [results, Tryz.results105, Act.put, asAddr, hrs]) rfl ⟨by rw [hcs.out], hBl⟩
  · have hltI : ¬ (64 : Int) < zs.length := by omega
    have ek : macKey zs = zs := by unfold macKey; rw [if_neg hlt]
    obtain ⟨w3, hcp, hr3, hw3⟩ := copy_head w1 (w.heap.size + 1) a cap zs (by omega) (h.below hB1) hT hZ
    have hsl := slice_all (w := w1) Tryz.underlying169 isz8 (w.heap.size + 1) 0 (by omega)
    have hR3 := fin w3 zs ek.symm hr3
    have hB3 : Below w.heap.size w w3 := by rw [hw3]; exact below_sets (Nat.le_succ _) _ _ _ hB1
    have hT3 : w3.there w.heap.size 0 64 := by rw [hw3]; exact World.there_setCells hT0 _ _ _
    have hml := macBlock_len zs
    clear fin hr3 ek
    go_upto_region 6 with fail
    rw [← hw3]
    obtain ⟨cs, hcs⟩ : ∃ cs, Hid (v8 (macBlock zs) = cs) := ⟨_, rfl⟩
    have hcl : cs.length = 64 := by rw [← hcs.out, v8_length, hml]
    have h1c : ∀ v ∈ cs, v.oneCell' = true := by rw [← hcs.out]; exact v8_one _
    rw [hcs.out] at hR3
    have hi : (Tryz.prog.info? 169).map (·.size) = some cs.length := by rw [hcl]; exact isz52
    clear hw3
    refine wp_region_list ?_
    refine wpList_load_mid rfl 169 _ rfl _ _ rfl cs _ hR3 Tryz.underlying169 rfl hi ?_
    refine wpList_store_mid rfl 169 _ _ rfl _ _ cs.toArray rfl rfl (by simpa [hcl] using hT3) (by simpa using hi) (all_oneCell_toArray h1c) ?_
    have hRr := World.rangeAt_setCells_same w3 w.heap.size 0 cs (by rw [hcl]; exact hT3)
    have hBl := below_sets (Nat.le_refl w.heap.size) cs 0 w3 hB3
    generalize w3.setCells w.heap.size 0 cs = wx at *
    have hrs := run_loadVar_mid (P := Tryz.prog) wx w.heap.size 0 169 cs _ hRr Tryz.underlying169 rfl hi
    clear hi
    go_wp2_with fail
    refine bodyPost_ret (v := .agg cs.toArray) (by simp [results, Tryz.results105, asAddr, hrs]) rfl ⟨by rw [hcs.out], hBl⟩
end Go.Proofs.YtcbpbkefggekmaaGreatDoor.Qs
