/- messages, read: kind 7; messages, read: kind 8; the program's Decode; the document's fields; the document's Decode; both Decodes are the same: what is pure; what is read comes back, and has one form: the words; messages come back, and have one form: what is pure; good messages: with and without their places; records: which are the same; records: what their kind has, and the message that they are told as (the document's) -/
import Derived.Test.YtinndbipomlokaaGreatJC0
import Derived.Test.YtinndbipomlokaaGreatJC9
import Derived.Test.YtinndbipomlokaaGreatJC2
import Derived.Test.YtinndbipomlokaaGreatJC5
import Derived.Test.YtinndbipomlokaaGreatJC7
import Derived.Test.YtinndbipomlokaaGreatJC3
namespace Go.Proofs.YtinndbipomlokaaGreat
open Go.RowKit
open Sha Tal
set_option linter.unusedVariables false
set_option linter.unusedSimpArgs false
set_option maxRecDepth 100000 in
set_option maxHeartbeats 1000000 in
theorem rmsgK7 (Q R : Nat) (s : Rst) (w : World) (h : RS w Q R s) (hl : s.1.length ≤ 40000) (hk : (kiS 8 s).1 = 7) : Calls Tryz.prog 112 #[.pointer (some ⟨Q, 0, none⟩)] w fun en w' => ∃ m : Mg, en = .returned (.agg m.ms.cells.toArray) ∧ m.pure = (mg7 (kiS 8 s).2).1 ∧ m.ok ∧ m.At w' ∧ m.Bk (fun b => w.heap.size ≤ b) ∧ RS w' Q R (mg7 (kiS 8 s).2).2 ∧ Kept w R Q w' := by
 have hRw := h.st.1.1
 have hQw := h.mr.lt
 have ck := fun w0 h0 => kindRS Q R 8 s w0 h0
 have l0 := kiS_len 8 s
 unfold mg7
 generalize kiS 8 s = p_ at ck l0 hk ⊢
 obtain ⟨k, s0⟩ := p_
 simp only at ck l0 hk ⊢
 subst hk
 have c_a := fun w0 h0 => bgetS Q R s0 w0 h0 (by omega)
 have l_a : (baS s0).2.1.length ≤ s0.1.length := baS_len _
 generalize baS s0 = p_ at c_a l_a ⊢
 obtain ⟨⟨q_a, rs_a⟩, s_a⟩ := p_
 simp only at c_a l_a ⊢
 have c_b := fun w0 h0 => rcertS Q R s_a w0 h0 (by omega)
 have l_b : (ceS s_a).2.1.length ≤ s_a.1.length := ceS_len _
 generalize ceS s_a = p_ at c_b l_b ⊢
 obtain ⟨⟨vt_b, sg_b⟩, s_b⟩ := p_
 simp only at c_b l_b ⊢
 obtain ⟨zc, hzl, hzr⟩ : ∃ z : List Value, z.length = 119 ∧ ∀ w : World, (zeroValue 63).run Tryz.prog w = .ok (.agg z.toArray) w := ⟨_, (Ms.plain_ok 0 0 0 Vt.zero_ok zeros32_len zeros32_byte).len, zeroM⟩
 have hbk := build_kind 7
 have hql := (ms0_ok 7).len
 have hq1 := (ms0_ok 7).one
 have hiq : (Tryz.prog.info? 63).map (·.size) = some (Ms.plain 7 0 0 Vt.zero zeros32).cells.length := by rw [hql]; exact iszM
 have hk0 : ∀ (w' : World) b, w'.rangeAt b 0 (Ms.plain 7 0 0 Vt.zero zeros32).cells → w'.cell? ⟨b, 0, none⟩ = some (.int .i64 7) := fun w' b h => ((ms0_ok 7).at h).k
 obtain ⟨qk, hqk⟩ : ∃ q, Hid ((Ms.plain 7 0 0 Vt.zero zeros32).cells = q) := ⟨_, hide rfl⟩
 simp only [hqk.out] at hbk hql hq1 hiq hk0
 obtain ⟨hB1, hr1, hs1⟩ := boxed_new w zc 63
 have ht1 := there_newN w zc.toArray 63 (n := 119) (by simp [hzl])
 go_enter Tryz.func112, Tryz.ntmps112
 go_upto_region 0 with fail
 try simp only [Act.put]
 refine pl_begin ?_
 refine pl_run (d := some 2) (v := .pointer (some ⟨w.heap.size, 0, none⟩)) (w' := w.alloc (.cells zc.toArray 63)) (by rfl) (ex_alloc rfl (hzr _)) rfl ?_
 simp only [nz]
 refine pl_nil ?_
 obtain ⟨W1, hW1⟩ : ∃ W, w.alloc (.cells zc.toArray 63) = W := ⟨_, rfl⟩
 rw [hW1] at hB1 hr1 hs1 ht1 ⊢
 clear hW1 hr1
 have S1 := h.below hB1
 go_upto_region 1 with fail
 try simp only [Act.put]
 refine pl_begin ?_
 refine pl_t 4 (?_) (by rfl) ?_ rfl ?_
 rotate_left
 ·go_simp
  try with_reducible rfl
 simp only [nz]
 refine pl_call (d := some 5) (by rfl) (by go_simp; first | done | exact ⟨rfl, rfl⟩ | with_reducible rfl) rfl ?_
 refine (ck W1 S1).mono ?_
 rintro _ w2 ⟨rfl, S2, k2⟩
 refine ⟨_, rfl, ?_⟩
 simp only [nz]
 refine pl_t 6 (.agg qk.toArray) (by rfl) (ex_build (parts := [(0, .tmp 5)]) rfl rfl (hbk _)) rfl ?_
 simp only [nz]
 refine pl_run (d := some 3) (v := .pointer (some ⟨w2.heap.size, 0, none⟩)) (w' := w2.alloc (.cells zc.toArray 63)) (by rfl) (ex_alloc rfl (hzr _)) rfl ?_
 simp only [nz]
 refine pl_store (w' := (w2.alloc (.cells zc.toArray 63)).setCells w2.heap.size 0 qk) (by rfl) (ex_put (cs := qk.toArray) rfl rfl rfl (there_newN _ _ _ (by simp [hzl, hql])) (by simpa using hiq) (all_one hq1)) rfl ?_
 refine pl_nil ?_
 obtain ⟨hF1, hF2, hF3, -⟩ := fresh_store w2 zc.toArray 63 qk (by simp [hzl, hql])
 have hF4 := World.there_setCells (there_newN w2 zc.toArray 63 (n := 119) (by simp [hzl])) w2.heap.size 0 qk
 obtain ⟨w3, hw3⟩ : ∃ W, (w2.alloc (.cells zc.toArray 63)).setCells w2.heap.size 0 qk = W := ⟨_, rfl⟩
 rw [hw3] at hF1 hF2 hF3 hF4 ⊢
 clear hw3
 have hc0 := hk0 _ _ hF1
 have k3 : Kept w R Q w3 := (((Kept.refl w R Q).below hB1).trans k2).below hF2
 have z2 := k2.size
 rw [← hqk.out] at hF1
 have V3 : MV w Q R w.heap.size w2.heap.size 119 (Ms.plain 7 0 0 Vt.zero zeros32).cells s0 w3 := ⟨hF1, hF4, there_below (there_blk ht1 (k2.block _ hs1 (by omega) (by omega))) hF2 (by omega), k3, S2.below hF2, by have := hF2.size; omega, by omega, Nat.le_refl _, by have := hB1.size; omega, by omega, hRw, hQw⟩
 have hww : w.heap.size < w2.heap.size := by omega
 clear hF1 hF2 hF4 ht1 hB1 S1 S2 k2 k3 hk0 hbk hql hq1 hiq hqk h ck hzr hzl
 go_upto_region 2 with fail
 try simp only [Act.put]
 refine pl_begin ?_
 refine pl_t 7 (?_) (by rfl) ?_ rfl ?_
 rotate_left
 ·go_simp
  try with_reducible rfl
 simp only [nz]
 refine pl_t 8 (.int .i64 7) (by rfl) (pl_one rfl rfl hc0 Tryz.underlying3 rfl) rfl ?_
 simp only [nz]
 refine pl_nil ?_
 clear hc0
 go_upto_region 18 with fail
 try simp only [Act.put]
 refine pl_begin ?_
 refine pl_t 95 (?_) (by rfl) ?_ rfl ?_
 rotate_left
 ·go_simp
  try with_reducible rfl
 simp only [nz]
 refine pl_t 96 (?_) (by rfl) ?_ rfl ?_
 rotate_left
 ·go_simp
  try with_reducible rfl
 simp only [nz]
 refine pl_t 97 (?_) (by rfl) ?_ rfl ?_
 rotate_left
 ·go_simp
  try with_reducible rfl
 simp only [nz]
 refine pl_t 98 (.pointer (some ⟨R, 0, none⟩)) (by rfl) (pl_one rfl rfl V3.rs.mr.c0 Tryz.underlying72 rfl) rfl ?_
 simp only [nz]
 refine pl_call (d := some 99) (by rfl) (by go_simp; first | done | exact ⟨rfl, rfl⟩ | with_reducible rfl) rfl ?_
 refine (c_a w3 V3.rs).mono ?_
 rintro _ w5 ⟨x, rfl, hx, hA, hB, S5, k5⟩
 refine ⟨_, rfl, ?_⟩
 simp only [nz]
 refine pl_t 100 (?_) (by rfl) ?_ rfl ?_
 rotate_left
 ·go_simp
  try with_reducible rfl
 simp only [nz]
 refine pl_call (d := some 101) (by rfl) (by go_simp; first | done | exact ⟨rfl, rfl⟩ | with_reducible rfl) rfl ?_
 refine (c_b w5 S5).mono ?_
 rintro _ w6 ⟨y, rfl, hy, hC, hD, hvt, S6, k6⟩
 refine ⟨_, rfl, ?_⟩
 simp only [nz]
 refine pl_t 102 (?_) (by rfl) ?_ rfl ?_
 rotate_left
 ·go_simp
  try with_reducible rfl
 simp only [nz]
 have lb := V3.lb
 have la := V3.la
 have na := V3.kept.size
 have z5 := k5.size
 have V6 := (V3.on k5 S5).on k6 S6
 have hA5 : x.At RqE w6 := hA.kept k6 (n := w3.heap.size) (by omega) (by omega) hB (fun b hb => hb.1)
 have Va := V6.set 5 [.bool q_a, x.val] (put_b q_a x.val V6.row (V6.part 5 2 (by decide)))
 refine pl_store (w' := w6.setCells w2.heap.size 5 [.bool q_a, x.val]) (by rfl) (ex_put (cs := #[.bool q_a, x.val]) rfl rfl rfl (V6.part 5 2 (by decide)) iszBa (by simp [Value.oneCell', Sl.val])) rfl ?_
 have hA6 := hA5.put (B := w2.heap.size) (o := 5) (vs := [.bool q_a, x.val]) hB (fun b hb => by omega)
 have hC6 := hC.put (B := w2.heap.size) (o := 5) (vs := [.bool q_a, x.val]) hD (fun b hb => by omega)
 obtain ⟨wd, hwd⟩ : ∃ W, w6.setCells w2.heap.size 5 [.bool q_a, x.val] = W := ⟨_, rfl⟩
 rw [hwd] at Va hA6 hC6 ⊢
 clear hwd
 refine pl_t 103 (?_) (by rfl) ?_ rfl ?_
 rotate_left
 ·go_simp
  try with_reducible rfl
 simp only [nz]
 have hcl : (certL vt_b y).length = 37 := by have := hvt.len; simp [certL]; omega
 have hc1 : ∀ v ∈ certL vt_b y, v.oneCell' = true := fun v hv => by
  rcases List.mem_append.1 hv with g | g
  ·exact Vt.one vt_b v g
  ·rw [List.mem_singleton.1 g]; rfl
 have Ve := Va.set 80 (certL vt_b y) (put_ct vt_b y.val hvt Vt.zero_ok zeros32_len Vt.zero_ok Va.row (Va.part 80 37 (by decide)))
 refine pl_store (w' := wd.setCells w2.heap.size 80 (certL vt_b y)) (by rfl) (ex_put (cs := (certL vt_b y).toArray) rfl rfl rfl (by simpa [hcl] using Va.part 80 37 (by decide)) (by simpa [hcl] using iszCe) (all_one hc1)) rfl ?_
 refine pl_nil ?_
 have hA7 := hA6.put (B := w2.heap.size) (o := 80) (vs := certL vt_b y) hB (fun b hb => by omega)
 have hC7 := hC6.put (B := w2.heap.size) (o := 80) (vs := certL vt_b y) hD (fun b hb => by omega)
 obtain ⟨we, hwe⟩ : ∃ W, wd.setCells w2.heap.size 80 (certL vt_b y) = W := ⟨_, rfl⟩
 rw [hwe] at Ve hA7 hC7 ⊢
 clear hwe
 clear Va V6 V3 S5 S6 k5 k6 hA hC hA5 hA6 hC6
 have rpc := Ve.row
 have hmo : Mg.ok ⟨7, 0, 0, 0, 0, q_a, x, Vt.zero, 0, 0, 0, ⟨none, 0, []⟩, ⟨none, 0, []⟩, zeros32, vt_b, y, ⟨#[]⟩, ⟨none, 0, []⟩⟩ := ⟨Vt.zero_ok, hvt, zeros32_len, zeros32_byte⟩
 have hpl : (Mg.ms ⟨7, 0, 0, 0, 0, q_a, x, Vt.zero, 0, 0, 0, ⟨none, 0, []⟩, ⟨none, 0, []⟩, zeros32, vt_b, y, ⟨#[]⟩, ⟨none, 0, []⟩⟩).cells.length = 119 := hmo.ms.len
 have hp1 := hmo.ms.one
 have hip : (Tryz.prog.info? 63).map (·.size) = some (Mg.ms ⟨7, 0, 0, 0, 0, q_a, x, Vt.zero, 0, 0, 0, ⟨none, 0, []⟩, ⟨none, 0, []⟩, zeros32, vt_b, y, ⟨#[]⟩, ⟨none, 0, []⟩⟩).cells.length := by rw [hpl]; exact iszM
 have rpc : we.rangeAt w2.heap.size 0 (Mg.ms ⟨7, 0, 0, 0, 0, q_a, x, Vt.zero, 0, 0, 0, ⟨none, 0, []⟩, ⟨none, 0, []⟩, zeros32, vt_b, y, ⟨#[]⟩, ⟨none, 0, []⟩⟩).cells := rpc
 obtain ⟨pc, hpc⟩ : ∃ p, Hid ((Mg.ms ⟨7, 0, 0, 0, 0, q_a, x, Vt.zero, 0, 0, 0, ⟨none, 0, []⟩, ⟨none, 0, []⟩, zeros32, vt_b, y, ⟨#[]⟩, ⟨none, 0, []⟩⟩).cells = p) := ⟨_, hide rfl⟩
 simp only [hpc.out] at hpl hip hp1 rpc
 go_upto_region 22 with fail
 try simp only [Act.put]
 refine pl_begin ?_
 refine pl_t 121 (.agg pc.toArray) (by rfl) (ex_mid rfl rfl rpc Tryz.underlying63 rfl hip) rfl ?_
 simp only [nz]
 refine pl_store (w' := we.setCells w.heap.size 0 pc) (by rfl) (ex_put (cs := pc.toArray) rfl rfl rfl (by simpa [hpl] using Ve.ans) (by simpa using hip) (all_one hp1)) rfl ?_
 refine pl_nil ?_
 have hlow : Below w.heap.size we (we.setCells w.heap.size 0 pc) := below_sets (Nat.le_refl _) pc 0 _ (Below.refl _ we)
 have hrs := run_loadVar_mid (P := Tryz.prog) (we.setCells w.heap.size 0 pc) w.heap.size 0 63 pc _ (World.rangeAt_setCells_same we w.heap.size 0 pc (by rw [hpl]; exact Ve.ans)) Tryz.underlying63 rfl hip
 have HF : Hid (∃ m : Mg, Ending.returned (.agg pc.toArray) = .returned (.agg m.ms.cells.toArray) ∧ m.pure = (⟨7, 0, 0, 0, 0, q_a, rs_a, Vt.zero, 0, 0, 0, [], [], zeros32, vt_b, sg_b, ⟨#[]⟩, []⟩ : Mp) ∧ m.ok ∧ m.At (we.setCells w.heap.size 0 pc) ∧ m.Bk (fun b => w.heap.size ≤ b) ∧ RS (we.setCells w.heap.size 0 pc) Q R s_b ∧ Kept w R Q (we.setCells w.heap.size 0 pc)) := hide ⟨⟨7, 0, 0, 0, 0, q_a, x, Vt.zero, 0, 0, 0, ⟨none, 0, []⟩, ⟨none, 0, []⟩, zeros32, vt_b, y, ⟨#[]⟩, ⟨none, 0, []⟩⟩, by rw [hpc.out], by rw [← hx, ← hy]; rfl, hmo, mg0_at (hA7.put hB (fun b hb => by omega)) hds_none RowsAt.none (hC7.put hD (fun b hb => by omega)) RowsAt.none, ⟨hB.mono (fun b hb => by omega), no_bk, no_bk2, no_bk, hD.mono (fun b hb => by omega), no_bk⟩, Ve.rs.low hlow hQw, Ve.kept.low hlow (Nat.le_refl _)⟩
 clear Ve hlow rpc hpc hmo hA7 hC7 hB hD hx hy
 go_wp2_with fail
 refine bodyPost_ret (v := .agg pc.toArray) ?_ rfl ?_
 ·simp [results, Tryz.results112, Act.put, asAddr, hrs]
 ·exact HF.out
set_option maxRecDepth 100000 in
set_option maxHeartbeats 1000000 in
theorem rmsgK8 (Q R : Nat) (s : Rst) (w : World) (h : RS w Q R s) (hl : s.1.length ≤ 40000) (hk : (kiS 8 s).1 = 8) : Calls Tryz.prog 112 #[.pointer (some ⟨Q, 0, none⟩)] w fun en w' => ∃ m : Mg, en = .returned (.agg m.ms.cells.toArray) ∧ m.pure = (mg8 (kiS 8 s).2).1 ∧ m.ok ∧ m.At w' ∧ m.Bk (fun b => w.heap.size ≤ b) ∧ RS w' Q R (mg8 (kiS 8 s).2).2 ∧ Kept w R Q w' := by
 have hRw := h.st.1.1
 have hQw := h.mr.lt
 have ck := fun w0 h0 => kindRS Q R 8 s w0 h0
 have l0 := kiS_len 8 s
 unfold mg8
 generalize kiS 8 s = p_ at ck l0 hk ⊢
 obtain ⟨k, s0⟩ := p_
 simp only at ck l0 hk ⊢
 subst hk
 have c_a := fun w0 h0 => textRS Q R 4194304 s0 w0 h0
 have l_a : (txS 4194304 s0).2.1.length ≤ s0.1.length := txS_len _ _
 generalize txS 4194304 s0 = p_ at c_a l_a ⊢
 obtain ⟨v_a, s_a⟩ := p_
 simp only at c_a l_a ⊢
 have c_b := fun w0 h0 => rlistS_any Q R s_a w0 h0 (by omega)
 have l_b : (lsS 64 siS s_a).2.1.length ≤ s_a.1.length := lsS_len siS_len _ _
 generalize lsS 64 siS s_a = p_ at c_b l_b ⊢
 obtain ⟨v_b, s_b⟩ := p_
 simp only at c_b l_b ⊢
 obtain ⟨zc, hzl, hzr⟩ : ∃ z : List Value, z.length = 119 ∧ ∀ w : World, (zeroValue 63).run Tryz.prog w = .ok (.agg z.toArray) w := ⟨_, (Ms.plain_ok 0 0 0 Vt.zero_ok zeros32_len zeros32_byte).len, zeroM⟩
 have hbk := build_kind 8
 have hql := (ms0_ok 8).len
 have hq1 := (ms0_ok 8).one
 have hiq : (Tryz.prog.info? 63).map (·.size) = some (Ms.plain 8 0 0 Vt.zero zeros32).cells.length := by rw [hql]; exact iszM
 have hk0 : ∀ (w' : World) b, w'.rangeAt b 0 (Ms.plain 8 0 0 Vt.zero zeros32).cells → w'.cell? ⟨b, 0, none⟩ = some (.int .i64 8) := fun w' b h => ((ms0_ok 8).at h).k
 obtain ⟨qk, hqk⟩ : ∃ q, Hid ((Ms.plain 8 0 0 Vt.zero zeros32).cells = q) := ⟨_, hide rfl⟩
 simp only [hqk.out] at hbk hql hq1 hiq hk0
 obtain ⟨hB1, hr1, hs1⟩ := boxed_new w zc 63
 have ht1 := there_newN w zc.toArray 63 (n := 119) (by simp [hzl])
 go_enter Tryz.func112, Tryz.ntmps112
 go_upto_region 0 with fail
 try simp only [Act.put]
 refine pl_begin ?_
 refine pl_run (d := some 2) (v := .pointer (some ⟨w.heap.size, 0, none⟩)) (w' := w.alloc (.cells zc.toArray 63)) (by rfl) (ex_alloc rfl (hzr _)) rfl ?_
 simp only [nz]
 refine pl_nil ?_
 obtain ⟨W1, hW1⟩ : ∃ W, w.alloc (.cells zc.toArray 63) = W := ⟨_, rfl⟩
 rw [hW1] at hB1 hr1 hs1 ht1 ⊢
 clear hW1 hr1
 have S1 := h.below hB1
 go_upto_region 1 with fail
 try simp only [Act.put]
 refine pl_begin ?_
 refine pl_t 4 (?_) (by rfl) ?_ rfl ?_
 rotate_left
 ·go_simp
  try with_reducible rfl
 simp only [nz]
 refine pl_call (d := some 5) (by rfl) (by go_simp; first | done | exact ⟨rfl, rfl⟩ | with_reducible rfl) rfl ?_
 refine (ck W1 S1).mono ?_
 rintro _ w2 ⟨rfl, S2, k2⟩
 refine ⟨_, rfl, ?_⟩
 simp only [nz]
 refine pl_t 6 (.agg qk.toArray) (by rfl) (ex_build (parts := [(0, .tmp 5)]) rfl rfl (hbk _)) rfl ?_
 simp only [nz]
 refine pl_run (d := some 3) (v := .pointer (some ⟨w2.heap.size, 0, none⟩)) (w' := w2.alloc (.cells zc.toArray 63)) (by rfl) (ex_alloc rfl (hzr _)) rfl ?_
 simp only [nz]
 refine pl_store (w' := (w2.alloc (.cells zc.toArray 63)).setCells w2.heap.size 0 qk) (by rfl) (ex_put (cs := qk.toArray) rfl rfl rfl (there_newN _ _ _ (by simp [hzl, hql])) (by simpa using hiq) (all_one hq1)) rfl ?_
 refine pl_nil ?_
 obtain ⟨hF1, hF2, hF3, -⟩ := fresh_store w2 zc.toArray 63 qk (by simp [hzl, hql])
 have hF4 := World.there_setCells (there_newN w2 zc.toArray 63 (n := 119) (by simp [hzl])) w2.heap.size 0 qk
 obtain ⟨w3, hw3⟩ : ∃ W, (w2.alloc (.cells zc.toArray 63)).setCells w2.heap.size 0 qk = W := ⟨_, rfl⟩
 rw [hw3] at hF1 hF2 hF3 hF4 ⊢
 clear hw3
 have hc0 := hk0 _ _ hF1
 have k3 : Kept w R Q w3 := (((Kept.refl w R Q).below hB1).trans k2).below hF2
 have z2 := k2.size
 rw [← hqk.out] at hF1
 have V3 : MV w Q R w.heap.size w2.heap.size 119 (Ms.plain 8 0 0 Vt.zero zeros32).cells s0 w3 := ⟨hF1, hF4, there_below (there_blk ht1 (k2.block _ hs1 (by omega) (by omega))) hF2 (by omega), k3, S2.below hF2, by have := hF2.size; omega, by omega, Nat.le_refl _, by have := hB1.size; omega, by omega, hRw, hQw⟩
 have hww : w.heap.size < w2.heap.size := by omega
 clear hF1 hF2 hF4 ht1 hB1 S1 S2 k2 k3 hk0 hbk hql hq1 hiq hqk h ck hzr hzl
 go_upto_region 2 with fail
 try simp only [Act.put]
 refine pl_begin ?_
 refine pl_t 7 (?_) (by rfl) ?_ rfl ?_
 rotate_left
 ·go_simp
  try with_reducible rfl
 simp only [nz]
 refine pl_t 8 (.int .i64 8) (by rfl) (pl_one rfl rfl hc0 Tryz.underlying3 rfl) rfl ?_
 simp only [nz]
 refine pl_nil ?_
 clear hc0
 go_upto_region 20 with fail
 try simp only [Act.put]
 refine pl_begin ?_
 refine pl_t 106 (?_) (by rfl) ?_ rfl ?_
 rotate_left
 ·go_simp
  try with_reducible rfl
 simp only [nz]
 refine pl_t 107 (?_) (by rfl) ?_ rfl ?_
 rotate_left
 ·go_simp
  try with_reducible rfl
 simp only [nz]
 refine pl_t 108 (?_) (by rfl) ?_ rfl ?_
 rotate_left
 ·go_simp
  try with_reducible rfl
 simp only [nz]
 refine pl_t 109 (.pointer (some ⟨R, 0, none⟩)) (by rfl) (pl_one rfl rfl V3.rs.mr.c0 Tryz.underlying72 rfl) rfl ?_
 simp only [nz]
 refine pl_call (d := some 110) (by rfl) (by go_simp; first | done | exact ⟨rfl, rfl⟩ | with_reducible rfl) rfl ?_
 refine (c_a w3 V3.rs).mono ?_
 rintro _ w5 ⟨rfl, S5, k5⟩
 refine ⟨_, rfl, ?_⟩
 simp only [nz]
 refine pl_t 111 (?_) (by rfl) ?_ rfl ?_
 rotate_left
 ·go_simp
  try with_reducible rfl
 simp only [nz]
 have V5 := V3.on k5 S5
 have Va := V5.set 117 [.string v_a] (put_st v_a Vt.zero_ok zeros32_len Vt.zero_ok V5.row (V5.part 117 1 (by decide)))
 refine pl_store (w' := w5.setCells w2.heap.size 117 [.string v_a]) (by rfl) (ex_put1 (n := 119) rfl rfl rfl V5.box (by decide) iszStr rfl rfl) rfl ?_
 refine pl_nil ?_
 obtain ⟨w6, hw6⟩ : ∃ W, w5.setCells w2.heap.size 117 [.string v_a] = W := ⟨_, rfl⟩
 rw [hw6] at Va ⊢
 clear hw6
 clear V5 V3 S5 k5
 go_upto_region 21 with fail
 try simp only [Act.put]
 refine pl_begin ?_
 refine pl_t 112 (?_) (by rfl) ?_ rfl ?_
 rotate_left
 ·go_simp
  try with_reducible rfl
 simp only [nz]
 refine pl_t 113 (?_) (by rfl) ?_ rfl ?_
 rotate_left
 ·go_simp
  try with_reducible rfl
 simp only [nz]
 refine pl_t 114 (?_) (by rfl) ?_ rfl ?_
 rotate_left
 ·go_simp
  try with_reducible rfl
 simp only [nz]
 refine pl_t 115 (.pointer (some ⟨R, 0, none⟩)) (by rfl) (pl_one rfl rfl Va.rs.mr.c0 Tryz.underlying72 rfl) rfl ?_
 simp only [nz]
 refine pl_t 116 (?_) (by rfl) ?_ rfl ?_
 rotate_left
 ·go_simp
  try with_reducible rfl
 simp only [nz]
 refine pl_t 117 (?_) (by rfl) ?_ rfl ?_
 rotate_left
 ·go_simp
  try with_reducible rfl
 simp only [nz]
 refine pl_t 118 (?_) (by rfl) ?_ rfl ?_
 rotate_left
 ·go_simp
  try with_reducible rfl
 simp only [nz]
 refine pl_call (d := some 119) (by rfl) (by go_simp; first | done | exact ⟨rfl, rfl⟩ | with_reducible rfl) rfl ?_
 refine (c_b w6 Va.rs).mono ?_
 rintro _ wd ⟨x, rfl, hx, hA, hB, Sd, kd⟩
 refine ⟨_, rfl, ?_⟩
 simp only [nz]
 refine pl_t 120 (?_) (by rfl) ?_ rfl ?_
 rotate_left
 ·go_simp
  try with_reducible rfl
 simp only [nz]
 have Vd := Va.on kd Sd
 have Ve := Vd.set 118 [x.val] (put_sg x.val Vt.zero_ok zeros32_len Vt.zero_ok Vd.row (Vd.part 118 1 (by decide)))
 have lb := Va.lb
 have la := Va.la
 have na := Va.kept.size
 refine pl_store (w' := wd.setCells w2.heap.size 118 [x.val]) (by rfl) (ex_put1 (n := 119) rfl rfl rfl Vd.box (by decide) iszSgs rfl rfl) rfl ?_
 refine pl_nil ?_
 have hA1 := hA.put (B := w2.heap.size) (o := 118) (vs := [x.val]) hB (fun b hb => by omega)
 obtain ⟨we, hwe⟩ : ∃ W, wd.setCells w2.heap.size 118 [x.val] = W := ⟨_, rfl⟩
 rw [hwe] at Ve hA1 ⊢
 clear hwe
 clear Vd Sd kd Va hA
 have rpc := Ve.row
 have hmo : Mg.ok ⟨8, 0, 0, 0, 0, false, ⟨none, 0, []⟩, Vt.zero, 0, 0, 0, ⟨none, 0, []⟩, ⟨none, 0, []⟩, zeros32, Vt.zero, ⟨none, 0, []⟩, v_a, x⟩ := ⟨Vt.zero_ok, Vt.zero_ok, zeros32_len, zeros32_byte⟩
 have hpl : (Mg.ms ⟨8, 0, 0, 0, 0, false, ⟨none, 0, []⟩, Vt.zero, 0, 0, 0, ⟨none, 0, []⟩, ⟨none, 0, []⟩, zeros32, Vt.zero, ⟨none, 0, []⟩, v_a, x⟩).cells.length = 119 := hmo.ms.len
 have hp1 := hmo.ms.one
 have hip : (Tryz.prog.info? 63).map (·.size) = some (Mg.ms ⟨8, 0, 0, 0, 0, false, ⟨none, 0, []⟩, Vt.zero, 0, 0, 0, ⟨none, 0, []⟩, ⟨none, 0, []⟩, zeros32, Vt.zero, ⟨none, 0, []⟩, v_a, x⟩).cells.length := by rw [hpl]; exact iszM
 have rpc : we.rangeAt w2.heap.size 0 (Mg.ms ⟨8, 0, 0, 0, 0, false, ⟨none, 0, []⟩, Vt.zero, 0, 0, 0, ⟨none, 0, []⟩, ⟨none, 0, []⟩, zeros32, Vt.zero, ⟨none, 0, []⟩, v_a, x⟩).cells := rpc
 obtain ⟨pc, hpc⟩ : ∃ p, Hid ((Mg.ms ⟨8, 0, 0, 0, 0, false, ⟨none, 0, []⟩, Vt.zero, 0, 0, 0, ⟨none, 0, []⟩, ⟨none, 0, []⟩, zeros32, Vt.zero, ⟨none, 0, []⟩, v_a, x⟩).cells = p) := ⟨_, hide rfl⟩
 simp only [hpc.out] at hpl hip hp1 rpc
 go_upto_region 22 with fail
 try simp only [Act.put]
 refine pl_begin ?_
 refine pl_t 121 (.agg pc.toArray) (by rfl) (ex_mid rfl rfl rpc Tryz.underlying63 rfl hip) rfl ?_
 simp only [nz]
 refine pl_store (w' := we.setCells w.heap.size 0 pc) (by rfl) (ex_put (cs := pc.toArray) rfl rfl rfl (by simpa [hpl] using Ve.ans) (by simpa using hip) (all_one hp1)) rfl ?_
 refine pl_nil ?_
 have hlow : Below w.heap.size we (we.setCells w.heap.size 0 pc) := below_sets (Nat.le_refl _) pc 0 _ (Below.refl _ we)
 have hrs := run_loadVar_mid (P := Tryz.prog) (we.setCells w.heap.size 0 pc) w.heap.size 0 63 pc _ (World.rangeAt_setCells_same we w.heap.size 0 pc (by rw [hpl]; exact Ve.ans)) Tryz.underlying63 rfl hip
 have HF : Hid (∃ m : Mg, Ending.returned (.agg pc.toArray) = .returned (.agg m.ms.cells.toArray) ∧ m.pure = (⟨8, 0, 0, 0, 0, false, [], Vt.zero, 0, 0, 0, [], [], zeros32, Vt.zero, [], v_a, v_b⟩ : Mp) ∧ m.ok ∧ m.At (we.setCells w.heap.size 0 pc) ∧ m.Bk (fun b => w.heap.size ≤ b) ∧ RS (we.setCells w.heap.size 0 pc) Q R s_b ∧ Kept w R Q (we.setCells w.heap.size 0 pc)) := hide ⟨⟨8, 0, 0, 0, 0, false, ⟨none, 0, []⟩, Vt.zero, 0, 0, 0, ⟨none, 0, []⟩, ⟨none, 0, []⟩, zeros32, Vt.zero, ⟨none, 0, []⟩, v_a, x⟩, by rw [hpc.out], by rw [← hx]; rfl, hmo, mg0_at RowsAt.none hds_none RowsAt.none RowsAt.none (hA1.put hB (fun b hb => by omega)), ⟨no_bk, no_bk, no_bk2, no_bk, no_bk, hB.mono (fun b hb => by omega)⟩, Ve.rs.low hlow hQw, Ve.kept.low hlow (Nat.le_refl _)⟩
 clear Ve hlow rpc hpc hmo hA1 hB hx
 go_wp2_with fail
 refine bodyPost_ret (v := .agg pc.toArray) ?_ rfl ?_
 ·simp [results, Tryz.results112, Act.put, asAddr, hrs]
 ·exact HF.out
theorem rmsgS (Q R : Nat) (s : Rst) (w : World) (h : RS w Q R s) (hl : s.1.length ≤ 40000) : Calls Tryz.prog 112 #[.pointer (some ⟨Q, 0, none⟩)] w fun en w' => ∃ m : Mg, en = .returned (.agg m.ms.cells.toArray) ∧ m.pure = (mgS s).1 ∧ m.ok ∧ m.At w' ∧ m.Bk (fun b => w.heap.size ≤ b) ∧ RS w' Q R (mgS s).2 ∧ Kept w R Q w' := by
 unfold mgS mgF
 by_cases n1 : (kiS 8 s).1 = 1
 ·rw [if_pos n1]; exact rmsgK1 Q R s w h hl n1
 rw [if_neg n1]
 by_cases n2 : (kiS 8 s).1 = 2
 ·rw [if_pos n2]; exact rmsgK2 Q R s w h hl n2
 rw [if_neg n2]
 by_cases n3 : (kiS 8 s).1 = 3
 ·rw [if_pos n3]; exact rmsgK3 Q R s w h hl n3
 rw [if_neg n3]
 by_cases n4 : (kiS 8 s).1 = 4
 ·rw [if_pos n4]; exact rmsgK4 Q R s w h hl n4
 rw [if_neg n4]
 by_cases n5 : (kiS 8 s).1 = 5
 ·rw [if_pos n5]; exact rmsgK5 Q R s w h hl n5
 rw [if_neg n5]
 by_cases n6 : (kiS 8 s).1 = 6
 ·rw [if_pos n6]; exact rmsgK6 Q R s w h hl n6
 rw [if_neg n6]
 by_cases n7 : (kiS 8 s).1 = 7
 ·rw [if_pos n7]; exact rmsgK7 Q R s w h hl n7
 rw [if_neg n7]
 by_cases n8 : (kiS 8 s).1 = 8
 ·rw [if_pos n8]; exact rmsgK8 Q R s w h hl n8
 rw [if_neg n8]
 exact rmsgK0 Q R s w h hl n1 n2 n3 n4 n5 n6 n7 n8
set_option maxRecDepth 100000 in
set_option maxHeartbeats 2000000 in
theorem newReaderS (s : ByteArray) (hs : s.size ≤ 1099511627) (w : World) : Calls Tryz.prog 111 #[.string s] w fun e w' => ∃ Q R, e = .returned (.pointer (some ⟨Q, 0, none⟩)) ∧ w.heap.size ≤ R ∧ RS w' Q R (strL s, 0, false) ∧ Below w.heap.size w w' := by
 obtain ⟨c, w1, hc, hr, hB⟩ := bytes_of s hs w
 have hl : (strL s).length ≤ 549755813888 := by rw [strL_length]; omega
 have cr := read_any (some ⟨w.heap.size, 0, none⟩) c (strL s) w1 hr hl
 generalize strL s = zs at *
 go_enter Tryz.func111, Tryz.ntmps111
 go_wp2_with fail
 refine cr.mono ?_
 rintro e w2 ⟨R, rfl, hR, hSt, hb2⟩
 have hB2 := hB.trans (hb2.mono hB.size)
 have hB3 : Below w2.heap.size w2 (w2.alloc (.cells #[.pointer (some ⟨R, 0, none⟩), .bool false] 184)) := (Below.refl _ _).alloc (Nat.le_refl _) _
 have hB4 := hB2.trans (hB3.mono hB2.size)
 have hRl := hSt.1.1
 have hSt3 := hSt.below hB3
 have hQ : MrAt (w2.alloc (.cells #[.pointer (some ⟨R, 0, none⟩), .bool false] 184)) w2.heap.size R false :=
  ⟨by simp, hRl, World.cell?_alloc_at _ _ _ _ rfl, World.cell?_alloc_at _ _ _ _ rfl, World.frozen?_alloc_at _ _ _ _ rfl⟩
 have hQt := there_newN w2 #[.pointer (some ⟨R, 0, none⟩), .bool false] 184 (n := 2) rfl
 have hRw : w.heap.size ≤ R := by have := hB.size; omega
 clear cr hc hr hSt hB3 hB2 hb2 hB
 go_wp2_with fail
 go_ret
 exact ⟨_, R, rfl, hRw, ⟨hSt3, hQ, hQt⟩, hB4⟩
def faE (s : Rst) : Int := if s.2.2 = true then 130 else doneE s.1 s.2.1
set_option maxRecDepth 100000 in
set_option maxHeartbeats 1000000 in
theorem faultS (Q R : Nat) (s : Rst) (w : World) (h : RS w Q R s) : Calls Tryz.prog 113 #[.pointer (some ⟨Q, 0, none⟩)] w fun en w' => en = .returned (.int .i64 (faE s)) ∧ w' = w := by
 obtain ⟨rest, e, z⟩ := s
 unfold faE
 cases z
 ·exact fault_ok Q R rest e w h.st h.mr
 ·have c0 := h.mr.c0
  have c1 := h.mr.c1
  simp only at c0 c1
  clear h
  go_enter Tryz.func113, Tryz.ntmps113
  go_wp2_with fail
  go_ret
  exact ⟨rfl, rfl⟩
def Mp.none : Mp := ⟨0, 0, 0, 0, 0, false, [], Vt.zero, 0, 0, 0, [], [], zeros32, Vt.zero, [], ⟨#[]⟩, []⟩
def decS (zs : List Int) : Mp × Int := if faE (mgS (zs, 0, false)).2 = 0 then ((mgS (zs, 0, false)).1, 0) else (Mp.none, faE (mgS (zs, 0, false)).2)
def Mg.none : Mg := ⟨0, 0, 0, 0, 0, false, ⟨Option.none, 0, []⟩, Vt.zero, 0, 0, 0, ⟨Option.none, 0, []⟩, ⟨Option.none, 0, []⟩, zeros32, Vt.zero, ⟨Option.none, 0, []⟩, ⟨#[]⟩, ⟨Option.none, 0, []⟩⟩
theorem Mg.none_ok : Mg.none.ok := ⟨Vt.zero_ok, Vt.zero_ok, zeros32_len, zeros32_byte⟩
theorem Mg.none_at (w : World) : Mg.none.At w := mg0_at RowsAt.none hds_none RowsAt.none RowsAt.none RowsAt.none
theorem Mg.At.put {m : Mg} {W : World} {n o : Nat} {vs : List Value} (h : m.At W) (k : Mg.Bk m (fun b => n < b)) : m.At (W.setCells n o vs) := by
 obtain ⟨k1, k2, k2', k3, k4, k5⟩ := k
 have f : ∀ b, n < b → b ≠ n := fun b hb => by omega
 exact ⟨h.rs.put k1 f, h.he.put k2 k2' f, h.ne.put k3 f, h.cs.put k4 f, h.sg.put k5 f⟩
theorem build_none (w : World) : (Instr.build 63 #[]).run Tryz.prog w = .ok (.agg Mg.none.ms.cells.toArray) w := build_msg #[] _ w rfl
set_option maxRecDepth 100000 in
set_option maxHeartbeats 1000000 in
theorem decode_any (sb : ByteArray) (hs : sb.size ≤ 40000) (w : World) : Calls Tryz.prog 77 #[.string sb] w fun en w' => ∃ m : Mg, en = .returned (.tuple #[.agg m.ms.cells.toArray, .int .i64 (decS (strL sb)).2]) ∧ m.pure = (decS (strL sb)).1 ∧ m.ok ∧ m.At w' ∧ m.Bk (fun b => w.heap.size ≤ b) ∧ Below w.heap.size w w' := by
 obtain ⟨zc, hzc, hzl, hz1, hzr, hb0⟩ : ∃ z : List Value, Hid (z = Mg.none.ms.cells) ∧ z.length = 119 ∧ (∀ v ∈ z, v.oneCell' = true) ∧ (∀ w : World, (zeroValue 63).run Tryz.prog w = .ok (.agg z.toArray) w) ∧ ∀ w : World, (Instr.build 63 #[]).run Tryz.prog w = .ok (.agg z.toArray) w := ⟨_, hide rfl, Mg.none_ok.ms.len, Mg.none_ok.ms.one, zeroM, build_none⟩
 have hiz : (Tryz.prog.info? 63).map (·.size) = some zc.length := by rw [hzl]; exact iszM
 have cn := fun w0 => newReaderS sb (by omega) w0
 have cr := fun Q R w0 h0 => rmsgS Q R (strL sb, 0, false) w0 h0 (by show (strL sb).length ≤ 40000; rw [strL_length]; exact hs)
 have hs' : (sb.size : Int) ≤ 4194304 := by omega
 unfold decS
 generalize strL sb = zs at cn cr ⊢
 generalize mgS (zs, 0, false) = p_ at cr ⊢
 obtain ⟨mp, t⟩ := p_
 simp only at cr ⊢
 have cf := fun Q R w0 h0 => faultS Q R t w0 h0
 generalize faE t = f at cf ⊢
 obtain ⟨hB1, hr1, hs1⟩ := boxed_new w zc 63
 have ht1 := there_newN w zc.toArray 63 (n := 119) (by simp [hzl])
 go_enter Tryz.func77, Tryz.ntmps77
 go_upto_region 0 with fail
 try simp only [Act.put]
 refine pl_begin ?_
 refine pl_run (d := some 2) (v := .pointer (some ⟨w.heap.size, 0, none⟩)) (w' := w.alloc (.cells zc.toArray 63)) (by rfl) (ex_alloc rfl (hzr _)) rfl ?_
 simp only [nz]
 refine pl_t 3 (?_) (by rfl) ?_ rfl ?_
 rotate_left
 ·go_simp
  try with_reducible rfl
 simp only [nz]
 refine pl_nil ?_
 obtain ⟨W1, hW1⟩ : ∃ W, w.alloc (.cells zc.toArray 63) = W := ⟨_, rfl⟩
 rw [hW1] at hB1 hr1 hs1 ht1 ⊢
 clear hW1 hr1
 go_upto_region 3 with fail
 try simp only [Act.put]
 refine pl_begin ?_
 refine pl_t 11 (?_) (by rfl) ?_ rfl ?_
 rotate_left
 ·go_simp
  try with_reducible rfl
 simp only [nz]
 refine pl_call (d := some 12) (by rfl) (by go_simp; first | done | exact ⟨rfl, rfl⟩ | with_reducible rfl) rfl ?_
 refine (cn W1).mono ?_
 rintro _ w2 ⟨Q, R, rfl, hRw, S2, hb2⟩
 refine ⟨_, rfl, ?_⟩
 simp only [nz]
 refine pl_t 4 (?_) (by rfl) ?_ rfl ?_
 rotate_left
 ·go_simp
  try with_reducible rfl
 simp only [nz]
 refine pl_nil ?_
 have hT2 := there_below ht1 hb2 hs1
 have hRQ := S2.mr.ne
 have hB2 := hB1.trans (hb2.mono hB1.size)
 have z2 := hb2.size
 clear cn
 go_upto_region 4 with fail
 try simp only [Act.put]
 refine pl_begin ?_
 refine pl_t 13 (?_) (by rfl) ?_ rfl ?_
 rotate_left
 ·go_simp
  try with_reducible rfl
 simp only [nz]
 refine pl_call (d := some 14) (by rfl) (by go_simp; first | done | exact ⟨rfl, rfl⟩ | with_reducible rfl) rfl ?_
 refine (cr Q R w2 S2).mono ?_
 rintro _ w3 ⟨m, rfl, hp, hmo, hA, hB, S3, k3⟩
 refine ⟨_, rfl, ?_⟩
 simp only [nz]
 have hql := hmo.ms.len
 have hq1 := hmo.ms.one
 have hiq : (Tryz.prog.info? 63).map (·.size) = some m.ms.cells.length := by rw [hql]; exact iszM
 obtain ⟨q, hqq⟩ : ∃ q, Hid (m.ms.cells = q) := ⟨_, hide rfl⟩
 simp only [hqq.out] at hql hq1 hiq ⊢
 refine pl_run (d := some 5) (v := .pointer (some ⟨w3.heap.size, 0, none⟩)) (w' := w3.alloc (.cells zc.toArray 63)) (by rfl) (ex_alloc rfl (hzr _)) rfl ?_
 simp only [nz]
 refine pl_store (w' := (w3.alloc (.cells zc.toArray 63)).setCells w3.heap.size 0 q) (by rfl) (ex_put (cs := q.toArray) rfl rfl rfl (there_newN _ _ _ (by simp [hzl, hql])) (by simpa using hiq) (all_one hq1)) rfl ?_
 refine pl_nil ?_
 obtain ⟨r4, hF2, hF3, -⟩ := fresh_store w3 zc.toArray 63 q (by simp [hzl, hql])
 have hT3 := there_blk hT2 (k3.block w.heap.size (by omega) (by omega) (by omega))
 have hB3 : Below w.heap.size w w3 := k3.to hB2 (by omega) (by omega)
 have z3 := k3.size
 obtain ⟨w4, hw4⟩ : ∃ W, (w3.alloc (.cells zc.toArray 63)).setCells w3.heap.size 0 q = W := ⟨_, rfl⟩
 rw [hw4] at r4 hF2 hF3 ⊢
 clear hw4
 have S4 := S3.below hF2
 have hT4 := there_below hT3 hF2 (by omega)
 have hB4 := hB3.trans (hF2.mono hB3.size)
 have hA4 := hA.below hF2
 have cf := cf Q R
 have hBk : m.Bk (fun b => w.heap.size < b) := ⟨hB.1.mono (fun b hb => by omega), hB.2.1.mono (fun b hb => by omega), fun y hy => (hB.2.2.1 y hy).mono (fun b hb => by omega), hB.2.2.2.1.mono (fun b hb => by omega), hB.2.2.2.2.1.mono (fun b hb => by omega), hB.2.2.2.2.2.mono (fun b hb => by omega)⟩
 have hBk0 : m.Bk (fun b => w.heap.size ≤ b) := ⟨hB.1.mono (fun b hb => by omega), hB.2.1.mono (fun b hb => by omega), fun y hy => (hB.2.2.1 y hy).mono (fun b hb => by omega), hB.2.2.2.1.mono (fun b hb => by omega), hB.2.2.2.2.1.mono (fun b hb => by omega), hB.2.2.2.2.2.mono (fun b hb => by omega)⟩
 have B9 := fun vs => below_sets (Nat.le_refl w.heap.size) vs 0 _ hB4
 have A9 := fun vs => Mg.At.put (o := 0) (vs := vs) hA4 hBk
 have HM := hide (show m.pure = mp ∧ m.ok ∧ m.Bk (fun b => w.heap.size ≤ b) from ⟨hp, hmo, hBk0⟩)
 clear hF2 hA hB hBk hBk0 hT3 hB3 S3 k3 hT2 hB2 hp hmo hA4 cr S2 hb2
 go_upto_region 5 with fail
 try simp only [Act.put]
 refine pl_begin ?_
 refine pl_t 15 (?_) (by rfl) ?_ rfl ?_
 rotate_left
 ·go_simp
  try with_reducible rfl
 simp only [nz]
 refine pl_call (d := some 16) (by rfl) (by go_simp; first | done | exact ⟨rfl, rfl⟩ | with_reducible rfl) rfl ?_
 refine (cf w4 S4).mono ?_
 rintro _ w5 ⟨rfl, hx⟩
 obtain rfl := hx.symm
 clear hx
 refine ⟨_, rfl, ?_⟩
 simp only [nz]
 refine pl_t 6 (?_) (by rfl) ?_ rfl ?_
 rotate_left
 ·go_simp
  try with_reducible rfl
 simp only [nz]
 refine pl_nil ?_
 clear cf S4
 by_cases hf : f = 0
 ·subst hf
  go_upto_region 8 with fail
  try simp only [Act.put]
  refine pl_begin ?_
  refine pl_t 21 (.agg q.toArray) (by rfl) (ex_mid rfl rfl r4 Tryz.underlying63 rfl hiq) rfl ?_
  simp only [nz]
  refine pl_store (w' := w4.setCells w.heap.size 0 q) (by rfl) (ex_put (cs := q.toArray) rfl rfl rfl (by simpa [hql] using hT4) (by simpa using hiq) (all_one hq1)) rfl ?_
  refine pl_t 3 (?_) (by rfl) ?_ rfl ?_
  rotate_left
  ·go_simp
   try with_reducible rfl
  simp only [nz]
  refine pl_nil ?_
  have hrs := run_loadVar_mid (P := Tryz.prog) (w4.setCells w.heap.size 0 q) w.heap.size 0 63 q _ (World.rangeAt_setCells_same w4 w.heap.size 0 q (by rw [hql]; exact hT4)) Tryz.underlying63 rfl hiq
  have HF : Hid (∃ g : Mg, Ending.returned (.tuple #[.agg q.toArray, .int .i64 0]) = .returned (.tuple #[.agg g.ms.cells.toArray, .int .i64 0]) ∧ g.pure = mp ∧ g.ok ∧ g.At (w4.setCells w.heap.size 0 q) ∧ g.Bk (fun b => w.heap.size ≤ b) ∧ Below w.heap.size w (w4.setCells w.heap.size 0 q)) := hide ⟨m, by rw [hqq.out], HM.out.1, HM.out.2.1, A9 q, HM.out.2.2, B9 q⟩
  clear HM A9 B9 r4 hT4 hB4 hqq
  go_wp2_with fail
  refine bodyPost_ret (results_ct rfl _ _ _ rfl hrs) rfl ?_
  exact HF.out
 ·have hfb : (f != 0) = true := by simpa using hf
  go_upto_region 7 with fail
  try simp only [Act.put]
  refine pl_begin ?_
  refine pl_t 19 (.agg zc.toArray) (by rfl) (ex_build (parts := []) rfl rfl (hb0 _)) rfl ?_
  simp only [nz]
  refine pl_t 20 (?_) (by rfl) ?_ rfl ?_
  rotate_left
  ·go_simp
   try with_reducible rfl
  simp only [nz]
  refine pl_store (w' := w4.setCells w.heap.size 0 zc) (by rfl) (ex_put (cs := zc.toArray) rfl rfl rfl (by simpa [hzl] using hT4) (by simpa using hiz) (all_one hz1)) rfl ?_
  refine pl_t 3 (?_) (by rfl) ?_ rfl ?_
  rotate_left
  ·go_simp
   try with_reducible rfl
  simp only [nz]
  refine pl_nil ?_
  have hrs := run_loadVar_mid (P := Tryz.prog) (w4.setCells w.heap.size 0 zc) w.heap.size 0 63 zc _ (World.rangeAt_setCells_same w4 w.heap.size 0 zc (by rw [hzl]; exact hT4)) Tryz.underlying63 rfl hiz
  have HF : Hid (∃ g : Mg, Ending.returned (.tuple #[.agg zc.toArray, .int .i64 f]) = .returned (.tuple #[.agg g.ms.cells.toArray, .int .i64 f]) ∧ g.pure = Mp.none ∧ g.ok ∧ g.At (w4.setCells w.heap.size 0 zc) ∧ g.Bk (fun b => w.heap.size ≤ b) ∧ Below w.heap.size w (w4.setCells w.heap.size 0 zc)) := hide ⟨Mg.none, by rw [hzc.out], rfl, Mg.none_ok, Mg.none_at _, ⟨no_bk, no_bk, no_bk2, no_bk, no_bk, no_bk⟩, B9 zc⟩
  clear HM A9 B9 r4 hT4 hB4 hqq hzc
  go_wp2_with fail
  refine bodyPost_ret (results_ct rfl _ _ _ rfl hrs) rfl ?_
  first | exact HF.out | (rw [if_neg hf]; exact HF.out) | (simp only [if_neg hf]; exact HF.out)
structure XW (w : World) (D X A B n : Nat) (q : List Value) (s : Xst) (W : World) : Prop where
  row : W.rangeAt B 0 q
  box : W.there B 0 n
  ans : W.there A 0 n
  gr : w.grownBy W (some X)
  rs : XR W D X s
  la : A < W.heap.size
  lb : B < W.heap.size
  na : w.heap.size ≤ A
  nb : w.heap.size ≤ B
  ne : A ≠ B
  lx : X < w.heap.size
theorem XW.on {w W W' : World} {D X A B n : Nat} {q : List Value} {s s' : Xst} (h : XW w D X A B n q s W) (g : W.grownBy W' (some X)) (S : XR W' D X s') : XW w D X A B n q s' W' := by
 have h1 := h.na
 have h2 := h.nb
 have h3 := h.lx
 exact ⟨range_gbR h.row g h.lb (by omega), there_gbR h.box g h.lb (by omega), there_gbR h.ans g h.la (by omega), gb_trans h.gr g, S, Nat.lt_of_lt_of_le h.la g.size, Nat.lt_of_lt_of_le h.lb g.size, h1, h2, h.ne, h3⟩
theorem XW.set {w W : World} {D X A B n : Nat} {q q' : List Value} {s : Xst} (h : XW w D X A B n q s W) (o : Nat) (vs : List Value) (hq : (W.setCells B o vs).rangeAt B 0 q') : XW w D X A B n q' s (W.setCells B o vs) := by
 have h2 := h.nb
 have h3 := h.lx
 have lo : Below w.heap.size W (W.setCells B o vs) := below_sets h2 vs o _ (Below.refl _ W)
 exact ⟨hq, World.there_setCells h.box _ _ _, World.there_setCells h.ans _ _ _, gb_onR h.gr lo (Nat.le_refl _), h.rs.low lo h3, by rw [size_sets]; exact h.la, by rw [size_sets]; exact h.lb, h.na, h2, h.ne, h3⟩
theorem XW.part {w W : World} {D X A B n : Nat} {q : List Value} {s : Xst} (h : XW w D X A B n q s W) (o m : Nat) (hm : o + m ≤ n) : W.there B o m := there_part1 h.box hm
theorem exec_conv {P : Program} {o : Oper} {a : Act} {w w' : World} {t e : TypeId} {x : Operand} {v v' : Value} (ho : o.op = .convert t e x) (hx : a.eval x = v) (hr : (convert t e v).run P w = .ok v' w') : (execOp a.eval o).run P w = .ok (.value v') w' := by
 unfold execOp
 simp only [ho, hx, Sem.run_bind, hr, Result.andThen_ok, Sem.run_pure]
def cod (s : Rst) : Int := if s.2.2 = true then 130 else s.2.1
def Sim (s : Rst) (t : Xst) : Prop := (s = (t.1, 0, false) ∧ t.2 = 0) ∨ (cod s ≠ 0 ∧ t.2 = cod s)
structure Pair {α : Type} (f : Rst → α × Rst) (xf : Xst → α × Xst) : Prop where
  bad : ∀ s, cod s ≠ 0 → cod (f s).2 = cod s
  xbad : ∀ t, t.2 ≠ 0 → (xf t).2.2 = t.2
  ok : ∀ r, Sim (f (r, 0, false)).2 (xf (r, 0)).2 ∧ (cod (f (r, 0, false)).2 = 0 → (f (r, 0, false)).1 = (xf (r, 0)).1)
theorem Sim.good {s : Rst} {t : Xst} (h : Sim s t) (h0 : cod s = 0) : s = (t.1, 0, false) ∧ t.2 = 0 := by
 rcases h with h | h
 ·exact h
 ·exact absurd h0 h.1
theorem Pair.go {α : Type} {f : Rst → α × Rst} {xf : Xst → α × Xst} (p : Pair f xf) {s : Rst} {t : Xst} (h : Sim s t) : Sim (f s).2 (xf t).2 ∧ (cod (f s).2 = 0 → (f s).1 = (xf t).1) := by
 rcases h with ⟨h1, h2⟩ | ⟨h1, h2⟩
 ·obtain ⟨r, e⟩ := t
  subst h1
  have h2 : e = 0 := h2
  subst h2
  exact p.ok r
 ·have c := p.bad s h1
  refine ⟨.inr ⟨by rw [c]; exact h1, ?_⟩, fun q => absurd (c.symm.trans q) h1⟩
  rw [p.xbad t (by rw [h2]; exact h1), h2, c]
theorem Pair.simple {α : Type} (g : List Int → Int → α × List Int × Int) (hg : ∀ r e, e ≠ 0 → (g r e).2.2 = e) : Pair (fun s => ((g s.1 s.2.1).1, (g s.1 s.2.1).2.1, (g s.1 s.2.1).2.2, s.2.2)) (fun t => ((g t.1 t.2).1, (g t.1 t.2).2)) := by
 refine ⟨fun s h => ?_, fun t h => hg _ _ h, fun r => ⟨?_, fun _ => rfl⟩⟩
 ·obtain ⟨r, e, z⟩ := s
  cases z
  ·exact hg r e h
  ·rfl
 ·show Sim ((g r 0).2.1, (g r 0).2.2, false) (g r 0).2
  by_cases q : (g r 0).2.2 = 0
  ·exact .inl ⟨by rw [q], q⟩
  ·exact .inr ⟨q, rfl⟩
theorem Pair.bind {α β γ : Type} {f : Rst → α × Rst} {xf : Xst → α × Xst} {g : Rst → β × Rst} {xg : Xst → β × Xst} (h : α → β → γ) (p : Pair f xf) (q : Pair g xg) : Pair (fun s => (h (f s).1 (g (f s).2).1, (g (f s).2).2)) (fun t => (h (xf t).1 (xg (xf t).2).1, (xg (xf t).2).2)) := by
 refine ⟨fun s hs => ?_, fun t ht => ?_, fun r => ?_⟩
 ·show cod (g (f s).2).2 = cod s
  rw [q.bad _ (by rw [p.bad s hs]; exact hs), p.bad s hs]
 ·show (xg (xf t).2).2.2 = t.2
  rw [q.xbad _ (by rw [p.xbad t ht]; exact ht), p.xbad t ht]
 ·obtain ⟨h1, h2⟩ := p.ok r
  obtain ⟨h3, h4⟩ := q.go h1
  refine ⟨h3, fun hc => ?_⟩
  have hc1 : cod (f (r, 0, false)).2 = 0 := by
   by_cases c : cod (f (r, 0, false)).2 = 0
   ·exact c
   ·exact absurd ((q.bad _ c).symm.trans hc) c
  show h _ _ = h _ _
  rw [h2 hc1, h4 hc]
theorem Pair.map {α β : Type} {f : Rst → α × Rst} {xf : Xst → α × Xst} (h : α → β) (p : Pair f xf) : Pair (fun s => (h (f s).1, (f s).2)) (fun t => (h (xf t).1, (xf t).2)) :=
 ⟨p.bad, p.xbad, fun r => ⟨(p.ok r).1, fun hc => by show h _ = h _; rw [(p.ok r).2 hc]⟩⟩
theorem Pair.pure {α : Type} (a : α) : Pair (fun s => (a, s)) (fun t => (a, t)) := ⟨fun _ _ => rfl, fun _ _ => rfl, fun r => ⟨.inl ⟨rfl, rfl⟩, fun _ => rfl⟩⟩
theorem itG_bad {α : Type} {one : Rst → α × Rst} (h : ∀ s, cod s ≠ 0 → cod (one s).2 = cod s) {s : Rst} (hs : cod s ≠ 0) : ∀ k, cod (itG one s k).2 = cod s := by
 intro k
 induction k with
 | zero => rfl
 | succ k ih => show cod (one (itG one s k).2).2 = _; rw [h _ (by rw [ih]; exact hs), ih]
theorem numS_bad (most : Int) (r : List Int) (e : Int) (h : e ≠ 0) : (numS r e most).2.2 = e := by
 unfold numS
 rw [if_neg h]
theorem textS_bad (most : Int) (r : List Int) (e : Int) (h : e ≠ 0) : (textS r e most).2.2 = e := by
 have := numS_bad 9223372036854775807 r e h
 unfold textS
 rw [if_neg (by rw [this]; exact h)]
 exact this
theorem rawS_bad (n : Int) (r : List Int) (e : Int) (h : e ≠ 0) : (rawS r e n).2.2 = e := by
 unfold rawS
 rw [if_neg h]
def vt4 (v : Int) (r : List Int) (e : Int) : Vt × List Int × Int :=
  (⟨v, (numS r e 1048576).1, (numS (numS r e 1048576).2.1 (numS r e 1048576).2.2 1099511627776).1, (numS (numS (numS r e 1048576).2.1 (numS r e 1048576).2.2 1099511627776).2.1 (numS (numS r e 1048576).2.1 (numS r e 1048576).2.2 1099511627776).2.2 1099511627776).1, padN 32 (rawS (numS (numS (numS r e 1048576).2.1 (numS r e 1048576).2.2 1099511627776).2.1 (numS (numS r e 1048576).2.1 (numS r e 1048576).2.2 1099511627776).2.2 1099511627776).2.1 (numS (numS (numS r e 1048576).2.1 (numS r e 1048576).2.2 1099511627776).2.1 (numS (numS r e 1048576).2.1 (numS r e 1048576).2.2 1099511627776).2.2 1099511627776).2.2 32).1⟩, (rawS (numS (numS (numS r e 1048576).2.1 (numS r e 1048576).2.2 1099511627776).2.1 (numS (numS r e 1048576).2.1 (numS r e 1048576).2.2 1099511627776).2.2 1099511627776).2.1 (numS (numS (numS r e 1048576).2.1 (numS r e 1048576).2.2 1099511627776).2.1 (numS (numS r e 1048576).2.1 (numS r e 1048576).2.2 1099511627776).2.2 1099511627776).2.2 32).2)
structure Codec {α : Type} (f : Rst → α × Rst) (enc : α → List Int) (ok : α → Prop) : Prop where
  bad : ∀ s, cod s ≠ 0 → cod (f s).2 = cod s
  back : ∀ a q, ok a → f (enc a ++ q, 0, false) = (a, q, 0, false)
  form : ∀ r, Bs r → cod (f (r, 0, false)).2 = 0 → ∃ a q, ok a ∧ f (r, 0, false) = (a, q, 0, false) ∧ r = enc a ++ q
theorem Bs.right {a q : List Int} (h : Bs (a ++ q)) : Bs q := fun z hz => h z (List.mem_append_right _ hz)
theorem Bs.left {a q : List Int} (h : Bs (a ++ q)) : Bs a := fun z hz => h z (List.mem_append_left _ hz)
theorem cod0 {r : List Int} {e : Int} {z : Bool} (h : cod (r, e, z) = 0) : z = false ∧ e = 0 := by
 unfold cod at h
 cases z
 ·exact ⟨rfl, h⟩
 ·exact absurd h (show (130 : Int) ≠ 0 by decide)
theorem Codec.simple {α : Type} {g : List Int → Int → α × List Int × Int} {enc : α → List Int} {ok : α → Prop} (h1 : ∀ r e, e ≠ 0 → (g r e).2.2 = e) (h2 : ∀ a q, ok a → g (enc a ++ q) 0 = (a, q, 0)) (h3 : ∀ r, Bs r → (g r 0).2.2 = 0 → ∃ a q, ok a ∧ g r 0 = (a, q, 0) ∧ r = enc a ++ q) :
  Codec (fun s => ((g s.1 s.2.1).1, (g s.1 s.2.1).2.1, (g s.1 s.2.1).2.2, s.2.2)) enc ok := by
 refine ⟨fun s h => ?_, fun a q ha => ?_, fun r hb hc => ?_⟩
 ·obtain ⟨r, e, z⟩ := s
  cases z
  ·exact h1 r e h
  ·rfl
 ·show ((g (enc a ++ q) 0).1, (g (enc a ++ q) 0).2.1, (g (enc a ++ q) 0).2.2, false) = _
  rw [h2 a q ha]
 ·obtain ⟨a, q, k1, k2, k3⟩ := h3 r hb (cod0 hc).2
  exact ⟨a, q, k1, by show ((g r 0).1, (g r 0).2.1, (g r 0).2.2, false) = _; rw [k2], k3⟩
theorem Codec.bind {α β : Type} {f : Rst → α × Rst} {g : Rst → β × Rst} {e1 : α → List Int} {e2 : β → List Int} {o1 : α → Prop} {o2 : β → Prop} (p : Codec f e1 o1) (q : Codec g e2 o2) : Codec (fun s => (((f s).1, (g (f s).2).1), (g (f s).2).2)) (fun c => e1 c.1 ++ e2 c.2) (fun c => o1 c.1 ∧ o2 c.2) := by
 refine ⟨fun s hs => ?_, fun c t hc => ?_, fun r hb hc => ?_⟩
 ·show cod (g (f s).2).2 = cod s
  rw [q.bad _ (by rw [p.bad s hs]; exact hs), p.bad s hs]
 ·obtain ⟨a, b⟩ := c
  show (((f (e1 a ++ e2 b ++ t, 0, false)).1, (g (f (e1 a ++ e2 b ++ t, 0, false)).2).1), (g (f (e1 a ++ e2 b ++ t, 0, false)).2).2) = _
  rw [List.append_assoc, p.back a _ hc.1]
  show ((a, (g (e2 b ++ t, 0, false)).1), (g (e2 b ++ t, 0, false)).2) = _
  rw [q.back b t hc.2]
 ·have hc1 : cod (f (r, 0, false)).2 = 0 := by
   by_cases c : cod (f (r, 0, false)).2 = 0
   ·exact c
   ·exact absurd ((q.bad _ c).symm.trans hc) c
  obtain ⟨a, r1, k1, k2, k3⟩ := p.form r hb hc1
  have hc2 : cod (g (f (r, 0, false)).2).2 = 0 := hc
  rw [k2] at hc2
  obtain ⟨b, r2, m1, m2, m3⟩ := q.form r1 (by rw [k3] at hb; exact hb.right) hc2
  refine ⟨(a, b), r2, ⟨k1, m1⟩, ?_, by rw [k3, m3, List.append_assoc]⟩
  show (((f (r, 0, false)).1, (g (f (r, 0, false)).2).1), (g (f (r, 0, false)).2).2) = _
  rw [k2]
  show ((a, (g (r1, 0, false)).1), (g (r1, 0, false)).2) = _
  rw [m2]
theorem Codec.map {α β : Type} {f : Rst → α × Rst} {enc : α → List Int} {ok : α → Prop} (h : α → β) (g : β → α) (hg : ∀ a, g (h a) = a) (p : Codec f enc ok) : Codec (fun s => (h (f s).1, (f s).2)) (fun b => enc (g b)) (fun b => ok (g b) ∧ h (g b) = b) := by
 refine ⟨p.bad, fun b q hb => ?_, fun r hb hc => ?_⟩
 ·show (h (f (enc (g b) ++ q, 0, false)).1, (f (enc (g b) ++ q, 0, false)).2) = _
  rw [p.back _ q hb.1]
  show (h (g b), _) = _
  rw [hb.2]
 ·obtain ⟨a, q, k1, k2, k3⟩ := p.form r hb hc
  refine ⟨h a, q, ⟨by rw [hg]; exact k1, by rw [hg]⟩, ?_, by rw [hg]; exact k3⟩
  show (h (f (r, 0, false)).1, (f (r, 0, false)).2) = _
  rw [k2]
def sgOk (g : Sg) : Prop := (0 ≤ g.n ∧ g.n ≤ 64) ∧ (g.t.length = 16 ∧ Bs g.t)
def evOk (g : Ev) : Prop := (0 ≤ g.n ∧ g.n ≤ 64) ∧ ((g.s.size : Int) ≤ 4194304 ∧ (g.t.length = 16 ∧ Bs g.t))
def vtOk (x : Vt) : Prop := (1 ≤ x.k ∧ x.k ≤ 2) ∧ ((0 ≤ x.e ∧ x.e ≤ 1048576) ∧ ((0 ≤ x.v ∧ x.v ≤ 1099511627776) ∧ ((0 ≤ x.s ∧ x.s ≤ 1099511627776) ∧ (x.d.length = 32 ∧ Bs x.d))))
def rqOk (r : Rq) : Prop := (0 ≤ r.c ∧ r.c ≤ 8) ∧ ((0 ≤ r.n ∧ r.n ≤ 1099511627776) ∧ ((r.s.size : Int) ≤ 64 ∧ (r.t.length = 16 ∧ Bs r.t)))
def rqL (r : Rq) : List Int := (BRq.of r).bytes
def baL (c : Bool × List Rq) : List Int := batL c.1 (c.2.map BRq.of)
def baOk (c : Bool × List Rq) : Prop := (c.1 = true → c.2 = []) ∧ (c.2.length ≤ 4 ∧ ∀ r ∈ c.2, rqOk r)
def ceOk (c : Vt × List Sg) : Prop := vtOk c.1 ∧ ((c.2.length : Int) ≤ 64 ∧ ∀ x ∈ c.2, sgOk x)
def hpL (h : Hp) : List Int := baL (h.q, h.rs) ++ ctL h.vt h.sg
def hpOk (h : Hp) : Prop := baOk (h.q, h.rs) ∧ ceOk (h.vt, h.sg)
def cpL (c : Cp) : List Int := putL c.e ++ (putL c.l ++ (putL c.v ++ (putL c.he.length ++ c.he.flatMap hpL)))
def cpOk (c : Cp) : Prop := (0 ≤ c.e ∧ c.e ≤ 1048576) ∧ ((0 ≤ c.l ∧ c.l ≤ 64) ∧ ((0 ≤ c.v ∧ c.v ≤ 1099511627776) ∧ ((c.he.length : Int) ≤ 4 ∧ ∀ x ∈ c.he, hpOk x)))
def onlyP1 (c : Int × (Int × (Bool × List Rq))) : Mp := ⟨1, c.1, 0, 0, c.2.1, c.2.2.1, c.2.2.2, Vt.zero, 0, 0, 0, [], [], zeros32, Vt.zero, [], ⟨#[]⟩, []⟩
def body1 (m : Mp) : List Int := putL m.e ++ (putL m.s ++ baL (m.q, m.rs))
def kok1 (m : Mp) : Prop := ((0 ≤ m.e ∧ m.e ≤ 1048576) ∧ ((0 ≤ m.s ∧ m.s ≤ 1099511627776) ∧ baOk (m.q, m.rs))) ∧ onlyP1 (m.e, (m.s, (m.q, m.rs))) = m
def onlyP2 (c : Vt) : Mp := ⟨2, 0, 0, 0, 0, false, [], c, 0, 0, 0, [], [], zeros32, Vt.zero, [], ⟨#[]⟩, []⟩
def body2 (m : Mp) : List Int := vtL m.vt
def kok2 (m : Mp) : Prop := (vtOk m.vt) ∧ onlyP2 m.vt = m
def onlyP3 (c : Cp) : Mp := ⟨3, 0, 0, 0, 0, false, [], Vt.zero, c.e, c.l, c.v, c.he, [], zeros32, Vt.zero, [], ⟨#[]⟩, []⟩
def body3 (m : Mp) : List Int := cpL ⟨m.ce, m.cl, m.cv, m.he⟩
def kok3 (m : Mp) : Prop := (cpOk ⟨m.ce, m.cl, m.cv, m.he⟩) ∧ onlyP3 ⟨m.ce, m.cl, m.cv, m.he⟩ = m
def onlyP4 (c : Int × (Int × (Int × List Ev))) : Mp := ⟨4, c.1, c.2.1, c.2.2.1, 0, false, [], Vt.zero, 0, 0, 0, [], c.2.2.2, zeros32, Vt.zero, [], ⟨#[]⟩, []⟩
def body4 (m : Mp) : List Int := putL m.e ++ (putL m.l ++ (putL m.v ++ evsL m.ne))
def kok4 (m : Mp) : Prop := ((0 ≤ m.e ∧ m.e ≤ 1048576) ∧ ((0 ≤ m.l ∧ m.l ≤ 64) ∧ ((0 ≤ m.v ∧ m.v ≤ 1099511627776) ∧ ((m.ne.length : Int) ≤ 64 ∧ ∀ x ∈ m.ne, evOk x)))) ∧ onlyP4 (m.e, (m.l, (m.v, m.ne))) = m
def onlyP5 (c : Int × List Int) : Mp := ⟨5, c.1, 0, 0, 0, false, [], Vt.zero, 0, 0, 0, [], [], c.2, Vt.zero, [], ⟨#[]⟩, []⟩
def body5 (m : Mp) : List Int := putL m.e ++ m.d
def kok5 (m : Mp) : Prop := ((0 ≤ m.e ∧ m.e ≤ 1048576) ∧ (m.d.length = 32 ∧ Bs m.d)) ∧ onlyP5 (m.e, m.d) = m
def onlyP6 (c : Int × Int) : Mp := ⟨6, c.1, 0, 0, c.2, false, [], Vt.zero, 0, 0, 0, [], [], zeros32, Vt.zero, [], ⟨#[]⟩, []⟩
def body6 (m : Mp) : List Int := putL m.e ++ putL m.s
def kok6 (m : Mp) : Prop := ((0 ≤ m.e ∧ m.e ≤ 1048576) ∧ (0 ≤ m.s ∧ m.s ≤ 1099511627776)) ∧ onlyP6 (m.e, m.s) = m
def onlyP7 (c : (Bool × List Rq) × (Vt × List Sg)) : Mp := ⟨7, 0, 0, 0, 0, c.1.1, c.1.2, Vt.zero, 0, 0, 0, [], [], zeros32, c.2.1, c.2.2, ⟨#[]⟩, []⟩
def body7 (m : Mp) : List Int := baL (m.q, m.rs) ++ ctL m.ct m.cs
def kok7 (m : Mp) : Prop := (baOk (m.q, m.rs) ∧ ceOk (m.ct, m.cs)) ∧ onlyP7 ((m.q, m.rs), (m.ct, m.cs)) = m
def onlyP8 (c : ByteArray × List Sg) : Mp := ⟨8, 0, 0, 0, 0, false, [], Vt.zero, 0, 0, 0, [], [], zeros32, Vt.zero, [], c.1, c.2⟩
def body8 (m : Mp) : List Int := textL m.st ++ sgsL m.sg
def kok8 (m : Mp) : Prop := ((m.st.size : Int) ≤ 4194304 ∧ ((m.sg.length : Int) ≤ 64 ∧ ∀ x ∈ m.sg, sgOk x)) ∧ onlyP8 (m.st, m.sg) = m
def Mp.bytes (m : Mp) : List Int := putL m.k ++ (if m.k = 1 then body1 m else if m.k = 2 then body2 m else if m.k = 3 then body3 m else if m.k = 4 then body4 m else if m.k = 5 then body5 m else if m.k = 6 then body6 m else if m.k = 7 then body7 m else body8 m)
def Mp.good (m : Mp) : Prop := (m.k = 1 ∧ kok1 m) ∨ (m.k = 2 ∧ kok2 m) ∨ (m.k = 3 ∧ kok3 m) ∨ (m.k = 4 ∧ kok4 m) ∨ (m.k = 5 ∧ kok5 m) ∨ (m.k = 6 ∧ kok6 m) ∨ (m.k = 7 ∧ kok7 m) ∨ (m.k = 8 ∧ kok8 m)
theorem sameL_eqv {α β : Type} {B : α → α → Bool} {f : α → β} (h : ∀ x y, f x = f y → B x y = true) : ∀ xs ys : List α, xs.map f = ys.map f → sameL B xs ys = true
 | [], [], _ => rfl
 | x :: xs, y :: ys, e => by
  simp only [List.map_cons, List.cons.injEq] at e
  unfold sameL
  rw [h x y e.1, sameL_eqv h xs ys e.2]
  rfl
 | [], y :: ys, e => by cases e
 | x :: xs, [], e => by cases e
theorem certB_eqv {x y : Vt} {s t : Sl Sg} (h : x = y) (h2 : s.xs = t.xs) : certB x s y t = true := by
 unfold certB
 rw [vtB_iff.2 h, (sameL_iff (fun x y => Sg.B_iff) _ _).2 h2]
 rfl
theorem batB_eqv {q r : Bool} {x y : Sl Rq} (h : q = r) (h2 : x.xs = y.xs) : batB q x r y = true := by
 unfold batB
 rw [h, (sameL_iff (fun x y => Rq.B_iff) _ _).2 h2]
 simp
theorem Hd.B_eqv (x y : Hd) (h : x.pure = y.pure) : Hd.B x y = true := by
 unfold Hd.pure at h
 simp only [Hp.mk.injEq] at h
 obtain ⟨h1, h2, h3, h4⟩ := h
 unfold Hd.B
 rw [batB_eqv h1 h2, certB_eqv h3 h4]
 rfl
theorem Mg.B_eqv (a b : Mg) (h : a.pure = b.pure) : Mg.B a b = true := by
 unfold Mg.pure at h
 simp only [Mp.mk.injEq] at h
 obtain ⟨h1, h2, h3, h4, h5, h6, h7, h8, h9, h10, h11, h12, h13, h14, h15, h16, h17, h18⟩ := h
 unfold Mg.B Mg.nB Mg.fB Mg.lB chgB
 rw [vtB_iff.2 h8, batB_eqv h6 h7, certB_eqv h15 h16, (sameL_iff (fun x y => Ev.B_iff) _ _).2 h13, (sameL_iff (fun x y => Sg.B_iff) _ _).2 h18, sameL_eqv Hd.B_eqv _ _ h12, h1, h2, h3, h4, h5, h9, h10, h11, h14, h17]
 simp
theorem certB_pure {x y : Vt} {s t : Sl Sg} (h : certB x s y t = true) : x = y ∧ s.xs = t.xs := by
 unfold certB at h
 rw [Bool.and_eq_true] at h
 exact ⟨vtB_iff.1 h.1, (sameL_iff (fun x y => Sg.B_iff) _ _).1 h.2⟩
theorem batB_pure {q r : Bool} {x y : Sl Rq} (h : batB q x r y = true) : q = r ∧ x.xs = y.xs := by
 unfold batB at h
 rw [Bool.and_eq_true] at h
 exact ⟨by simpa using h.1, (sameL_iff (fun x y => Rq.B_iff) _ _).1 h.2⟩
theorem Hd.B_pure (x y : Hd) (h : Hd.B x y = true) : x.pure = y.pure := by
 unfold Hd.B at h
 rw [Bool.and_eq_true] at h
 obtain ⟨h1, h2⟩ := batB_pure h.1
 obtain ⟨h3, h4⟩ := certB_pure h.2
 unfold Hd.pure
 rw [h1, h2, h3, h4]
theorem sameL_pure {α β : Type} {B : α → α → Bool} {f : α → β} (h : ∀ x y, B x y = true → f x = f y) : ∀ xs ys : List α, sameL B xs ys = true → xs.map f = ys.map f
 | [], [], _ => rfl
 | x :: xs, y :: ys, e => by
  unfold sameL at e
  rw [Bool.and_eq_true] at e
  rw [List.map_cons, List.map_cons, h x y e.1, sameL_pure h xs ys e.2]
 | [], y :: ys, e => by cases e
 | x :: xs, [], e => by cases e
theorem Mg.B_pure (a b : Mg) (h : Mg.B a b = true) : a.pure = b.pure := by
 unfold Mg.B Mg.nB Mg.fB Mg.lB chgB at h
 simp only [Bool.and_eq_true, beq_iff_eq] at h
 obtain ⟨⟨h1, h2, h3, h4, h5⟩, ⟨h6, h7, h8⟩, h9, ⟨⟨h10, h11, h12⟩, h13⟩, h14, h15, h16⟩ := h
 obtain ⟨b1, b2⟩ := batB_pure h9
 obtain ⟨c1, c2⟩ := certB_pure h15
 unfold Mg.pure
 rw [h1, h2, h3, h4, h5, b1, b2, vtB_iff.1 h6, h10, h11, h12, sameL_pure Hd.B_pure _ _ h13, (sameL_iff (fun x y => Ev.B_iff) _ _).1 h14, h7, c1, c2, toList_iff.1 h8, (sameL_iff (fun x y => Sg.B_iff) _ _).1 h16]
theorem sg_may {g : Sg} (o : g.ok) : g.may = true → sgOk g := fun h => ⟨inB_iff.1 h, o.tl, o.tb⟩
theorem may_sg {g : Sg} (h : sgOk g) : g.may = true := inB_iff.2 h.1
theorem ev_may {g : Ev} (o : g.ok) (h : g.may = true) : evOk g := by
 unfold Ev.may at h
 rw [Bool.and_eq_true] at h
 exact ⟨inB_iff.1 h.1, of_decide_eq_true h.2, o.tl, o.tb⟩
theorem may_ev {g : Ev} (h : evOk g) : g.may = true := by
 unfold Ev.may
 rw [inB_iff.2 h.1, decide_eq_true h.2.1]
 rfl
theorem rq_may {g : Rq} (o : g.ok) (h : g.may = true) : rqOk g := by
 unfold Rq.may at h
 rw [Bool.and_eq_true, Bool.and_eq_true] at h
 exact ⟨inB_iff.1 h.1, inB_iff.1 h.2.1, of_decide_eq_true h.2.2, o.tl, o.tb⟩
theorem may_rq {g : Rq} (h : rqOk g) : g.may = true := by
 unfold Rq.may
 rw [inB_iff.2 h.1, inB_iff.2 h.2.1, decide_eq_true h.2.2.1]
 rfl
theorem vt_may {x : Vt} (o : x.ok) (h : x.may = true) : vtOk x := by
 unfold Vt.may at h
 simp only [Bool.and_eq_true, Bool.or_eq_true, decide_eq_true_eq] at h
 obtain ⟨h1, h2, h3, h4⟩ := h
 exact ⟨by omega, inB_iff.1 h2, inB_iff.1 h3, inB_iff.1 h4, o.dl, o.db⟩
theorem may_vt {x : Vt} (h : vtOk x) : x.may = true := by
 obtain ⟨h1, h2, h3, h4, _⟩ := h
 unfold Vt.may
 rw [inB_iff.2 h2, inB_iff.2 h3, inB_iff.2 h4]
 have : x.k = 1 ∨ x.k = 2 := by omega
 rcases this with q | q <;> simp [q]
theorem mayL_iff {α : Type} {most : Int} {p : α → Bool} {xs : List α} : mayL most p xs = true ↔ (xs.length : Int) ≤ most ∧ ∀ x ∈ xs, p x = true := by
 unfold mayL
 rw [Bool.and_eq_true, decide_eq_true_iff, List.all_eq_true]
theorem bat_may {q : Bool} {x : Sl Rq} (o : ∀ y ∈ x.xs, y.ok) (h : batMay q x = true) : baOk (q, x.xs) := by
 unfold batMay at h
 cases q
 ·obtain ⟨h1, h2⟩ := mayL_iff.1 h
  exact ⟨(fun e => by cases e), (by show x.xs.length ≤ 4; omega), fun r hr => rq_may (o r hr) (h2 r hr)⟩
 ·have e : x.xs = [] := List.eq_nil_of_length_eq_zero (of_decide_eq_true h)
  exact ⟨(fun _ => e), (by show x.xs.length ≤ 4; rw [e]; simp), fun r hr => by rw [show x.xs = [] from e] at hr; cases hr⟩
theorem may_bat {q : Bool} {x : Sl Rq} (h : baOk (q, x.xs)) : batMay q x = true := by
 unfold batMay
 cases q
 ·have h2 : x.xs.length ≤ 4 := h.2.1
  exact mayL_iff.2 ⟨by omega, fun r hr => may_rq (h.2.2 r hr)⟩
 ·have e : x.xs = [] := h.1 rfl
  rw [if_pos rfl, e]
  rfl
theorem sgs_may {x : Sl Sg} (o : ∀ y ∈ x.xs, y.ok) (h : sgsMay x = true) : (x.xs.length : Int) ≤ 64 ∧ ∀ y ∈ x.xs, sgOk y := by
 obtain ⟨h1, h2⟩ := mayL_iff.1 h
 exact ⟨h1, fun y hy => sg_may (o y hy) (h2 y hy)⟩
theorem may_sgs {x : Sl Sg} (h : (x.xs.length : Int) ≤ 64 ∧ ∀ y ∈ x.xs, sgOk y) : sgsMay x = true := mayL_iff.2 ⟨h.1, fun y hy => may_sg (h.2 y hy)⟩
theorem cert_may {v : Vt} {x : Sl Sg} (ov : v.ok) (o : ∀ y ∈ x.xs, y.ok) (h : certMay v x = true) : ceOk (v, x.xs) := by
 unfold certMay at h
 rw [Bool.and_eq_true] at h
 exact ⟨vt_may ov h.1, sgs_may o h.2⟩
theorem may_cert {v : Vt} {x : Sl Sg} (h : ceOk (v, x.xs)) : certMay v x = true := by
 unfold certMay
 rw [may_vt h.1, may_sgs h.2]
 rfl
theorem hd_may {h : Hd} {w : World} (ov : h.vt.ok) (a : h.At w) (k : h.may = true) : hpOk h.pure := by
 unfold Hd.may at k
 rw [Bool.and_eq_true] at k
 exact ⟨bat_may a.1.2.1 k.1, cert_may ov a.2.2.1 k.2⟩
theorem may_hd {h : Hd} (k : hpOk h.pure) : h.may = true := by
 unfold Hd.may
 rw [may_bat (q := h.q) (x := h.rs) k.1, may_cert (v := h.vt) (x := h.sg) k.2]
 rfl
theorem chg_may {a b c : Int} {x : Sl Hd} {w : World} (at_ : HdsAt w x) (h : chgMay a b c x = true) : cpOk ⟨a, b, c, x.xs.map Hd.pure⟩ := by
 unfold chgMay at h
 simp only [Bool.and_eq_true] at h
 obtain ⟨⟨h1, h2, h3⟩, h4⟩ := h
 obtain ⟨h5, h6⟩ := mayL_iff.1 h4
 refine ⟨inB_iff.1 h1, inB_iff.1 h2, inB_iff.1 h3, by show ((x.xs.map Hd.pure).length : Int) ≤ 4; rw [List.length_map]; exact h5, fun y hy => ?_⟩
 obtain ⟨g, hg, rfl⟩ := List.mem_map.1 hy
 exact hd_may (at_.1.2.1 g hg) (at_.2 g hg) (h6 g hg)
theorem may_chg {a b c : Int} {x : Sl Hd} (h : cpOk ⟨a, b, c, x.xs.map Hd.pure⟩) : chgMay a b c x = true := by
 obtain ⟨h1, h2, h3, h4, h5⟩ := h
 unfold chgMay
 rw [inB_iff.2 h1, inB_iff.2 h2, inB_iff.2 h3, mayL_iff.2 ⟨by have h4 : ((x.xs.map Hd.pure).length : Int) ≤ 4 := h4; rwa [List.length_map] at h4, fun g hg => may_hd (h5 _ (List.mem_map_of_mem hg))⟩]
 rfl
theorem hds_pure (xs : List Hd) : hdsL xs = putL ((xs.map Hd.pure).length) ++ (xs.map Hd.pure).flatMap hpL := by
 unfold hdsL
 rw [List.length_map, List.flatMap_map]
 rfl
theorem bytes_pure (m : Mg) (h : 1 ≤ m.k ∧ m.k ≤ 8) : m.bytes = m.pure.bytes := by
 have hk : m.k = 1 ∨ m.k = 2 ∨ m.k = 3 ∨ m.k = 4 ∨ m.k = 5 ∨ m.k = 6 ∨ m.k = 7 ∨ m.k = 8 := by omega
 show putL m.k ++ m.body = putL m.k ++ (if m.k = 1 then body1 m.pure else if m.k = 2 then body2 m.pure else if m.k = 3 then body3 m.pure else if m.k = 4 then body4 m.pure else if m.k = 5 then body5 m.pure else if m.k = 6 then body6 m.pure else if m.k = 7 then body7 m.pure else body8 m.pure)
 unfold Mg.body
 rcases hk with h | h | h | h | h | h | h | h <;> rw [h]
 ·have e : [m.e, m.s].flatMap putL ++ batL m.q (m.rs.xs.map BRq.of) = putL m.e ++ (putL m.s ++ baL (m.q, m.rs.xs)) := by simp [List.append_assoc, baL]
  exact congrArg (putL 1 ++ ·) e
 ·rfl
 ·have e : [m.ce, m.cl, m.cv].flatMap putL ++ hdsL m.he.xs = putL m.ce ++ (putL m.cl ++ (putL m.cv ++ (putL ((m.he.xs.map Hd.pure).length) ++ (m.he.xs.map Hd.pure).flatMap hpL))) := by rw [hds_pure]; simp [List.append_assoc]
  exact congrArg (putL 3 ++ ·) e
 ·have e : [m.e, m.l, m.v].flatMap putL ++ evsL m.ne.xs = putL m.e ++ (putL m.l ++ (putL m.v ++ evsL m.ne.xs)) := by simp [List.append_assoc]
  exact congrArg (putL 4 ++ ·) e
 ·rfl
 ·have e : [m.e, m.s].flatMap putL = putL m.e ++ putL m.s := by simp [List.append_assoc]
  exact congrArg (putL 6 ++ ·) e
 ·rfl
 ·rfl
theorem ev_all {x : Sl Ev} {w : World} (a : x.At EvE w) (h : mayL 64 Ev.may x.xs = true) : (x.xs.length : Int) ≤ 64 ∧ ∀ y ∈ x.xs, evOk y := by
 obtain ⟨h1, h2⟩ := mayL_iff.1 h
 exact ⟨h1, fun y hy => ev_may (a.2.1 y hy) (h2 y hy)⟩
theorem good_pure {m : Mg} {w : World} (om : m.ok) (am : m.At w) (hg : m.good = true) : m.pure.good := by
 unfold Mg.good at hg
 rw [Bool.and_eq_true, Bool.and_eq_true, decide_eq_true_iff] at hg
 obtain ⟨hk, hB, hm⟩ := hg
 have hp := Mg.B_pure _ _ hB
 unfold Mg.may Mg.mayL at hm
 simp only [Bool.and_eq_true] at hm
 obtain ⟨⟨e1, e2⟩, ⟨e3, e4⟩, e5, e6, e7, e8, e9, e10, e11⟩ := hm
 have hks : m.k = 1 ∨ m.k = 2 ∨ m.k = 3 ∨ m.k = 4 ∨ m.k = 5 ∨ m.k = 6 ∨ m.k = 7 ∨ m.k = 8 := by omega
 rcases hks with h | h | h | h | h | h | h | h
 ·rw [Mg.bare_1 h] at hp
  refine .inl ⟨h, ⟨inB_iff.1 e1, inB_iff.1 e4, bat_may am.rs.2.1 e7⟩, ?_⟩
  exact hp.symm
 ·rw [Mg.bare_2 h] at hp
  refine .inr (.inl ⟨h, vt_may om.vt (by rw [if_pos h] at e5; exact e5), ?_⟩)
  exact hp.symm
 ·rw [Mg.bare_3 h] at hp
  refine .inr (.inr (.inl ⟨h, chg_may am.he e8, ?_⟩))
  exact hp.symm
 ·rw [Mg.bare_4 h] at hp
  refine .inr (.inr (.inr (.inl ⟨h, ⟨inB_iff.1 e1, inB_iff.1 e2, inB_iff.1 e3, ev_all am.ne e9⟩, ?_⟩)))
  exact hp.symm
 ·rw [Mg.bare_5 h] at hp
  refine .inr (.inr (.inr (.inr (.inl ⟨h, ⟨inB_iff.1 e1, om.dl, om.db⟩, ?_⟩))))
  exact hp.symm
 ·rw [Mg.bare_6 h] at hp
  refine .inr (.inr (.inr (.inr (.inr (.inl ⟨h, ⟨inB_iff.1 e1, inB_iff.1 e4⟩, ?_⟩)))))
  exact hp.symm
 ·rw [Mg.bare_7 h] at hp
  refine .inr (.inr (.inr (.inr (.inr (.inr (.inl ⟨h, ⟨bat_may am.rs.2.1 e7, cert_may om.ct am.cs.2.1 (by rw [if_pos h] at e6; exact e6)⟩, ?_⟩))))))
  exact hp.symm
 ·rw [Mg.bare_8 h] at hp
  refine .inr (.inr (.inr (.inr (.inr (.inr (.inr (⟨h, ⟨of_decide_eq_true e10, sgs_may am.sg.2.1 e11⟩, ?_⟩)))))))
  exact hp.symm
theorem pure_good {x : Mg} (h : x.pure.good) : x.good = true := by
 rcases h with ⟨h, k, o⟩ | ⟨h, k, o⟩ | ⟨h, k, o⟩ | ⟨h, k, o⟩ | ⟨h, k, o⟩ | ⟨h, k, o⟩ | ⟨h, k, o⟩ | ⟨h, k, o⟩
 ·have hk : x.k = 1 := h
  have hp : x.pure = x.bare.pure := by rw [Mg.bare_1 hk]; exact o.symm
  have hB := Mg.B_eqv _ _ hp
  have o2 := o.symm
  unfold Mg.pure onlyP1 at o2
  simp only [Mp.mk.injEq, and_true, true_and] at o2
  unfold Mg.good
  rw [hB]
  have hd : decide (1 ≤ x.k ∧ x.k ≤ 8) = true := by rw [hk]; decide
  rw [hd]
  show x.may = true
  unfold Mg.may Mg.mayL
  rw [hk]
  obtain ⟨z_k, z_l, z_v, z_vt, z_ce, z_cl, z_cv, z_he, z_ne, z_d, z_ct, z_cs, z_st, z_sg⟩ := o2
  have w_e : inB x.e 1048576 = true := inB_iff.2 k.1
  have w_l : inB x.l 64 = true := by rw [z_l]; decide
  have w_v : inB x.v 1099511627776 = true := by rw [z_v]; decide
  have w_s : inB x.s 1099511627776 = true := inB_iff.2 k.2.1
  have w_b : batMay x.q x.rs = true := may_bat k.2.2
  have w_c : chgMay x.ce x.cl x.cv x.he = true := may_chg (by rw [z_ce, z_cl, z_cv, show x.he.xs.map Hd.pure = [] from z_he]; exact ⟨(by decide), (by decide), (by decide), (by simp), fun r hr => by cases hr⟩)
  have w_n : Go.Proofs.YtinndbipomlokaaGreat.mayL 64 Ev.may x.ne.xs = true := by rw [z_ne]; rfl
  have w_t : decide ((x.st.size : Int) ≤ 4194304) = true := by rw [z_st]; rfl
  have w_g : sgsMay x.sg = true := may_sgs (by rw [z_sg]; exact ⟨(by simp), fun r hr => by cases hr⟩)
  have w_2 : (if (1 : Int) = 2 then x.vt.may else true) = true := rfl
  have w_7 : (if (1 : Int) = 7 then certMay x.ct x.cs else true) = true := rfl
  rw [w_e, w_l, w_v, w_s, w_b, w_c, w_n, w_t, w_g, w_2, w_7]
  rfl
 ·have hk : x.k = 2 := h
  have hp : x.pure = x.bare.pure := by rw [Mg.bare_2 hk]; exact o.symm
  have hB := Mg.B_eqv _ _ hp
  have o2 := o.symm
  unfold Mg.pure onlyP2 at o2
  simp only [Mp.mk.injEq, and_true, true_and] at o2
  unfold Mg.good
  rw [hB]
  have hd : decide (1 ≤ x.k ∧ x.k ≤ 8) = true := by rw [hk]; decide
  rw [hd]
  show x.may = true
  unfold Mg.may Mg.mayL
  rw [hk]
  obtain ⟨z_k, z_e, z_l, z_v, z_s, z_q, z_rs, z_ce, z_cl, z_cv, z_he, z_ne, z_d, z_ct, z_cs, z_st, z_sg⟩ := o2
  have w_e : inB x.e 1048576 = true := by rw [z_e]; decide
  have w_l : inB x.l 64 = true := by rw [z_l]; decide
  have w_v : inB x.v 1099511627776 = true := by rw [z_v]; decide
  have w_s : inB x.s 1099511627776 = true := by rw [z_s]; decide
  have w_b : batMay x.q x.rs = true := may_bat (by rw [z_q, z_rs]; exact ⟨(fun e => by cases e), (by simp), fun r hr => by cases hr⟩)
  have w_c : chgMay x.ce x.cl x.cv x.he = true := may_chg (by rw [z_ce, z_cl, z_cv, show x.he.xs.map Hd.pure = [] from z_he]; exact ⟨(by decide), (by decide), (by decide), (by simp), fun r hr => by cases hr⟩)
  have w_n : Go.Proofs.YtinndbipomlokaaGreat.mayL 64 Ev.may x.ne.xs = true := by rw [z_ne]; rfl
  have w_t : decide ((x.st.size : Int) ≤ 4194304) = true := by rw [z_st]; rfl
  have w_g : sgsMay x.sg = true := may_sgs (by rw [z_sg]; exact ⟨(by simp), fun r hr => by cases hr⟩)
  have w_2 : (if (2 : Int) = 2 then x.vt.may else true) = true := may_vt k
  have w_7 : (if (2 : Int) = 7 then certMay x.ct x.cs else true) = true := rfl
  rw [w_e, w_l, w_v, w_s, w_b, w_c, w_n, w_t, w_g, w_2, w_7]
  rfl
 ·have hk : x.k = 3 := h
  have hp : x.pure = x.bare.pure := by rw [Mg.bare_3 hk]; exact o.symm
  have hB := Mg.B_eqv _ _ hp
  have o2 := o.symm
  unfold Mg.pure onlyP3 at o2
  simp only [Mp.mk.injEq, and_true, true_and] at o2
  unfold Mg.good
  rw [hB]
  have hd : decide (1 ≤ x.k ∧ x.k ≤ 8) = true := by rw [hk]; decide
  rw [hd]
  show x.may = true
  unfold Mg.may Mg.mayL
  rw [hk]
  obtain ⟨z_k, z_e, z_l, z_v, z_s, z_q, z_rs, z_vt, z_ne, z_d, z_ct, z_cs, z_st, z_sg⟩ := o2
  have w_e : inB x.e 1048576 = true := by rw [z_e]; decide
  have w_l : inB x.l 64 = true := by rw [z_l]; decide
  have w_v : inB x.v 1099511627776 = true := by rw [z_v]; decide
  have w_s : inB x.s 1099511627776 = true := by rw [z_s]; decide
  have w_b : batMay x.q x.rs = true := may_bat (by rw [z_q, z_rs]; exact ⟨(fun e => by cases e), (by simp), fun r hr => by cases hr⟩)
  have w_c : chgMay x.ce x.cl x.cv x.he = true := may_chg k
  have w_n : Go.Proofs.YtinndbipomlokaaGreat.mayL 64 Ev.may x.ne.xs = true := by rw [z_ne]; rfl
  have w_t : decide ((x.st.size : Int) ≤ 4194304) = true := by rw [z_st]; rfl
  have w_g : sgsMay x.sg = true := may_sgs (by rw [z_sg]; exact ⟨(by simp), fun r hr => by cases hr⟩)
  have w_2 : (if (3 : Int) = 2 then x.vt.may else true) = true := rfl
  have w_7 : (if (3 : Int) = 7 then certMay x.ct x.cs else true) = true := rfl
  rw [w_e, w_l, w_v, w_s, w_b, w_c, w_n, w_t, w_g, w_2, w_7]
  rfl
 ·have hk : x.k = 4 := h
  have hp : x.pure = x.bare.pure := by rw [Mg.bare_4 hk]; exact o.symm
  have hB := Mg.B_eqv _ _ hp
  have o2 := o.symm
  unfold Mg.pure onlyP4 at o2
  simp only [Mp.mk.injEq, and_true, true_and] at o2
  unfold Mg.good
  rw [hB]
  have hd : decide (1 ≤ x.k ∧ x.k ≤ 8) = true := by rw [hk]; decide
  rw [hd]
  show x.may = true
  unfold Mg.may Mg.mayL
  rw [hk]
  obtain ⟨z_k, z_s, z_q, z_rs, z_vt, z_ce, z_cl, z_cv, z_he, z_d, z_ct, z_cs, z_st, z_sg⟩ := o2
  have w_e : inB x.e 1048576 = true := inB_iff.2 k.1
  have w_l : inB x.l 64 = true := inB_iff.2 k.2.1
  have w_v : inB x.v 1099511627776 = true := inB_iff.2 k.2.2.1
  have w_s : inB x.s 1099511627776 = true := by rw [z_s]; decide
  have w_b : batMay x.q x.rs = true := may_bat (by rw [z_q, z_rs]; exact ⟨(fun e => by cases e), (by simp), fun r hr => by cases hr⟩)
  have w_c : chgMay x.ce x.cl x.cv x.he = true := may_chg (by rw [z_ce, z_cl, z_cv, show x.he.xs.map Hd.pure = [] from z_he]; exact ⟨(by decide), (by decide), (by decide), (by simp), fun r hr => by cases hr⟩)
  have w_n : Go.Proofs.YtinndbipomlokaaGreat.mayL 64 Ev.may x.ne.xs = true := mayL_iff.2 ⟨k.2.2.2.1, fun y hy => may_ev (k.2.2.2.2 y hy)⟩
  have w_t : decide ((x.st.size : Int) ≤ 4194304) = true := by rw [z_st]; rfl
  have w_g : sgsMay x.sg = true := may_sgs (by rw [z_sg]; exact ⟨(by simp), fun r hr => by cases hr⟩)
  have w_2 : (if (4 : Int) = 2 then x.vt.may else true) = true := rfl
  have w_7 : (if (4 : Int) = 7 then certMay x.ct x.cs else true) = true := rfl
  rw [w_e, w_l, w_v, w_s, w_b, w_c, w_n, w_t, w_g, w_2, w_7]
  rfl
 ·have hk : x.k = 5 := h
  have hp : x.pure = x.bare.pure := by rw [Mg.bare_5 hk]; exact o.symm
  have hB := Mg.B_eqv _ _ hp
  have o2 := o.symm
  unfold Mg.pure onlyP5 at o2
  simp only [Mp.mk.injEq, and_true, true_and] at o2
  unfold Mg.good
  rw [hB]
  have hd : decide (1 ≤ x.k ∧ x.k ≤ 8) = true := by rw [hk]; decide
  rw [hd]
  show x.may = true
  unfold Mg.may Mg.mayL
  rw [hk]
  obtain ⟨z_k, z_l, z_v, z_s, z_q, z_rs, z_vt, z_ce, z_cl, z_cv, z_he, z_ne, z_ct, z_cs, z_st, z_sg⟩ := o2
  have w_e : inB x.e 1048576 = true := inB_iff.2 k.1
  have w_l : inB x.l 64 = true := by rw [z_l]; decide
  have w_v : inB x.v 1099511627776 = true := by rw [z_v]; decide
  have w_s : inB x.s 1099511627776 = true := by rw [z_s]; decide
  have w_b : batMay x.q x.rs = true := may_bat (by rw [z_q, z_rs]; exact ⟨(fun e => by cases e), (by simp), fun r hr => by cases hr⟩)
  have w_c : chgMay x.ce x.cl x.cv x.he = true := may_chg (by rw [z_ce, z_cl, z_cv, show x.he.xs.map Hd.pure = [] from z_he]; exact ⟨(by decide), (by decide), (by decide), (by simp), fun r hr => by cases hr⟩)
  have w_n : Go.Proofs.YtinndbipomlokaaGreat.mayL 64 Ev.may x.ne.xs = true := by rw [z_ne]; rfl
  have w_t : decide ((x.st.size : Int) ≤ 4194304) = true := by rw [z_st]; rfl
  have w_g : sgsMay x.sg = true := may_sgs (by rw [z_sg]; exact ⟨(by simp), fun r hr => by cases hr⟩)
  have w_2 : (if (5 : Int) = 2 then x.vt.may else true) = true := rfl
  have w_7 : (if (5 : Int) = 7 then certMay x.ct x.cs else true) = true := rfl
  rw [w_e, w_l, w_v, w_s, w_b, w_c, w_n, w_t, w_g, w_2, w_7]
  rfl
 ·have hk : x.k = 6 := h
  have hp : x.pure = x.bare.pure := by rw [Mg.bare_6 hk]; exact o.symm
  have hB := Mg.B_eqv _ _ hp
  have o2 := o.symm
  unfold Mg.pure onlyP6 at o2
  simp only [Mp.mk.injEq, and_true, true_and] at o2
  unfold Mg.good
  rw [hB]
  have hd : decide (1 ≤ x.k ∧ x.k ≤ 8) = true := by rw [hk]; decide
  rw [hd]
  show x.may = true
  unfold Mg.may Mg.mayL
  rw [hk]
  obtain ⟨z_k, z_l, z_v, z_q, z_rs, z_vt, z_ce, z_cl, z_cv, z_he, z_ne, z_d, z_ct, z_cs, z_st, z_sg⟩ := o2
  have w_e : inB x.e 1048576 = true := inB_iff.2 k.1
  have w_l : inB x.l 64 = true := by rw [z_l]; decide
  have w_v : inB x.v 1099511627776 = true := by rw [z_v]; decide
  have w_s : inB x.s 1099511627776 = true := inB_iff.2 k.2
  have w_b : batMay x.q x.rs = true := may_bat (by rw [z_q, z_rs]; exact ⟨(fun e => by cases e), (by simp), fun r hr => by cases hr⟩)
  have w_c : chgMay x.ce x.cl x.cv x.he = true := may_chg (by rw [z_ce, z_cl, z_cv, show x.he.xs.map Hd.pure = [] from z_he]; exact ⟨(by decide), (by decide), (by decide), (by simp), fun r hr => by cases hr⟩)
  have w_n : Go.Proofs.YtinndbipomlokaaGreat.mayL 64 Ev.may x.ne.xs = true := by rw [z_ne]; rfl
  have w_t : decide ((x.st.size : Int) ≤ 4194304) = true := by rw [z_st]; rfl
  have w_g : sgsMay x.sg = true := may_sgs (by rw [z_sg]; exact ⟨(by simp), fun r hr => by cases hr⟩)
  have w_2 : (if (6 : Int) = 2 then x.vt.may else true) = true := rfl
  have w_7 : (if (6 : Int) = 7 then certMay x.ct x.cs else true) = true := rfl
  rw [w_e, w_l, w_v, w_s, w_b, w_c, w_n, w_t, w_g, w_2, w_7]
  rfl
 ·have hk : x.k = 7 := h
  have hp : x.pure = x.bare.pure := by rw [Mg.bare_7 hk]; exact o.symm
  have hB := Mg.B_eqv _ _ hp
  have o2 := o.symm
  unfold Mg.pure onlyP7 at o2
  simp only [Mp.mk.injEq, and_true, true_and] at o2
  unfold Mg.good
  rw [hB]
  have hd : decide (1 ≤ x.k ∧ x.k ≤ 8) = true := by rw [hk]; decide
  rw [hd]
  show x.may = true
  unfold Mg.may Mg.mayL
  rw [hk]
  obtain ⟨z_k, z_e, z_l, z_v, z_s, z_vt, z_ce, z_cl, z_cv, z_he, z_ne, z_d, z_st, z_sg⟩ := o2
  have w_e : inB x.e 1048576 = true := by rw [z_e]; decide
  have w_l : inB x.l 64 = true := by rw [z_l]; decide
  have w_v : inB x.v 1099511627776 = true := by rw [z_v]; decide
  have w_s : inB x.s 1099511627776 = true := by rw [z_s]; decide
  have w_b : batMay x.q x.rs = true := may_bat k.1
  have w_c : chgMay x.ce x.cl x.cv x.he = true := may_chg (by rw [z_ce, z_cl, z_cv, show x.he.xs.map Hd.pure = [] from z_he]; exact ⟨(by decide), (by decide), (by decide), (by simp), fun r hr => by cases hr⟩)
  have w_n : Go.Proofs.YtinndbipomlokaaGreat.mayL 64 Ev.may x.ne.xs = true := by rw [z_ne]; rfl
  have w_t : decide ((x.st.size : Int) ≤ 4194304) = true := by rw [z_st]; rfl
  have w_g : sgsMay x.sg = true := may_sgs (by rw [z_sg]; exact ⟨(by simp), fun r hr => by cases hr⟩)
  have w_2 : (if (7 : Int) = 2 then x.vt.may else true) = true := rfl
  have w_7 : (if (7 : Int) = 7 then certMay x.ct x.cs else true) = true := may_cert k.2
  rw [w_e, w_l, w_v, w_s, w_b, w_c, w_n, w_t, w_g, w_2, w_7]
  rfl
 ·have hk : x.k = 8 := h
  have hp : x.pure = x.bare.pure := by rw [Mg.bare_8 hk]; exact o.symm
  have hB := Mg.B_eqv _ _ hp
  have o2 := o.symm
  unfold Mg.pure onlyP8 at o2
  simp only [Mp.mk.injEq, and_true, true_and] at o2
  unfold Mg.good
  rw [hB]
  have hd : decide (1 ≤ x.k ∧ x.k ≤ 8) = true := by rw [hk]; decide
  rw [hd]
  show x.may = true
  unfold Mg.may Mg.mayL
  rw [hk]
  obtain ⟨z_k, z_e, z_l, z_v, z_s, z_q, z_rs, z_vt, z_ce, z_cl, z_cv, z_he, z_ne, z_d, z_ct, z_cs⟩ := o2
  have w_e : inB x.e 1048576 = true := by rw [z_e]; decide
  have w_l : inB x.l 64 = true := by rw [z_l]; decide
  have w_v : inB x.v 1099511627776 = true := by rw [z_v]; decide
  have w_s : inB x.s 1099511627776 = true := by rw [z_s]; decide
  have w_b : batMay x.q x.rs = true := may_bat (by rw [z_q, z_rs]; exact ⟨(fun e => by cases e), (by simp), fun r hr => by cases hr⟩)
  have w_c : chgMay x.ce x.cl x.cv x.he = true := may_chg (by rw [z_ce, z_cl, z_cv, show x.he.xs.map Hd.pure = [] from z_he]; exact ⟨(by decide), (by decide), (by decide), (by simp), fun r hr => by cases hr⟩)
  have w_n : Go.Proofs.YtinndbipomlokaaGreat.mayL 64 Ev.may x.ne.xs = true := by rw [z_ne]; rfl
  have w_t : decide ((x.st.size : Int) ≤ 4194304) = true := decide_eq_true k.1
  have w_g : sgsMay x.sg = true := may_sgs k.2
  have w_2 : (if (8 : Int) = 2 then x.vt.may else true) = true := rfl
  have w_7 : (if (8 : Int) = 7 then certMay x.ct x.cs else true) = true := rfl
  rw [w_e, w_l, w_v, w_s, w_b, w_c, w_n, w_t, w_g, w_2, w_7]
  rfl
structure Rp where
  k : Int
  l : Int
  v : Int
  s : Int
  q : Bool
  rs : List Rq
  ct : Vt
  cs : List Sg
  st : ByteArray
  sg : List Sg
def Rc.pure (r : Rc) : Rp := ⟨r.k, r.l, r.v, r.s, r.q, r.rs.xs, r.ct, r.cs.xs, r.st, r.sg.xs⟩
def Rp.mp (r : Rp) (k v : Int) : Mp := ⟨k, 0, r.l, v, r.s, r.q, r.rs, Vt.zero, 0, 0, 0, [], [], zeros32, r.ct, r.cs, r.st, r.sg⟩
theorem Rc.whole_pure (r : Rc) : r.whole.pure = r.pure.mp r.k r.v := rfl
theorem Rc.told_pure (r : Rc) : r.told.pure = r.pure.mp (mkK r.k) (if r.k = 1 then 0 else r.v) := rfl
def Rc.B (a b : Rc) : Bool := (a.k == b.k) && ((a.l == b.l) && ((a.v == b.v) && ((a.s == b.s) && ((a.st.toList == b.st.toList) && (batB a.q a.rs b.q b.rs && (certB a.ct a.cs b.ct b.cs && sameL Sg.B a.sg.xs b.sg.xs))))))
theorem Rc.B_whole (a b : Rc) : Mg.B a.whole b.whole = Rc.B a b := by
 have hv : vtB Vt.zero Vt.zero = true := vtB_iff.2 rfl
 have hh : sameL Hd.B ([] : List Hd) [] = true := rfl
 have he : sameL Ev.B ([] : List Ev) [] = true := rfl
 unfold Rc.B Mg.B Mg.nB Mg.fB Mg.lB chgB Rc.whole
 simp only [hv, hh, he, beq_self_eq_true, Bool.true_and]
 ac_rfl
theorem Rc.B_pure {a b : Rc} (h : Rc.B a b = true) : a.pure = b.pure := by
 rw [← Rc.B_whole] at h
 have e := Mg.B_pure _ _ h
 rw [Rc.whole_pure, Rc.whole_pure] at e
 unfold Rp.mp Rc.pure at e
 simp only [Mp.mk.injEq, true_and] at e
 unfold Rc.pure
 simp only [Rp.mk.injEq]
 obtain ⟨e1, e2, e3, e4, e5, e6, e7, e8, e9, e10⟩ := e
 exact ⟨e1, e2, e3, e4, e5, e6, e7, e8, e9, e10⟩
theorem Rc.B_eqv {a b : Rc} (h : a.pure = b.pure) : Rc.B a b = true := by
 rw [← Rc.B_whole]
 refine Mg.B_eqv _ _ ?_
 have hk : a.k = b.k := congrArg Rp.k h
 have hv : a.v = b.v := congrArg Rp.v h
 rw [Rc.whole_pure, Rc.whole_pure, h, hk, hv]
set_option maxRecDepth 100000 in
set_option maxHeartbeats 1000000 in
theorem xksame_any (a b : Rc) (w : World) (oa : a.ct.ok) (ob : b.ct.ok) (ha : a.At w) (hb : b.At w) : Calls Tryz.prog 14 #[.agg a.cells.toArray, .agg b.cells.toArray] w fun e w' => e = .returned (.bool (Rc.B a b)) ∧ Below w.heap.size w w' := by
 obtain ⟨hA, hA', hB, hs⟩ := two_boxG a.cells b.cells 33 w
 have ia : (Tryz.prog.info? 33).map (·.size) = some a.cells.length := by rw [Rc.len oa]; exact iszRc
 have ib : (Tryz.prog.info? 33).map (·.size) = some b.cells.length := by rw [Rc.len ob]; exact iszRc
 have ic : (Tryz.prog.info? 31).map (·.size) = some (certL a.ct a.cs).length := by rw [cert_len oa]; exact iszCe
 have ic2 : (Tryz.prog.info? 31).map (·.size) = some (certL b.ct b.cs).length := by rw [cert_len ob]; exact iszCe
 obtain ⟨W, hW⟩ : ∃ W, Hid ((w.alloc (.cells a.cells.toArray 33)).alloc (.cells b.cells.toArray 33) = W) := ⟨_, hide rfl⟩
 rw [hW.out] at hA hA' hB hs
 obtain ⟨arb, arc, a43, a44⟩ := rc_parts oa hA
 obtain ⟨brb, brc, b43, b44⟩ := rc_parts ob hA'
 have a0 : W.cell? ⟨w.heap.size, 0, none⟩ = some (.int .i64 a.k) := hA 0 _ rfl
 have a1 : W.cell? ⟨w.heap.size, 1, none⟩ = some (.int .i64 a.l) := hA 1 _ rfl
 have a2 : W.cell? ⟨w.heap.size, 2, none⟩ = some (.int .i64 a.v) := hA 2 _ rfl
 have a3 : W.cell? ⟨w.heap.size, 3, none⟩ = some (.int .i64 a.s) := hA 3 _ rfl
 have b0 : W.cell? ⟨w.heap.size + 1, 0, none⟩ = some (.int .i64 b.k) := hA' 0 _ rfl
 have b1 : W.cell? ⟨w.heap.size + 1, 1, none⟩ = some (.int .i64 b.l) := hA' 1 _ rfl
 have b2 : W.cell? ⟨w.heap.size + 1, 2, none⟩ = some (.int .i64 b.v) := hA' 2 _ rfl
 have b3 : W.cell? ⟨w.heap.size + 1, 3, none⟩ = some (.int .i64 b.s) := hA' 3 _ rfl
 have gB := xbsame_any a.q a.rs b.q b.rs W (ha.rs.below hB) (hb.rs.below hB)
 have gC := fun w0 (h0 : Below W.heap.size W w0) => xscert_any a.ct b.ct a.cs b.cs w0 oa ob (ha.cs.below (hB.trans (h0.mono hB.size))) (hb.cs.below (hB.trans (h0.mono hB.size)))
 have gS := fun w0 (h0 : Below W.heap.size W w0) => xequalS_anyB a.sg.a a.sg.cap a.sg.xs b.sg.a b.sg.cap b.sg.xs w0 (ha.sg.below (hB.trans (h0.mono hB.size))) (hb.sg.below (hB.trans (h0.mono hB.size)))
 have sC : w.heap.size + 1 < W.heap.size := hs
 have sA : w.heap.size < W.heap.size := Nat.lt_of_succ_lt sC
 obtain ⟨G, HG⟩ : ∃ G, Hid (Rc.B a b = G) := ⟨_, hide rfl⟩
 rw [HG.out]
 unfold Rc.B at HG
 obtain ⟨b5, hb5⟩ : ∃ q, batB a.q a.rs b.q b.rs = q := ⟨_, rfl⟩
 obtain ⟨b6, hb6⟩ : ∃ q, certB a.ct a.cs b.ct b.cs = q := ⟨_, rfl⟩
 obtain ⟨b7, hb7⟩ : ∃ q, sameL Sg.B a.sg.xs b.sg.xs = q := ⟨_, rfl⟩
 rw [hb5, hb6, hb7] at HG
 simp only [hb5] at gB
 simp only [hb6] at gC
 simp only [hb7] at gS
 obtain ⟨p0, hp0⟩ : ∃ p, Hid ((!(a.k == b.k)) = p) := ⟨_, hide rfl⟩
 obtain ⟨p1, hp1⟩ : ∃ p, Hid ((!(a.l == b.l)) = p) := ⟨_, hide rfl⟩
 obtain ⟨p2, hp2⟩ : ∃ p, Hid ((!(a.v == b.v)) = p) := ⟨_, hide rfl⟩
 obtain ⟨p3, hp3⟩ : ∃ p, Hid ((!(a.s == b.s)) = p) := ⟨_, hide rfl⟩
 obtain ⟨p4, hp4⟩ : ∃ p, Hid ((!(a.st.toList == b.st.toList)) = p) := ⟨_, hide rfl⟩
 replace HG : Hid (((!p0) && ((!p1) && ((!p2) && ((!p3) && ((!p4) && (b5 && (b6 && b7))))))) = G) := hide (by
  rw [← HG.out, ← hp0.out, ← hp1.out, ← hp2.out, ← hp3.out, ← hp4.out]
  simp only [Bool.not_not])
 clear hA hA' hs ha hb oa ob hb5 hb6 hb7
 have HS : Below W.heap.size W W := Below.refl _ _
 go_enter Tryz.func14, Tryz.ntmps14
 go_upto_region 1 with fail
 rw [hW.out]
 clear hW
 try simp only [Act.put]
 refine pl_begin ?_
 refine pl_t 5 (?_) (by rfl) ?_ rfl ?_
 rotate_left
 ·go_simp
  try with_reducible rfl
 simp only [nz]
 refine pl_t 6 (.int .i64 a.k) (by rfl) (pl_one rfl rfl a0 Tryz.underlying3 rfl) rfl ?_
 simp only [nz]
 refine pl_t 7 (?_) (by rfl) ?_ rfl ?_
 rotate_left
 ·go_simp
  try with_reducible rfl
 simp only [nz]
 refine pl_t 8 (.int .i64 b.k) (by rfl) (pl_one rfl rfl b0 Tryz.underlying3 rfl) rfl ?_
 simp only [nz]
 refine pl_t 9 (.bool p0) (by rfl) (by have q := hp0.out; cases p0 <;> simp at q <;> go_simp <;> simp [q]) rfl ?_
 simp only [nz]
 cases p0
 ·refine pl_t 10 (?_) (by rfl) ?_ rfl ?_
  rotate_left
  ·go_simp
   try with_reducible rfl
  simp only [nz]
  refine pl_t 11 (?_) (by rfl) ?_ rfl ?_
  rotate_left
  ·go_simp
   try with_reducible rfl
  simp only [nz]
  refine pl_t 12 (.int .i64 a.l) (by rfl) (pl_one rfl rfl a1 Tryz.underlying3 rfl) rfl ?_
  simp only [nz]
  refine pl_t 13 (?_) (by rfl) ?_ rfl ?_
  rotate_left
  ·go_simp
   try with_reducible rfl
  simp only [nz]
  refine pl_t 14 (.int .i64 b.l) (by rfl) (pl_one rfl rfl b1 Tryz.underlying3 rfl) rfl ?_
  simp only [nz]
  refine pl_t 15 (.bool p1) (by rfl) (by have q := hp1.out; cases p1 <;> simp at q <;> go_simp <;> simp [q]) rfl ?_
  simp only [nz]
  cases p1
  ·refine pl_t 16 (?_) (by rfl) ?_ rfl ?_
   rotate_left
   ·go_simp
    try with_reducible rfl
   simp only [nz]
   refine pl_t 17 (?_) (by rfl) ?_ rfl ?_
   rotate_left
   ·go_simp
    try with_reducible rfl
   simp only [nz]
   refine pl_t 18 (?_) (by rfl) ?_ rfl ?_
   rotate_left
   ·go_simp
    try with_reducible rfl
   simp only [nz]
   refine pl_t 19 (.int .i64 a.v) (by rfl) (pl_one rfl rfl a2 Tryz.underlying3 rfl) rfl ?_
   simp only [nz]
   refine pl_t 20 (?_) (by rfl) ?_ rfl ?_
   rotate_left
   ·go_simp
    try with_reducible rfl
   simp only [nz]
   refine pl_t 21 (.int .i64 b.v) (by rfl) (pl_one rfl rfl b2 Tryz.underlying3 rfl) rfl ?_
   simp only [nz]
   refine pl_t 22 (.bool p2) (by rfl) (by have q := hp2.out; cases p2 <;> simp at q <;> go_simp <;> simp [q]) rfl ?_
   simp only [nz]
   cases p2
   ·refine pl_t 23 (?_) (by rfl) ?_ rfl ?_
    rotate_left
    ·go_simp
     try with_reducible rfl
    simp only [nz]
    refine pl_t 24 (?_) (by rfl) ?_ rfl ?_
    rotate_left
    ·go_simp
     try with_reducible rfl
    simp only [nz]
    refine pl_t 25 (?_) (by rfl) ?_ rfl ?_
    rotate_left
    ·go_simp
     try with_reducible rfl
    simp only [nz]
    refine pl_t 26 (.int .i64 a.s) (by rfl) (pl_one rfl rfl a3 Tryz.underlying3 rfl) rfl ?_
    simp only [nz]
    refine pl_t 27 (?_) (by rfl) ?_ rfl ?_
    rotate_left
    ·go_simp
     try with_reducible rfl
    simp only [nz]
    refine pl_t 28 (.int .i64 b.s) (by rfl) (pl_one rfl rfl b3 Tryz.underlying3 rfl) rfl ?_
    simp only [nz]
    refine pl_t 29 (.bool p3) (by rfl) (by have q := hp3.out; cases p3 <;> simp at q <;> go_simp <;> simp [q]) rfl ?_
    simp only [nz]
    cases p3
    ·refine pl_t 30 (?_) (by rfl) ?_ rfl ?_
     rotate_left
     ·go_simp
      try with_reducible rfl
     simp only [nz]
     refine pl_t 31 (?_) (by rfl) ?_ rfl ?_
     rotate_left
     ·go_simp
      try with_reducible rfl
     simp only [nz]
     refine pl_t 32 (?_) (by rfl) ?_ rfl ?_
     rotate_left
     ·go_simp
      try with_reducible rfl
     simp only [nz]
     refine pl_t 33 (.string a.st) (by rfl) (pl_one rfl rfl a43 Tryz.underlying9 rfl) rfl ?_
     simp only [nz]
     refine pl_t 34 (?_) (by rfl) ?_ rfl ?_
     rotate_left
     ·go_simp
      try with_reducible rfl
     simp only [nz]
     refine pl_t 35 (.string b.st) (by rfl) (pl_one rfl rfl b43 Tryz.underlying9 rfl) rfl ?_
     simp only [nz]
     refine pl_t 36 (.bool p4) (by rfl) (by have q := hp4.out; cases p4 <;> simp at q <;> go_simp <;> simp [q]) rfl ?_
     simp only [nz]
     cases p4
     ·refine pl_t 37 (?_) (by rfl) ?_ rfl ?_
      rotate_left
      ·go_simp
       try with_reducible rfl
      simp only [nz]
      refine pl_nil ?_
      go_upto_region 3 with fail
      try simp only [Act.put]
      refine pl_begin ?_
      refine pl_t 38 (?_) (by rfl) ?_ rfl ?_
      rotate_left
      ·go_simp
       try with_reducible rfl
      simp only [nz]
      refine pl_t 39 (.agg #[.bool a.q, a.rs.val]) (by rfl) (ex_mid rfl rfl arb Tryz.underlying24 rfl iszBa) rfl ?_
      simp only [nz]
      refine pl_t 40 (?_) (by rfl) ?_ rfl ?_
      rotate_left
      ·go_simp
       try with_reducible rfl
      simp only [nz]
      refine pl_t 41 (.agg #[.bool b.q, b.rs.val]) (by rfl) (ex_mid rfl rfl brb Tryz.underlying24 rfl iszBa) rfl ?_
      simp only [nz]
      refine pl_call (d := some 42) (by rfl) (by go_simp; first | done | exact ⟨rfl, rfl⟩ | with_reducible rfl) rfl ?_
      refine (gB).mono ?_
      rintro _ w9 ⟨rfl, hb9⟩
      replace HS := HS.trans (hb9.mono HS.size)
      clear hb9
      refine ⟨_, rfl, ?_⟩
      simp only [nz]
      cases b5
      ·refine pl_t 43 (?_) (by rfl) ?_ rfl ?_
       rotate_left
       ·go_simp
        try with_reducible rfl
       simp only [nz]
       refine pl_skip (d := some 44) (by rfl) rfl ?_
       simp only [nz]
       refine pl_skip (d := some 45) (by rfl) rfl ?_
       simp only [nz]
       refine pl_skip (d := some 46) (by rfl) rfl ?_
       simp only [nz]
       refine pl_skip (d := some 47) (by rfl) rfl ?_
       simp only [nz]
       refine pl_skip (d := some 48) (by rfl) rfl ?_
       simp only [nz]
       refine pl_t 49 (?_) (by rfl) ?_ rfl ?_
       rotate_left
       ·go_simp
        try with_reducible rfl
       simp only [nz]
       refine pl_t 50 (?_) (by rfl) ?_ rfl ?_
       rotate_left
       ·go_simp
        try with_reducible rfl
       simp only [nz]
       refine pl_skip (d := some 51) (by rfl) rfl ?_
       simp only [nz]
       refine pl_skip (d := some 52) (by rfl) rfl ?_
       simp only [nz]
       refine pl_skip (d := some 53) (by rfl) rfl ?_
       simp only [nz]
       refine pl_skip (d := some 54) (by rfl) rfl ?_
       simp only [nz]
       refine pl_skip (d := some 55) (by rfl) rfl ?_
       simp only [nz]
       refine pl_t 56 (?_) (by rfl) ?_ rfl ?_
       rotate_left
       ·go_simp
        try with_reducible rfl
       simp only [nz]
       refine pl_t 4 (?_) (by rfl) ?_ rfl ?_
       rotate_left
       ·go_simp
        try with_reducible rfl
       simp only [nz]
       refine pl_nil ?_
       go_wp2_with fail
       go_ret
       exact ⟨by have := HG.out; simp at this; subst this; rfl, hB.trans (HS.mono hB.size)⟩
      ·refine pl_t 43 (?_) (by rfl) ?_ rfl ?_
       rotate_left
       ·go_simp
        try with_reducible rfl
       simp only [nz]
       refine pl_t 44 (?_) (by rfl) ?_ rfl ?_
       rotate_left
       ·go_simp
        try with_reducible rfl
       simp only [nz]
       refine pl_t 45 (.agg (certL a.ct a.cs).toArray) (by rfl) (ex_mid rfl rfl (range_below arc HS sA) Tryz.underlying31 rfl ic) rfl ?_
       simp only [nz]
       refine pl_t 46 (?_) (by rfl) ?_ rfl ?_
       rotate_left
       ·go_simp
        try with_reducible rfl
       simp only [nz]
       refine pl_t 47 (.agg (certL b.ct b.cs).toArray) (by rfl) (ex_mid rfl rfl (range_below brc HS sC) Tryz.underlying31 rfl ic2) rfl ?_
       simp only [nz]
       refine pl_call (d := some 48) (by rfl) (by go_simp; first | done | exact ⟨rfl, rfl⟩ | with_reducible rfl) rfl ?_
       refine (gC w9 HS).mono ?_
       rintro _ w10 ⟨rfl, hb9⟩
       replace HS := HS.trans (hb9.mono HS.size)
       clear hb9
       refine ⟨_, rfl, ?_⟩
       simp only [nz]
       cases b6
       ·refine pl_t 49 (?_) (by rfl) ?_ rfl ?_
        rotate_left
        ·go_simp
         try with_reducible rfl
        simp only [nz]
        refine pl_t 50 (?_) (by rfl) ?_ rfl ?_
        rotate_left
        ·go_simp
         try with_reducible rfl
        simp only [nz]
        refine pl_skip (d := some 51) (by rfl) rfl ?_
        simp only [nz]
        refine pl_skip (d := some 52) (by rfl) rfl ?_
        simp only [nz]
        refine pl_skip (d := some 53) (by rfl) rfl ?_
        simp only [nz]
        refine pl_skip (d := some 54) (by rfl) rfl ?_
        simp only [nz]
        refine pl_skip (d := some 55) (by rfl) rfl ?_
        simp only [nz]
        refine pl_t 56 (?_) (by rfl) ?_ rfl ?_
        rotate_left
        ·go_simp
         try with_reducible rfl
        simp only [nz]
        refine pl_t 4 (?_) (by rfl) ?_ rfl ?_
        rotate_left
        ·go_simp
         try with_reducible rfl
        simp only [nz]
        refine pl_nil ?_
        go_wp2_with fail
        go_ret
        exact ⟨by have := HG.out; simp at this; subst this; rfl, hB.trans (HS.mono hB.size)⟩
       ·refine pl_t 49 (?_) (by rfl) ?_ rfl ?_
        rotate_left
        ·go_simp
         try with_reducible rfl
        simp only [nz]
        refine pl_t 50 (?_) (by rfl) ?_ rfl ?_
        rotate_left
        ·go_simp
         try with_reducible rfl
        simp only [nz]
        refine pl_t 51 (?_) (by rfl) ?_ rfl ?_
        rotate_left
        ·go_simp
         try with_reducible rfl
        simp only [nz]
        refine pl_t 52 (a.sg.val) (by rfl) (pl_one rfl rfl ((HS.cell (p := ⟨w.heap.size, 44, none⟩) sA).trans a44) Tryz.underlying29 rfl) rfl ?_
        simp only [nz]
        refine pl_t 53 (?_) (by rfl) ?_ rfl ?_
        rotate_left
        ·go_simp
         try with_reducible rfl
        simp only [nz]
        refine pl_t 54 (b.sg.val) (by rfl) (pl_one rfl rfl ((HS.cell (p := ⟨w.heap.size + 1, 44, none⟩) sC).trans b44) Tryz.underlying29 rfl) rfl ?_
        simp only [nz]
        refine pl_call (d := some 55) (by rfl) (by go_simp; first | done | exact ⟨rfl, rfl⟩ | with_reducible rfl) rfl ?_
        refine (gS w10 HS).mono ?_
        rintro _ w11 ⟨rfl, hb9⟩
        replace HS := HS.trans (hb9.mono HS.size)
        clear hb9
        refine ⟨_, rfl, ?_⟩
        simp only [nz]
        cases b7
        ·refine pl_t 56 (?_) (by rfl) ?_ rfl ?_
         rotate_left
         ·go_simp
          try with_reducible rfl
         simp only [nz]
         refine pl_t 4 (?_) (by rfl) ?_ rfl ?_
         rotate_left
         ·go_simp
          try with_reducible rfl
         simp only [nz]
         refine pl_nil ?_
         go_wp2_with fail
         go_ret
         exact ⟨by have := HG.out; simp at this; subst this; rfl, hB.trans (HS.mono hB.size)⟩
        ·refine pl_t 56 (?_) (by rfl) ?_ rfl ?_
         rotate_left
         ·go_simp
          try with_reducible rfl
         simp only [nz]
         refine pl_t 4 (?_) (by rfl) ?_ rfl ?_
         rotate_left
         ·go_simp
          try with_reducible rfl
         simp only [nz]
         refine pl_nil ?_
         go_wp2_with fail
         go_ret
         exact ⟨by have := HG.out; simp at this; subst this; rfl, hB.trans (HS.mono hB.size)⟩
     ·refine pl_t 37 (?_) (by rfl) ?_ rfl ?_
      rotate_left
      ·go_simp
       try with_reducible rfl
      simp only [nz]
      refine pl_nil ?_
      go_wp2_with fail
      go_ret
      exact ⟨by have := HG.out; simp at this; subst this; rfl, hB⟩
    ·refine pl_t 30 (?_) (by rfl) ?_ rfl ?_
     rotate_left
     ·go_simp
      try with_reducible rfl
     simp only [nz]
     refine pl_t 31 (?_) (by rfl) ?_ rfl ?_
     rotate_left
     ·go_simp
      try with_reducible rfl
     simp only [nz]
     refine pl_skip (d := some 32) (by rfl) rfl ?_
     simp only [nz]
     refine pl_skip (d := some 33) (by rfl) rfl ?_
     simp only [nz]
     refine pl_skip (d := some 34) (by rfl) rfl ?_
     simp only [nz]
     refine pl_skip (d := some 35) (by rfl) rfl ?_
     simp only [nz]
     refine pl_skip (d := some 36) (by rfl) rfl ?_
     simp only [nz]
     refine pl_t 37 (?_) (by rfl) ?_ rfl ?_
     rotate_left
     ·go_simp
      try with_reducible rfl
     simp only [nz]
     refine pl_nil ?_
     go_wp2_with fail
     go_ret
     exact ⟨by have := HG.out; simp at this; subst this; rfl, hB⟩
   ·refine pl_t 23 (?_) (by rfl) ?_ rfl ?_
    rotate_left
    ·go_simp
     try with_reducible rfl
    simp only [nz]
    refine pl_t 24 (?_) (by rfl) ?_ rfl ?_
    rotate_left
    ·go_simp
     try with_reducible rfl
    simp only [nz]
    refine pl_skip (d := some 25) (by rfl) rfl ?_
    simp only [nz]
    refine pl_skip (d := some 26) (by rfl) rfl ?_
    simp only [nz]
    refine pl_skip (d := some 27) (by rfl) rfl ?_
    simp only [nz]
    refine pl_skip (d := some 28) (by rfl) rfl ?_
    simp only [nz]
    refine pl_skip (d := some 29) (by rfl) rfl ?_
    simp only [nz]
    refine pl_t 30 (?_) (by rfl) ?_ rfl ?_
    rotate_left
    ·go_simp
     try with_reducible rfl
    simp only [nz]
    refine pl_t 31 (?_) (by rfl) ?_ rfl ?_
    rotate_left
    ·go_simp
     try with_reducible rfl
    simp only [nz]
    refine pl_skip (d := some 32) (by rfl) rfl ?_
    simp only [nz]
    refine pl_skip (d := some 33) (by rfl) rfl ?_
    simp only [nz]
    refine pl_skip (d := some 34) (by rfl) rfl ?_
    simp only [nz]
    refine pl_skip (d := some 35) (by rfl) rfl ?_
    simp only [nz]
    refine pl_skip (d := some 36) (by rfl) rfl ?_
    simp only [nz]
    refine pl_t 37 (?_) (by rfl) ?_ rfl ?_
    rotate_left
    ·go_simp
     try with_reducible rfl
    simp only [nz]
    refine pl_nil ?_
    go_wp2_with fail
    go_ret
    exact ⟨by have := HG.out; simp at this; subst this; rfl, hB⟩
  ·refine pl_t 16 (?_) (by rfl) ?_ rfl ?_
   rotate_left
   ·go_simp
    try with_reducible rfl
   simp only [nz]
   refine pl_t 17 (?_) (by rfl) ?_ rfl ?_
   rotate_left
   ·go_simp
    try with_reducible rfl
   simp only [nz]
   refine pl_skip (d := some 18) (by rfl) rfl ?_
   simp only [nz]
   refine pl_skip (d := some 19) (by rfl) rfl ?_
   simp only [nz]
   refine pl_skip (d := some 20) (by rfl) rfl ?_
   simp only [nz]
   refine pl_skip (d := some 21) (by rfl) rfl ?_
   simp only [nz]
   refine pl_skip (d := some 22) (by rfl) rfl ?_
   simp only [nz]
   refine pl_t 23 (?_) (by rfl) ?_ rfl ?_
   rotate_left
   ·go_simp
    try with_reducible rfl
   simp only [nz]
   refine pl_t 24 (?_) (by rfl) ?_ rfl ?_
   rotate_left
   ·go_simp
    try with_reducible rfl
   simp only [nz]
   refine pl_skip (d := some 25) (by rfl) rfl ?_
   simp only [nz]
   refine pl_skip (d := some 26) (by rfl) rfl ?_
   simp only [nz]
   refine pl_skip (d := some 27) (by rfl) rfl ?_
   simp only [nz]
   refine pl_skip (d := some 28) (by rfl) rfl ?_
   simp only [nz]
   refine pl_skip (d := some 29) (by rfl) rfl ?_
   simp only [nz]
   refine pl_t 30 (?_) (by rfl) ?_ rfl ?_
   rotate_left
   ·go_simp
    try with_reducible rfl
   simp only [nz]
   refine pl_t 31 (?_) (by rfl) ?_ rfl ?_
   rotate_left
   ·go_simp
    try with_reducible rfl
   simp only [nz]
   refine pl_skip (d := some 32) (by rfl) rfl ?_
   simp only [nz]
   refine pl_skip (d := some 33) (by rfl) rfl ?_
   simp only [nz]
   refine pl_skip (d := some 34) (by rfl) rfl ?_
   simp only [nz]
   refine pl_skip (d := some 35) (by rfl) rfl ?_
   simp only [nz]
   refine pl_skip (d := some 36) (by rfl) rfl ?_
   simp only [nz]
   refine pl_t 37 (?_) (by rfl) ?_ rfl ?_
   rotate_left
   ·go_simp
    try with_reducible rfl
   simp only [nz]
   refine pl_nil ?_
   go_wp2_with fail
   go_ret
   exact ⟨by have := HG.out; simp at this; subst this; rfl, hB⟩
 ·refine pl_t 10 (?_) (by rfl) ?_ rfl ?_
  rotate_left
  ·go_simp
   try with_reducible rfl
  simp only [nz]
  refine pl_skip (d := some 11) (by rfl) rfl ?_
  simp only [nz]
  refine pl_skip (d := some 12) (by rfl) rfl ?_
  simp only [nz]
  refine pl_skip (d := some 13) (by rfl) rfl ?_
  simp only [nz]
  refine pl_skip (d := some 14) (by rfl) rfl ?_
  simp only [nz]
  refine pl_skip (d := some 15) (by rfl) rfl ?_
  simp only [nz]
  refine pl_t 16 (?_) (by rfl) ?_ rfl ?_
  rotate_left
  ·go_simp
   try with_reducible rfl
  simp only [nz]
  refine pl_t 17 (?_) (by rfl) ?_ rfl ?_
  rotate_left
  ·go_simp
   try with_reducible rfl
  simp only [nz]
  refine pl_skip (d := some 18) (by rfl) rfl ?_
  simp only [nz]
  refine pl_skip (d := some 19) (by rfl) rfl ?_
  simp only [nz]
  refine pl_skip (d := some 20) (by rfl) rfl ?_
  simp only [nz]
  refine pl_skip (d := some 21) (by rfl) rfl ?_
  simp only [nz]
  refine pl_skip (d := some 22) (by rfl) rfl ?_
  simp only [nz]
  refine pl_t 23 (?_) (by rfl) ?_ rfl ?_
  rotate_left
  ·go_simp
   try with_reducible rfl
  simp only [nz]
  refine pl_t 24 (?_) (by rfl) ?_ rfl ?_
  rotate_left
  ·go_simp
   try with_reducible rfl
  simp only [nz]
  refine pl_skip (d := some 25) (by rfl) rfl ?_
  simp only [nz]
  refine pl_skip (d := some 26) (by rfl) rfl ?_
  simp only [nz]
  refine pl_skip (d := some 27) (by rfl) rfl ?_
  simp only [nz]
  refine pl_skip (d := some 28) (by rfl) rfl ?_
  simp only [nz]
  refine pl_skip (d := some 29) (by rfl) rfl ?_
  simp only [nz]
  refine pl_t 30 (?_) (by rfl) ?_ rfl ?_
  rotate_left
  ·go_simp
   try with_reducible rfl
  simp only [nz]
  refine pl_t 31 (?_) (by rfl) ?_ rfl ?_
  rotate_left
  ·go_simp
   try with_reducible rfl
  simp only [nz]
  refine pl_skip (d := some 32) (by rfl) rfl ?_
  simp only [nz]
  refine pl_skip (d := some 33) (by rfl) rfl ?_
  simp only [nz]
  refine pl_skip (d := some 34) (by rfl) rfl ?_
  simp only [nz]
  refine pl_skip (d := some 35) (by rfl) rfl ?_
  simp only [nz]
  refine pl_skip (d := some 36) (by rfl) rfl ?_
  simp only [nz]
  refine pl_t 37 (?_) (by rfl) ?_ rfl ?_
  rotate_left
  ·go_simp
   try with_reducible rfl
  simp only [nz]
  refine pl_nil ?_
  go_wp2_with fail
  go_ret
  exact ⟨by have := HG.out; simp at this; subst this; rfl, hB⟩
theorem bat_all (q : Bool) (x : Sl Rq) : (#[Value.bool q, x.val] : Array Value).all (·.oneCell') = true := all_one (cs := [.bool q, x.val]) (by
 intro v hv
 simp only [List.mem_cons, List.not_mem_nil, or_false] at hv
 rcases hv with rfl | rfl <;> rfl)
def Rc.zero (k : Int) : Rc := ⟨k, 0, 0, 0, false, ⟨none, 0, []⟩, Vt.zero, ⟨none, 0, []⟩, ⟨#[]⟩, ⟨none, 0, []⟩⟩
def Rc.bare (r : Rc) : Rc :=
  if r.k = 1 then { Rc.zero 1 with s := r.s, v := r.v, q := r.q, rs := r.rs }
  else if r.k = 2 then { Rc.zero 2 with q := r.q, rs := r.rs, ct := r.ct, cs := r.cs }
  else if r.k = 4 then { Rc.zero 4 with q := r.q, rs := r.rs, ct := r.ct, cs := r.cs }
  else if r.k = 3 then { Rc.zero 3 with l := r.l, v := r.v }
  else if r.k = 5 then { Rc.zero 5 with st := r.st, sg := r.sg }
  else Rc.zero r.k
theorem Rc.zero_at (k : Int) (w : World) : (Rc.zero k).At w := ⟨RowsAt.none, RowsAt.none, RowsAt.none⟩
theorem Rc.bare_ok {r : Rc} (h : r.ct.ok) : r.bare.ct.ok := by
 unfold Rc.bare
 split
 ·exact Vt.zero_ok
 split
 ·exact h
 split
 ·exact h
 split
 ·exact Vt.zero_ok
 split
 ·exact Vt.zero_ok
 ·exact Vt.zero_ok
theorem Rc.bare_at {r : Rc} {w : World} (h : r.At w) : r.bare.At w := by
 unfold Rc.bare
 split
 ·exact ⟨h.rs, RowsAt.none, RowsAt.none⟩
 split
 ·exact ⟨h.rs, h.cs, RowsAt.none⟩
 split
 ·exact ⟨h.rs, h.cs, RowsAt.none⟩
 split
 ·exact ⟨RowsAt.none, RowsAt.none, RowsAt.none⟩
 split
 ·exact ⟨RowsAt.none, RowsAt.none, h.sg⟩
 ·exact Rc.zero_at _ w
def placesR : Array (Nat × Nat) := #[(0, 1), (1, 1), (2, 1), (3, 1), (4, 2), (6, 37), (43, 1), (44, 1)]
theorem zeroRc (w : World) : (zeroValue 33).run Tryz.prog w = .ok (.agg (Rc.zero 0).cells.toArray) w := by kernel_rfl
set_option maxRecDepth 100000 in
theorem build_rec (parts : Array (Nat × Value)) (cs : List Value) (w : World) (h : Instr.fill (placesR[·]?) (Rc.zero 0).cells.toArray parts.toList = some cs.toArray) : (Instr.build 33 parts).run Tryz.prog w = .ok (.agg cs.toArray) w := by
 have hp : (((Tryz.prog.fieldsOf 33).mapM fun f => do pure (f.offset, ← sizeOf f.type) : Sem (Array (Nat × Nat)))).run Tryz.prog w = .ok placesR w := by kernel_rfl
 have hu : Tryz.prog.underlying 33 = some (.struct (Tryz.prog.fieldsOf 33)) := by kernel_rfl
 unfold Instr.build
 simp only [Sem.run_bind, zeroRc, Result.andThen_ok, run_underlying hu]
 rw [hp]
 simp only [Result.andThen_ok, Value.cells]
 rw [h]
 rfl
structure OnB (w : World) (A R X : Nat) (r c : Rc) (W : World) : Prop where
  box : W.rangeAt A 0 r.cells
  own : W.rangeAt X 0 c.cells
  thX : W.there X 0 45
  thR : W.there R 0 45
  hb : Below w.heap.size w W
theorem OnB.put {w W : World} {A R X : Nat} {r c c' : Rc} (h : OnB w A R X r c W) (hA : A ≠ X) (hX : w.heap.size ≤ X) (pre mid vs post : List Value) (e1 : c.cells = pre ++ (mid ++ post)) (e2 : c'.cells = pre ++ (vs ++ post)) (o : Nat) (ho : pre.length = o) (hl : vs.length = mid.length) (hn : o + vs.length ≤ 45) : OnB w A R X r c' (W.setCells X o vs) :=
 ⟨World.rangeAt_setCells_apart h.box X o vs (.inl hA), by rw [e2]; exact range_put (by rw [← e1]; exact h.own) o ho (there_part1 h.thX hn) hl, World.there_setCells h.thX X o vs, World.there_setCells h.thR X o vs, below_sets hX vs o _ h.hb⟩
theorem OnB.l {w W : World} {A R X : Nat} {r c : Rc} (h : OnB w A R X r c W) (hA : A ≠ X) (hX : w.heap.size ≤ X) (x : Int) : OnB w A R X r { c with l := x } (W.setCells X 1 [.int .i64 x]) :=
 h.put hA hX [.int .i64 c.k] [.int .i64 c.l] [.int .i64 x] _ rfl rfl 1 rfl rfl (by simp)
theorem OnB.v {w W : World} {A R X : Nat} {r c : Rc} (h : OnB w A R X r c W) (hA : A ≠ X) (hX : w.heap.size ≤ X) (x : Int) : OnB w A R X r { c with v := x } (W.setCells X 2 [.int .i64 x]) :=
 h.put hA hX [.int .i64 c.k, .int .i64 c.l] [.int .i64 c.v] [.int .i64 x] _ rfl rfl 2 rfl rfl (by simp)
theorem OnB.s {w W : World} {A R X : Nat} {r c : Rc} (h : OnB w A R X r c W) (hA : A ≠ X) (hX : w.heap.size ≤ X) (x : Int) : OnB w A R X r { c with s := x } (W.setCells X 3 [.int .i64 x]) :=
 h.put hA hX [.int .i64 c.k, .int .i64 c.l, .int .i64 c.v] [.int .i64 c.s] [.int .i64 x] _ rfl rfl 3 rfl rfl (by simp)
theorem OnB.b {w W : World} {A R X : Nat} {r c : Rc} (h : OnB w A R X r c W) (hA : A ≠ X) (hX : w.heap.size ≤ X) (q : Bool) (x : Sl Rq) : OnB w A R X r { c with q := q, rs := x } (W.setCells X 4 [.bool q, x.val]) :=
 h.put hA hX [.int .i64 c.k, .int .i64 c.l, .int .i64 c.v, .int .i64 c.s] [.bool c.q, c.rs.val] [.bool q, x.val] _ rfl rfl 4 rfl rfl (by simp)
theorem OnB.c {w W : World} {A R X : Nat} {r c : Rc} (h : OnB w A R X r c W) (hA : A ≠ X) (hX : w.heap.size ≤ X) (hc : c.ct.ok) (y : Vt) (hy : y.ok) (x : Sl Sg) : OnB w A R X r { c with ct := y, cs := x } (W.setCells X 6 (certL y x)) :=
 h.put hA hX [.int .i64 c.k, .int .i64 c.l, .int .i64 c.v, .int .i64 c.s, .bool c.q, c.rs.val] (certL c.ct c.cs) (certL y x) _ rfl rfl 6 rfl (by rw [cert_len hc, cert_len hy]) (by rw [cert_len hy]; decide)
theorem OnB.t {w W : World} {A R X : Nat} {r c : Rc} (h : OnB w A R X r c W) (hA : A ≠ X) (hX : w.heap.size ≤ X) (hc : c.ct.ok) (x : ByteArray) : OnB w A R X r { c with st := x } (W.setCells X 43 [.string x]) :=
 h.put hA hX ([.int .i64 c.k, .int .i64 c.l, .int .i64 c.v, .int .i64 c.s, .bool c.q, c.rs.val] ++ certL c.ct c.cs) [.string c.st] [.string x] [c.sg.val] (by simp [Rc.cells]) (by simp [Rc.cells]) 43 (by rw [List.length_append, cert_len hc]; rfl) rfl (by simp)
theorem OnB.g {w W : World} {A R X : Nat} {r c : Rc} (h : OnB w A R X r c W) (hA : A ≠ X) (hX : w.heap.size ≤ X) (hc : c.ct.ok) (x : Sl Sg) : OnB w A R X r { c with sg := x } (W.setCells X 44 [x.val]) :=
 h.put hA hX ([.int .i64 c.k, .int .i64 c.l, .int .i64 c.v, .int .i64 c.s, .bool c.q, c.rs.val] ++ (certL c.ct c.cs ++ [.string c.st])) [c.sg.val] [x.val] [] (by simp [Rc.cells]) (by simp [Rc.cells]) 44 (by simp [cert_len hc]) rfl (by simp)
theorem Rc.bare1 {r : Rc} (h : r.k = 1) : r.bare = { Rc.zero r.k with s := r.s, v := r.v, q := r.q, rs := r.rs } := by
 unfold Rc.bare
 rw [h]
 simp
theorem Rc.bare2 {r : Rc} (h : r.k = 2) : r.bare = { Rc.zero r.k with q := r.q, rs := r.rs, ct := r.ct, cs := r.cs } := by
 unfold Rc.bare
 rw [h]
 simp
theorem Rc.bare4 {r : Rc} (h : r.k = 4) : r.bare = { Rc.zero r.k with q := r.q, rs := r.rs, ct := r.ct, cs := r.cs } := by
 unfold Rc.bare
 rw [h]
 simp
theorem Rc.bare3 {r : Rc} (h : r.k = 3) : r.bare = { Rc.zero r.k with l := r.l, v := r.v } := by
 unfold Rc.bare
 rw [h]
 simp
theorem Rc.bare5 {r : Rc} (h : r.k = 5) : r.bare = { Rc.zero r.k with st := r.st, sg := r.sg } := by
 unfold Rc.bare
 rw [h]
 simp
end Go.Proofs.YtinndbipomlokaaGreat
