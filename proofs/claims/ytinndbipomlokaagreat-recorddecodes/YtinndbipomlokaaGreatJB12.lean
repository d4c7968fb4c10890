/- the document's fields: kind 6; the document's fields: kind 7; the document's fields: kind 8; the document's Decode; both Decodes are the same: what is pure; what is read comes back, and has one form: the words; messages come back, and have one form: what is pure; good messages: with and without their places -/
import Derived.Test.YtinndbipomlokaaGreatJB0
import Derived.Test.YtinndbipomlokaaGreatJB11
import Derived.Test.YtinndbipomlokaaGreatJB2
import Derived.Test.YtinndbipomlokaaGreatJB5
namespace Go.Proofs.YtinndbipomlokaaGreat
open Go.RowKit
open Sha Tal
set_option linter.unusedVariables false
set_option linter.unusedSimpArgs false
set_option maxRecDepth 100000 in
set_option maxHeartbeats 1000000 in
theorem xfieldsK6 (D X : Nat) (s : Xst) (w : World) (h : XR w D X s)  : Calls Tryz.prog 80 #[.pointer (some ⟨X, 0, none⟩), .agg (Ms.plain 6 0 0 Vt.zero zeros32).cells.toArray] w fun en w' => ∃ m : Mg, en = .returned (.agg m.ms.cells.toArray) ∧ m.pure = (xmg6 s).1 ∧ m.ok ∧ m.At w' ∧ m.Bk (fun b => w.heap.size ≤ b) ∧ XR w' D X (xmg6 s).2 ∧ w.grownBy w' (some X) := by
 have hXw := h.lx
 unfold xmg6
 have c_a := fun w0 h0 => xnumS D X 1048576 s w0 h0
 generalize xnuS 1048576 s = p_ at c_a ⊢
 obtain ⟨v_a, s_a⟩ := p_
 simp only at c_a ⊢
 have c_b := fun w0 h0 => xnumS D X 1099511627776 s_a w0 h0
 generalize xnuS 1099511627776 s_a = p_ at c_b ⊢
 obtain ⟨v_b, s_b⟩ := p_
 simp only at c_b ⊢
 obtain ⟨zc, hzl, hzr⟩ : ∃ z : List Value, z.length = 119 ∧ ∀ w : World, (zeroValue 63).run Tryz.prog w = .ok (.agg z.toArray) w := ⟨_, (Ms.plain_ok 0 0 0 Vt.zero_ok zeros32_len zeros32_byte).len, zeroM⟩
 have hql := (ms0_ok 6).len
 have hk0 : ∀ (w' : World) b, w'.rangeAt b 0 (Ms.plain 6 0 0 Vt.zero zeros32).cells → w'.cell? ⟨b, 0, none⟩ = some (.int .i64 6) := fun w' b h => ((ms0_ok 6).at h).k
 obtain ⟨qk, hqk⟩ : ∃ q, Hid ((Ms.plain 6 0 0 Vt.zero zeros32).cells = q) := ⟨_, hide rfl⟩
 simp only [hqk.out] at hql hk0 ⊢
 obtain ⟨hB1, hr1, hs1⟩ := boxed_new w qk 63
 have ht1 := there_newN w qk.toArray 63 (n := 119) (by simp [hql])
 go_enter Tryz.func80, Tryz.ntmps80
 go_upto_region 0 with fail
 try simp only [Act.put]
 refine pl_begin ?_
 refine pl_run (d := some 3) (v := .pointer (some ⟨w.heap.size, 0, none⟩)) (w' := w.alloc (.cells qk.toArray 63)) (by rfl) (ex_box rfl rfl) rfl ?_
 simp only [nz]
 obtain ⟨W1, hW1⟩ : ∃ W, w.alloc (.cells qk.toArray 63) = W := ⟨_, rfl⟩
 rw [hW1] at hB1 hr1 hs1 ht1 ⊢
 clear hW1
 refine pl_run (d := some 4) (v := .pointer (some ⟨W1.heap.size, 0, none⟩)) (w' := W1.alloc (.cells zc.toArray 63)) (by rfl) (ex_alloc rfl (hzr _)) rfl ?_
 simp only [nz]
 refine pl_nil ?_
 obtain ⟨hB2, hr2, hs2⟩ := boxed_new W1 zc 63
 have ht2 := there_newN W1 zc.toArray 63 (n := 119) (by simp [hzl])
 obtain ⟨W2, hW2⟩ : ∃ W, W1.alloc (.cells zc.toArray 63) = W := ⟨_, rfl⟩
 rw [hW2] at hB2 hr2 hs2 ht2 ⊢
 clear hW2 hr2
 have hBW := hB1.trans (hB2.mono hB1.size)
 have hr3 := range_below hr1 hB2 hs1
 have hc0 := hk0 _ _ hr3
 rw [← hqk.out] at hr3
 have V0 : XW w D X W1.heap.size w.heap.size 119 (Ms.plain 6 0 0 Vt.zero zeros32).cells s W2 := ⟨hr3, there_belowN ht1 hB2 hs1, ht2, gb_below hBW _, h.below hBW, hs2, by have := hB2.size; omega, hB1.size, Nat.le_refl _, by omega, hXw⟩
 clear hr3 ht1 ht2 hB1 hB2 hBW hr1 hk0 hqk h hzr hzl hql
 go_upto_region 1 with fail
 try simp only [Act.put]
 refine pl_begin ?_
 refine pl_t 5 (?_) (by rfl) ?_ rfl ?_
 rotate_left
 ·go_simp
  try with_reducible rfl
 simp only [nz]
 refine pl_t 6 (.int .i64 6) (by rfl) (pl_one rfl rfl hc0 Tryz.underlying3 rfl) rfl ?_
 simp only [nz]
 refine pl_nil ?_
 clear hc0
 go_upto_region 19 with fail
 try simp only [Act.put]
 refine pl_begin ?_
 refine pl_t 52 (?_) (by rfl) ?_ rfl ?_
 rotate_left
 ·go_simp
  try with_reducible rfl
 simp only [nz]
 refine pl_call (d := some 53) (by rfl) (by go_simp; first | done | exact ⟨rfl, rfl⟩ | with_reducible rfl) rfl ?_
 refine (c_a W2 V0.rs).mono ?_
 rintro _ w1a ⟨rfl, S1, g1⟩
 refine ⟨_, rfl, ?_⟩
 simp only [nz]
 refine pl_t 54 (?_) (by rfl) ?_ rfl ?_
 rotate_left
 ·go_simp
  try with_reducible rfl
 simp only [nz]
 have U1 := V0.on g1 S1
 have V1 := U1.set 1 [.int .i64 v_a] (put_e v_a U1.row (U1.part 1 1 (by decide)))
 have zz1 := V0.gr.size
 have lb1 := V0.lb
 have la1 := V0.la
 have yy1 := g1.size
 refine pl_store (w' := w1a.setCells w.heap.size 1 [.int .i64 v_a]) (by rfl) (ex_put1 (n := 119) rfl rfl rfl U1.box (by decide) iszI rfl rfl) rfl ?_
 refine pl_nil ?_
 clear S1 U1 V0 c_a
 obtain ⟨w1b, hw1b⟩ : ∃ W, w1a.setCells w.heap.size 1 [.int .i64 v_a] = W := ⟨_, rfl⟩
 rw [hw1b] at V1 ⊢
 clear hw1b
 go_upto_region 20 with fail
 try simp only [Act.put]
 refine pl_begin ?_
 refine pl_t 55 (?_) (by rfl) ?_ rfl ?_
 rotate_left
 ·go_simp
  try with_reducible rfl
 simp only [nz]
 refine pl_call (d := some 56) (by rfl) (by go_simp; first | done | exact ⟨rfl, rfl⟩ | with_reducible rfl) rfl ?_
 refine (c_b w1b V1.rs).mono ?_
 rintro _ w2a ⟨rfl, S2, g2⟩
 refine ⟨_, rfl, ?_⟩
 simp only [nz]
 refine pl_t 57 (?_) (by rfl) ?_ rfl ?_
 rotate_left
 ·go_simp
  try with_reducible rfl
 simp only [nz]
 have U2 := V1.on g2 S2
 have V2 := U2.set 4 [.int .i64 v_b] (put_s v_b U2.row (U2.part 4 1 (by decide)))
 have zz2 := V1.gr.size
 have lb2 := V1.lb
 have la2 := V1.la
 have yy2 := g2.size
 refine pl_store (w' := w2a.setCells w.heap.size 4 [.int .i64 v_b]) (by rfl) (ex_put1 (n := 119) rfl rfl rfl U2.box (by decide) iszI rfl rfl) rfl ?_
 refine pl_nil ?_
 clear S2 U2 V1 c_b
 obtain ⟨w2b, hw2b⟩ : ∃ W, w2a.setCells w.heap.size 4 [.int .i64 v_b] = W := ⟨_, rfl⟩
 rw [hw2b] at V2 ⊢
 clear hw2b
 have rpc := V2.row
 have hmo : Mg.ok ⟨6, v_a, 0, 0, v_b, false, ⟨none, 0, []⟩, Vt.zero, 0, 0, 0, ⟨none, 0, []⟩, ⟨none, 0, []⟩, zeros32, Vt.zero, ⟨none, 0, []⟩, ⟨#[]⟩, ⟨none, 0, []⟩⟩ := ⟨Vt.zero_ok, Vt.zero_ok, zeros32_len, zeros32_byte⟩
 have hpl : (Mg.ms ⟨6, v_a, 0, 0, v_b, false, ⟨none, 0, []⟩, Vt.zero, 0, 0, 0, ⟨none, 0, []⟩, ⟨none, 0, []⟩, zeros32, Vt.zero, ⟨none, 0, []⟩, ⟨#[]⟩, ⟨none, 0, []⟩⟩).cells.length = 119 := hmo.ms.len
 have hp1 := hmo.ms.one
 have hip : (Tryz.prog.info? 63).map (·.size) = some (Mg.ms ⟨6, v_a, 0, 0, v_b, false, ⟨none, 0, []⟩, Vt.zero, 0, 0, 0, ⟨none, 0, []⟩, ⟨none, 0, []⟩, zeros32, Vt.zero, ⟨none, 0, []⟩, ⟨#[]⟩, ⟨none, 0, []⟩⟩).cells.length := by rw [hpl]; exact iszM
 have rpc : w2b.rangeAt w.heap.size 0 (Mg.ms ⟨6, v_a, 0, 0, v_b, false, ⟨none, 0, []⟩, Vt.zero, 0, 0, 0, ⟨none, 0, []⟩, ⟨none, 0, []⟩, zeros32, Vt.zero, ⟨none, 0, []⟩, ⟨#[]⟩, ⟨none, 0, []⟩⟩).cells := rpc
 obtain ⟨pc, hpc⟩ : ∃ p, Hid ((Mg.ms ⟨6, v_a, 0, 0, v_b, false, ⟨none, 0, []⟩, Vt.zero, 0, 0, 0, ⟨none, 0, []⟩, ⟨none, 0, []⟩, zeros32, Vt.zero, ⟨none, 0, []⟩, ⟨#[]⟩, ⟨none, 0, []⟩⟩).cells = p) := ⟨_, hide rfl⟩
 simp only [hpc.out] at hpl hip hp1 rpc
 go_upto_region 27 with fail
 try simp only [Act.put]
 refine pl_begin ?_
 refine pl_t 74 (.agg pc.toArray) (by rfl) (ex_mid rfl rfl rpc Tryz.underlying63 rfl hip) rfl ?_
 simp only [nz]
 refine pl_store (w' := w2b.setCells W1.heap.size 0 pc) (by rfl) (ex_put (cs := pc.toArray) rfl rfl rfl (by simpa [hpl] using V2.ans) (by simpa using hip) (all_one hp1)) rfl ?_
 refine pl_nil ?_
 have hlow : Below w.heap.size w2b (w2b.setCells W1.heap.size 0 pc) := below_sets V2.na pc 0 _ (Below.refl _ w2b)
 have hrs := run_loadVar_mid (P := Tryz.prog) (w2b.setCells W1.heap.size 0 pc) W1.heap.size 0 63 pc _ (World.rangeAt_setCells_same w2b W1.heap.size 0 pc (by rw [hpl]; exact V2.ans)) Tryz.underlying63 rfl hip
 have HF : Hid (∃ m : Mg, Ending.returned (.agg pc.toArray) = .returned (.agg m.ms.cells.toArray) ∧ m.pure = (⟨6, v_a, 0, 0, v_b, false, [], Vt.zero, 0, 0, 0, [], [], zeros32, Vt.zero, [], ⟨#[]⟩, []⟩ : Mp) ∧ m.ok ∧ m.At (w2b.setCells W1.heap.size 0 pc) ∧ m.Bk (fun b => w.heap.size ≤ b) ∧ XR (w2b.setCells W1.heap.size 0 pc) D X s_b ∧ w.grownBy (w2b.setCells W1.heap.size 0 pc) (some X)) := hide ⟨⟨6, v_a, 0, 0, v_b, false, ⟨none, 0, []⟩, Vt.zero, 0, 0, 0, ⟨none, 0, []⟩, ⟨none, 0, []⟩, zeros32, Vt.zero, ⟨none, 0, []⟩, ⟨#[]⟩, ⟨none, 0, []⟩⟩, by rw [hpc.out], rfl, hmo, mg0_at RowsAt.none hds_none RowsAt.none RowsAt.none RowsAt.none, ⟨no_bk, no_bk, no_bk2, no_bk, no_bk, no_bk⟩, V2.rs.low hlow hXw, gb_onR V2.gr hlow (Nat.le_refl _)⟩
 clear V2 hlow rpc hpc hmo       
 go_wp2_with fail
 refine bodyPost_ret (v := .agg pc.toArray) ?_ rfl ?_
 ·simp [results, Tryz.results80, Act.put, asAddr, hrs]
 ·exact HF.out
set_option maxRecDepth 100000 in
set_option maxHeartbeats 1000000 in
theorem xfieldsK7 (D X : Nat) (s : Xst) (w : World) (h : XR w D X s)  : Calls Tryz.prog 80 #[.pointer (some ⟨X, 0, none⟩), .agg (Ms.plain 7 0 0 Vt.zero zeros32).cells.toArray] w fun en w' => ∃ m : Mg, en = .returned (.agg m.ms.cells.toArray) ∧ m.pure = (xmg7 s).1 ∧ m.ok ∧ m.At w' ∧ m.Bk (fun b => w.heap.size ≤ b) ∧ XR w' D X (xmg7 s).2 ∧ w.grownBy w' (some X) := by
 have hXw := h.lx
 unfold xmg7
 have c_a := fun w0 h0 => xbatS D X s w0 h0
 generalize xbaS s = p_ at c_a ⊢
 obtain ⟨⟨q_a, rs_a⟩, s_a⟩ := p_
 simp only at c_a ⊢
 have c_b := fun w0 h0 => xcertS D X s_a w0 h0
 generalize xceS s_a = p_ at c_b ⊢
 obtain ⟨⟨vt_b, sg_b⟩, s_b⟩ := p_
 simp only at c_b ⊢
 obtain ⟨zc, hzl, hzr⟩ : ∃ z : List Value, z.length = 119 ∧ ∀ w : World, (zeroValue 63).run Tryz.prog w = .ok (.agg z.toArray) w := ⟨_, (Ms.plain_ok 0 0 0 Vt.zero_ok zeros32_len zeros32_byte).len, zeroM⟩
 have hql := (ms0_ok 7).len
 have hk0 : ∀ (w' : World) b, w'.rangeAt b 0 (Ms.plain 7 0 0 Vt.zero zeros32).cells → w'.cell? ⟨b, 0, none⟩ = some (.int .i64 7) := fun w' b h => ((ms0_ok 7).at h).k
 obtain ⟨qk, hqk⟩ : ∃ q, Hid ((Ms.plain 7 0 0 Vt.zero zeros32).cells = q) := ⟨_, hide rfl⟩
 simp only [hqk.out] at hql hk0 ⊢
 obtain ⟨hB1, hr1, hs1⟩ := boxed_new w qk 63
 have ht1 := there_newN w qk.toArray 63 (n := 119) (by simp [hql])
 go_enter Tryz.func80, Tryz.ntmps80
 go_upto_region 0 with fail
 try simp only [Act.put]
 refine pl_begin ?_
 refine pl_run (d := some 3) (v := .pointer (some ⟨w.heap.size, 0, none⟩)) (w' := w.alloc (.cells qk.toArray 63)) (by rfl) (ex_box rfl rfl) rfl ?_
 simp only [nz]
 obtain ⟨W1, hW1⟩ : ∃ W, w.alloc (.cells qk.toArray 63) = W := ⟨_, rfl⟩
 rw [hW1] at hB1 hr1 hs1 ht1 ⊢
 clear hW1
 refine pl_run (d := some 4) (v := .pointer (some ⟨W1.heap.size, 0, none⟩)) (w' := W1.alloc (.cells zc.toArray 63)) (by rfl) (ex_alloc rfl (hzr _)) rfl ?_
 simp only [nz]
 refine pl_nil ?_
 obtain ⟨hB2, hr2, hs2⟩ := boxed_new W1 zc 63
 have ht2 := there_newN W1 zc.toArray 63 (n := 119) (by simp [hzl])
 obtain ⟨W2, hW2⟩ : ∃ W, W1.alloc (.cells zc.toArray 63) = W := ⟨_, rfl⟩
 rw [hW2] at hB2 hr2 hs2 ht2 ⊢
 clear hW2 hr2
 have hBW := hB1.trans (hB2.mono hB1.size)
 have hr3 := range_below hr1 hB2 hs1
 have hc0 := hk0 _ _ hr3
 rw [← hqk.out] at hr3
 have V0 : XW w D X W1.heap.size w.heap.size 119 (Ms.plain 7 0 0 Vt.zero zeros32).cells s W2 := ⟨hr3, there_belowN ht1 hB2 hs1, ht2, gb_below hBW _, h.below hBW, hs2, by have := hB2.size; omega, hB1.size, Nat.le_refl _, by omega, hXw⟩
 clear hr3 ht1 ht2 hB1 hB2 hBW hr1 hk0 hqk h hzr hzl hql
 go_upto_region 1 with fail
 try simp only [Act.put]
 refine pl_begin ?_
 refine pl_t 5 (?_) (by rfl) ?_ rfl ?_
 rotate_left
 ·go_simp
  try with_reducible rfl
 simp only [nz]
 refine pl_t 6 (.int .i64 7) (by rfl) (pl_one rfl rfl hc0 Tryz.underlying3 rfl) rfl ?_
 simp only [nz]
 refine pl_nil ?_
 clear hc0
 go_upto_region 22 with fail
 try simp only [Act.put]
 refine pl_begin ?_
 refine pl_t 60 (?_) (by rfl) ?_ rfl ?_
 rotate_left
 ·go_simp
  try with_reducible rfl
 simp only [nz]
 refine pl_call (d := some 61) (by rfl) (by go_simp; first | done | exact ⟨rfl, rfl⟩ | with_reducible rfl) rfl ?_
 refine (c_a W2 V0.rs).mono ?_
 rintro _ w1a ⟨x, rfl, hx, hA, hB, S1, g1⟩
 refine ⟨_, rfl, ?_⟩
 simp only [nz]
 refine pl_t 62 (?_) (by rfl) ?_ rfl ?_
 rotate_left
 ·go_simp
  try with_reducible rfl
 simp only [nz]
 have U1 := V0.on g1 S1
 have V1 := U1.set 5 [.bool q_a, x.val] (put_b q_a x.val U1.row (U1.part 5 2 (by decide)))
 have zz1 := V0.gr.size
 have lb1 := V0.lb
 have la1 := V0.la
 have yy1 := g1.size
 refine pl_store (w' := w1a.setCells w.heap.size 5 [.bool q_a, x.val]) (by rfl) (ex_put (cs := #[.bool q_a, x.val]) rfl rfl rfl (U1.part 5 2 (by decide)) iszBa (by simp [Value.oneCell', Sl.val])) rfl ?_
 refine pl_nil ?_
 have hA1 := hA.put (B := w.heap.size) (o := 5) (vs := [.bool q_a, x.val]) hB (fun b hb => by omega)
 clear hA
 clear S1 U1 V0 c_a
 obtain ⟨w1b, hw1b⟩ : ∃ W, w1a.setCells w.heap.size 5 [.bool q_a, x.val] = W := ⟨_, rfl⟩
 rw [hw1b] at V1 hA1 ⊢
 clear hw1b
 go_upto_region 23 with fail
 try simp only [Act.put]
 refine pl_begin ?_
 refine pl_t 63 (?_) (by rfl) ?_ rfl ?_
 rotate_left
 ·go_simp
  try with_reducible rfl
 simp only [nz]
 refine pl_call (d := some 64) (by rfl) (by go_simp; first | done | exact ⟨rfl, rfl⟩ | with_reducible rfl) rfl ?_
 refine (c_b w1b V1.rs).mono ?_
 rintro _ w2a ⟨y, rfl, hy, hC, hD, hvt, S2, g2⟩
 refine ⟨_, rfl, ?_⟩
 simp only [nz]
 refine pl_t 65 (?_) (by rfl) ?_ rfl ?_
 rotate_left
 ·go_simp
  try with_reducible rfl
 simp only [nz]
 have U2 := V1.on g2 S2
 have hcl : (certL vt_b y).length = 37 := by have := hvt.len; simp [certL]; omega
 have hc1 : ∀ v ∈ certL vt_b y, v.oneCell' = true := fun v hv => by
  rcases List.mem_append.1 hv with g | g
  ·exact Vt.one vt_b v g
  ·rw [List.mem_singleton.1 g]; rfl
 have V2 := U2.set 80 (certL vt_b y) (put_ct vt_b y.val hvt Vt.zero_ok zeros32_len Vt.zero_ok U2.row (U2.part 80 37 (by decide)))
 have zz2 := V1.gr.size
 have lb2 := V1.lb
 have la2 := V1.la
 have yy2 := g2.size
 refine pl_store (w' := w2a.setCells w.heap.size 80 (certL vt_b y)) (by rfl) (ex_put (cs := (certL vt_b y).toArray) rfl rfl rfl (by simpa [hcl] using U2.part 80 37 (by decide)) (by simpa [hcl] using iszCe) (all_one hc1)) rfl ?_
 refine pl_nil ?_
 have hA2 := (hA1.gbx g2 hB (fun b hb => by omega)).put (B := w.heap.size) (o := 80) (vs := (certL vt_b y)) hB (fun b hb => by omega)
 have hC2 := hC.put (B := w.heap.size) (o := 80) (vs := (certL vt_b y)) hD (fun b hb => by omega)
 clear hA1 hC
 clear S2 U2 V1 c_b
 obtain ⟨w2b, hw2b⟩ : ∃ W, w2a.setCells w.heap.size 80 (certL vt_b y) = W := ⟨_, rfl⟩
 rw [hw2b] at V2 hA2 hC2 ⊢
 clear hw2b
 have rpc := V2.row
 have hmo : Mg.ok ⟨7, 0, 0, 0, 0, q_a, x, Vt.zero, 0, 0, 0, ⟨none, 0, []⟩, ⟨none, 0, []⟩, zeros32, vt_b, y, ⟨#[]⟩, ⟨none, 0, []⟩⟩ := ⟨Vt.zero_ok, hvt, zeros32_len, zeros32_byte⟩
 have hpl : (Mg.ms ⟨7, 0, 0, 0, 0, q_a, x, Vt.zero, 0, 0, 0, ⟨none, 0, []⟩, ⟨none, 0, []⟩, zeros32, vt_b, y, ⟨#[]⟩, ⟨none, 0, []⟩⟩).cells.length = 119 := hmo.ms.len
 have hp1 := hmo.ms.one
 have hip : (Tryz.prog.info? 63).map (·.size) = some (Mg.ms ⟨7, 0, 0, 0, 0, q_a, x, Vt.zero, 0, 0, 0, ⟨none, 0, []⟩, ⟨none, 0, []⟩, zeros32, vt_b, y, ⟨#[]⟩, ⟨none, 0, []⟩⟩).cells.length := by rw [hpl]; exact iszM
 have rpc : w2b.rangeAt w.heap.size 0 (Mg.ms ⟨7, 0, 0, 0, 0, q_a, x, Vt.zero, 0, 0, 0, ⟨none, 0, []⟩, ⟨none, 0, []⟩, zeros32, vt_b, y, ⟨#[]⟩, ⟨none, 0, []⟩⟩).cells := rpc
 obtain ⟨pc, hpc⟩ : ∃ p, Hid ((Mg.ms ⟨7, 0, 0, 0, 0, q_a, x, Vt.zero, 0, 0, 0, ⟨none, 0, []⟩, ⟨none, 0, []⟩, zeros32, vt_b, y, ⟨#[]⟩, ⟨none, 0, []⟩⟩).cells = p) := ⟨_, hide rfl⟩
 simp only [hpc.out] at hpl hip hp1 rpc
 go_upto_region 27 with fail
 try simp only [Act.put]
 refine pl_begin ?_
 refine pl_t 74 (.agg pc.toArray) (by rfl) (ex_mid rfl rfl rpc Tryz.underlying63 rfl hip) rfl ?_
 simp only [nz]
 refine pl_store (w' := w2b.setCells W1.heap.size 0 pc) (by rfl) (ex_put (cs := pc.toArray) rfl rfl rfl (by simpa [hpl] using V2.ans) (by simpa using hip) (all_one hp1)) rfl ?_
 refine pl_nil ?_
 have hlow : Below w.heap.size w2b (w2b.setCells W1.heap.size 0 pc) := below_sets V2.na pc 0 _ (Below.refl _ w2b)
 have hrs := run_loadVar_mid (P := Tryz.prog) (w2b.setCells W1.heap.size 0 pc) W1.heap.size 0 63 pc _ (World.rangeAt_setCells_same w2b W1.heap.size 0 pc (by rw [hpl]; exact V2.ans)) Tryz.underlying63 rfl hip
 have HF : Hid (∃ m : Mg, Ending.returned (.agg pc.toArray) = .returned (.agg m.ms.cells.toArray) ∧ m.pure = (⟨7, 0, 0, 0, 0, q_a, rs_a, Vt.zero, 0, 0, 0, [], [], zeros32, vt_b, sg_b, ⟨#[]⟩, []⟩ : Mp) ∧ m.ok ∧ m.At (w2b.setCells W1.heap.size 0 pc) ∧ m.Bk (fun b => w.heap.size ≤ b) ∧ XR (w2b.setCells W1.heap.size 0 pc) D X s_b ∧ w.grownBy (w2b.setCells W1.heap.size 0 pc) (some X)) := hide ⟨⟨7, 0, 0, 0, 0, q_a, x, Vt.zero, 0, 0, 0, ⟨none, 0, []⟩, ⟨none, 0, []⟩, zeros32, vt_b, y, ⟨#[]⟩, ⟨none, 0, []⟩⟩, by rw [hpc.out], by rw [← hx, ← hy]; rfl, hmo, mg0_at (hA2.put hB (fun b hb => by omega)) hds_none RowsAt.none (hC2.put hD (fun b hb => by omega)) RowsAt.none, ⟨hB.mono (fun b hb => by omega), no_bk, no_bk2, no_bk, hD.mono (fun b hb => by omega), no_bk⟩, V2.rs.low hlow hXw, gb_onR V2.gr hlow (Nat.le_refl _)⟩
 clear V2 hlow rpc hpc hmo hx hy hB  hD hA2 hC2
 go_wp2_with fail
 refine bodyPost_ret (v := .agg pc.toArray) ?_ rfl ?_
 ·simp [results, Tryz.results80, Act.put, asAddr, hrs]
 ·exact HF.out
set_option maxRecDepth 100000 in
set_option maxHeartbeats 1000000 in
theorem xfieldsK8 (D X : Nat) (s : Xst) (w : World) (h : XR w D X s)  : Calls Tryz.prog 80 #[.pointer (some ⟨X, 0, none⟩), .agg (Ms.plain 8 0 0 Vt.zero zeros32).cells.toArray] w fun en w' => ∃ m : Mg, en = .returned (.agg m.ms.cells.toArray) ∧ m.pure = (xmg8 s).1 ∧ m.ok ∧ m.At w' ∧ m.Bk (fun b => w.heap.size ≤ b) ∧ XR w' D X (xmg8 s).2 ∧ w.grownBy w' (some X) := by
 have hXw := h.lx
 unfold xmg8
 have c_a := fun w0 h0 => xtextS D X 4194304 s w0 h0
 generalize xtxS 4194304 s = p_ at c_a ⊢
 obtain ⟨v_a, s_a⟩ := p_
 simp only at c_a ⊢
 have c_b := fun w0 h0 => xlistS D X s_a w0 h0
 generalize xlsS 64 xsiS s_a = p_ at c_b ⊢
 obtain ⟨v_b, s_b⟩ := p_
 simp only at c_b ⊢
 obtain ⟨zc, hzl, hzr⟩ : ∃ z : List Value, z.length = 119 ∧ ∀ w : World, (zeroValue 63).run Tryz.prog w = .ok (.agg z.toArray) w := ⟨_, (Ms.plain_ok 0 0 0 Vt.zero_ok zeros32_len zeros32_byte).len, zeroM⟩
 have hql := (ms0_ok 8).len
 have hk0 : ∀ (w' : World) b, w'.rangeAt b 0 (Ms.plain 8 0 0 Vt.zero zeros32).cells → w'.cell? ⟨b, 0, none⟩ = some (.int .i64 8) := fun w' b h => ((ms0_ok 8).at h).k
 obtain ⟨qk, hqk⟩ : ∃ q, Hid ((Ms.plain 8 0 0 Vt.zero zeros32).cells = q) := ⟨_, hide rfl⟩
 simp only [hqk.out] at hql hk0 ⊢
 obtain ⟨hB1, hr1, hs1⟩ := boxed_new w qk 63
 have ht1 := there_newN w qk.toArray 63 (n := 119) (by simp [hql])
 go_enter Tryz.func80, Tryz.ntmps80
 go_upto_region 0 with fail
 try simp only [Act.put]
 refine pl_begin ?_
 refine pl_run (d := some 3) (v := .pointer (some ⟨w.heap.size, 0, none⟩)) (w' := w.alloc (.cells qk.toArray 63)) (by rfl) (ex_box rfl rfl) rfl ?_
 simp only [nz]
 obtain ⟨W1, hW1⟩ : ∃ W, w.alloc (.cells qk.toArray 63) = W := ⟨_, rfl⟩
 rw [hW1] at hB1 hr1 hs1 ht1 ⊢
 clear hW1
 refine pl_run (d := some 4) (v := .pointer (some ⟨W1.heap.size, 0, none⟩)) (w' := W1.alloc (.cells zc.toArray 63)) (by rfl) (ex_alloc rfl (hzr _)) rfl ?_
 simp only [nz]
 refine pl_nil ?_
 obtain ⟨hB2, hr2, hs2⟩ := boxed_new W1 zc 63
 have ht2 := there_newN W1 zc.toArray 63 (n := 119) (by simp [hzl])
 obtain ⟨W2, hW2⟩ : ∃ W, W1.alloc (.cells zc.toArray 63) = W := ⟨_, rfl⟩
 rw [hW2] at hB2 hr2 hs2 ht2 ⊢
 clear hW2 hr2
 have hBW := hB1.trans (hB2.mono hB1.size)
 have hr3 := range_below hr1 hB2 hs1
 have hc0 := hk0 _ _ hr3
 rw [← hqk.out] at hr3
 have V0 : XW w D X W1.heap.size w.heap.size 119 (Ms.plain 8 0 0 Vt.zero zeros32).cells s W2 := ⟨hr3, there_belowN ht1 hB2 hs1, ht2, gb_below hBW _, h.below hBW, hs2, by have := hB2.size; omega, hB1.size, Nat.le_refl _, by omega, hXw⟩
 clear hr3 ht1 ht2 hB1 hB2 hBW hr1 hk0 hqk h hzr hzl hql
 go_upto_region 1 with fail
 try simp only [Act.put]
 refine pl_begin ?_
 refine pl_t 5 (?_) (by rfl) ?_ rfl ?_
 rotate_left
 ·go_simp
  try with_reducible rfl
 simp only [nz]
 refine pl_t 6 (.int .i64 8) (by rfl) (pl_one rfl rfl hc0 Tryz.underlying3 rfl) rfl ?_
 simp only [nz]
 refine pl_nil ?_
 clear hc0
 go_upto_region 25 with fail
 try simp only [Act.put]
 refine pl_begin ?_
 refine pl_t 68 (?_) (by rfl) ?_ rfl ?_
 rotate_left
 ·go_simp
  try with_reducible rfl
 simp only [nz]
 refine pl_call (d := some 69) (by rfl) (by go_simp; first | done | exact ⟨rfl, rfl⟩ | with_reducible rfl) rfl ?_
 refine (c_a W2 V0.rs).mono ?_
 rintro _ w1a ⟨rfl, S1, g1⟩
 refine ⟨_, rfl, ?_⟩
 simp only [nz]
 refine pl_t 70 (?_) (by rfl) ?_ rfl ?_
 rotate_left
 ·go_simp
  try with_reducible rfl
 simp only [nz]
 have U1 := V0.on g1 S1
 have V1 := U1.set 117 [.string v_a] (put_st v_a Vt.zero_ok zeros32_len Vt.zero_ok U1.row (U1.part 117 1 (by decide)))
 have zz1 := V0.gr.size
 have lb1 := V0.lb
 have la1 := V0.la
 have yy1 := g1.size
 refine pl_store (w' := w1a.setCells w.heap.size 117 [.string v_a]) (by rfl) (ex_put1 (n := 119) rfl rfl rfl U1.box (by decide) iszStr rfl rfl) rfl ?_
 refine pl_nil ?_
 clear S1 U1 V0 c_a
 obtain ⟨w1b, hw1b⟩ : ∃ W, w1a.setCells w.heap.size 117 [.string v_a] = W := ⟨_, rfl⟩
 rw [hw1b] at V1 ⊢
 clear hw1b
 go_upto_region 26 with fail
 try simp only [Act.put]
 refine pl_begin ?_
 refine pl_t 71 (?_) (by rfl) ?_ rfl ?_
 rotate_left
 ·go_simp
  try with_reducible rfl
 simp only [nz]
 refine pl_call (d := some 72) (by rfl) (by go_simp; first | done | exact ⟨rfl, rfl⟩ | with_reducible rfl) rfl ?_
 refine (c_b w1b V1.rs).mono ?_
 rintro _ w2a ⟨x, rfl, hx, hA, hB, S2, g2⟩
 refine ⟨_, rfl, ?_⟩
 simp only [nz]
 refine pl_t 73 (?_) (by rfl) ?_ rfl ?_
 rotate_left
 ·go_simp
  try with_reducible rfl
 simp only [nz]
 have U2 := V1.on g2 S2
 have V2 := U2.set 118 [x.val] (put_sg x.val Vt.zero_ok zeros32_len Vt.zero_ok U2.row (U2.part 118 1 (by decide)))
 have zz2 := V1.gr.size
 have lb2 := V1.lb
 have la2 := V1.la
 have yy2 := g2.size
 refine pl_store (w' := w2a.setCells w.heap.size 118 [x.val]) (by rfl) (ex_put1 (n := 119) rfl rfl rfl U2.box (by decide) iszSgs rfl rfl) rfl ?_
 refine pl_nil ?_
 have hA2 := hA.put (B := w.heap.size) (o := 118) (vs := [x.val]) hB (fun b hb => by omega)
 clear hA
 clear S2 U2 V1 c_b
 obtain ⟨w2b, hw2b⟩ : ∃ W, w2a.setCells w.heap.size 118 [x.val] = W := ⟨_, rfl⟩
 rw [hw2b] at V2 hA2 ⊢
 clear hw2b
 have rpc := V2.row
 have hmo : Mg.ok ⟨8, 0, 0, 0, 0, false, ⟨none, 0, []⟩, Vt.zero, 0, 0, 0, ⟨none, 0, []⟩, ⟨none, 0, []⟩, zeros32, Vt.zero, ⟨none, 0, []⟩, v_a, x⟩ := ⟨Vt.zero_ok, Vt.zero_ok, zeros32_len, zeros32_byte⟩
 have hpl : (Mg.ms ⟨8, 0, 0, 0, 0, false, ⟨none, 0, []⟩, Vt.zero, 0, 0, 0, ⟨none, 0, []⟩, ⟨none, 0, []⟩, zeros32, Vt.zero, ⟨none, 0, []⟩, v_a, x⟩).cells.length = 119 := hmo.ms.len
 have hp1 := hmo.ms.one
 have hip : (Tryz.prog.info? 63).map (·.size) = some (Mg.ms ⟨8, 0, 0, 0, 0, false, ⟨none, 0, []⟩, Vt.zero, 0, 0, 0, ⟨none, 0, []⟩, ⟨none, 0, []⟩, zeros32, Vt.zero, ⟨none, 0, []⟩, v_a, x⟩).cells.length := by rw [hpl]; exact iszM
 have rpc : w2b.rangeAt w.heap.size 0 (Mg.ms ⟨8, 0, 0, 0, 0, false, ⟨none, 0, []⟩, Vt.zero, 0, 0, 0, ⟨none, 0, []⟩, ⟨none, 0, []⟩, zeros32, Vt.zero, ⟨none, 0, []⟩, v_a, x⟩).cells := rpc
 obtain ⟨pc, hpc⟩ : ∃ p, Hid ((Mg.ms ⟨8, 0, 0, 0, 0, false, ⟨none, 0, []⟩, Vt.zero, 0, 0, 0, ⟨none, 0, []⟩, ⟨none, 0, []⟩, zeros32, Vt.zero, ⟨none, 0, []⟩, v_a, x⟩).cells = p) := ⟨_, hide rfl⟩
 simp only [hpc.out] at hpl hip hp1 rpc
 go_upto_region 27 with fail
 try simp only [Act.put]
 refine pl_begin ?_
 refine pl_t 74 (.agg pc.toArray) (by rfl) (ex_mid rfl rfl rpc Tryz.underlying63 rfl hip) rfl ?_
 simp only [nz]
 refine pl_store (w' := w2b.setCells W1.heap.size 0 pc) (by rfl) (ex_put (cs := pc.toArray) rfl rfl rfl (by simpa [hpl] using V2.ans) (by simpa using hip) (all_one hp1)) rfl ?_
 refine pl_nil ?_
 have hlow : Below w.heap.size w2b (w2b.setCells W1.heap.size 0 pc) := below_sets V2.na pc 0 _ (Below.refl _ w2b)
 have hrs := run_loadVar_mid (P := Tryz.prog) (w2b.setCells W1.heap.size 0 pc) W1.heap.size 0 63 pc _ (World.rangeAt_setCells_same w2b W1.heap.size 0 pc (by rw [hpl]; exact V2.ans)) Tryz.underlying63 rfl hip
 have HF : Hid (∃ m : Mg, Ending.returned (.agg pc.toArray) = .returned (.agg m.ms.cells.toArray) ∧ m.pure = (⟨8, 0, 0, 0, 0, false, [], Vt.zero, 0, 0, 0, [], [], zeros32, Vt.zero, [], v_a, v_b⟩ : Mp) ∧ m.ok ∧ m.At (w2b.setCells W1.heap.size 0 pc) ∧ m.Bk (fun b => w.heap.size ≤ b) ∧ XR (w2b.setCells W1.heap.size 0 pc) D X s_b ∧ w.grownBy (w2b.setCells W1.heap.size 0 pc) (some X)) := hide ⟨⟨8, 0, 0, 0, 0, false, ⟨none, 0, []⟩, Vt.zero, 0, 0, 0, ⟨none, 0, []⟩, ⟨none, 0, []⟩, zeros32, Vt.zero, ⟨none, 0, []⟩, v_a, x⟩, by rw [hpc.out], by rw [← hx]; rfl, hmo, mg0_at RowsAt.none hds_none RowsAt.none RowsAt.none (hA2.put hB (fun b hb => by omega)), ⟨no_bk, no_bk, no_bk2, no_bk, no_bk, hB.mono (fun b hb => by omega)⟩, V2.rs.low hlow hXw, gb_onR V2.gr hlow (Nat.le_refl _)⟩
 clear V2 hlow rpc hpc hmo hx  hB   hA2 
 go_wp2_with fail
 refine bodyPost_ret (v := .agg pc.toArray) ?_ rfl ?_
 ·simp [results, Tryz.results80, Act.put, asAddr, hrs]
 ·exact HF.out
theorem xfieldsS (D X : Nat) (k : Int) (s : Xst) (w : World) (h : XR w D X s) : Calls Tryz.prog 80 #[.pointer (some ⟨X, 0, none⟩), .agg (Ms.plain k 0 0 Vt.zero zeros32).cells.toArray] w fun en w' => ∃ m : Mg, en = .returned (.agg m.ms.cells.toArray) ∧ m.pure = (xmgF k s).1 ∧ m.ok ∧ m.At w' ∧ m.Bk (fun b => w.heap.size ≤ b) ∧ XR w' D X (xmgF k s).2 ∧ w.grownBy w' (some X) := by
 unfold xmgF
 by_cases n1 : k = 1
 ·rw [if_pos n1]; subst n1; exact xfieldsK1 D X s w h
 rw [if_neg n1]
 by_cases n2 : k = 2
 ·rw [if_pos n2]; subst n2; exact xfieldsK2 D X s w h
 rw [if_neg n2]
 by_cases n3 : k = 3
 ·rw [if_pos n3]; subst n3; exact xfieldsK3 D X s w h
 rw [if_neg n3]
 by_cases n4 : k = 4
 ·rw [if_pos n4]; subst n4; exact xfieldsK4 D X s w h
 rw [if_neg n4]
 by_cases n5 : k = 5
 ·rw [if_pos n5]; subst n5; exact xfieldsK5 D X s w h
 rw [if_neg n5]
 by_cases n6 : k = 6
 ·rw [if_pos n6]; subst n6; exact xfieldsK6 D X s w h
 rw [if_neg n6]
 by_cases n7 : k = 7
 ·rw [if_pos n7]; subst n7; exact xfieldsK7 D X s w h
 rw [if_neg n7]
 by_cases n8 : k = 8
 ·rw [if_pos n8]; subst n8; exact xfieldsK8 D X s w h
 rw [if_neg n8]
 exact xfieldsK0 D X s w h k n1 n2 n3 n4 n5 n6 n7 n8
set_option maxRecDepth 100000 in
set_option maxHeartbeats 1000000 in
theorem xdoneS (D X : Nat) (s : Xst) (w : World) (h : XR w D X s) : Calls Tryz.prog 43 #[.pointer (some ⟨X, 0, none⟩)] w fun en w' => en = .returned (.int .i64 (doneE s.1 s.2)) ∧ Below w.heap.size w w' := by
 obtain ⟨rest, e⟩ := s
 have c2 := h.st.err
 simp only at c2 ⊢
 unfold doneE
 by_cases he : e = 0
 ·subst he
  obtain ⟨zs, p, ⟨hX, ⟨a, cap, c0, hc, hm, hr, hb⟩, c1, c2', f0, f1, f2, hp, hl⟩, hd⟩ := h.st
  have hd : List.drop p zs = rest := hd rfl
  have hlen : rest.length = zs.length - p := by rw [← hd, List.length_drop]
  rw [if_pos rfl]
  clear h hr c2'
  by_cases hz : rest.length = 0
  ·rw [if_pos hz]
   have hlt : ¬ ((p : Int) < (zs.length : Int)) := by omega
   go_enter Tryz.func43, Tryz.ntmps43
   go_upto_region 3 with fail
   have d0 : w.drew.cell? ⟨X, 0, none⟩ = _ := c0
   have d1 : w.drew.cell? ⟨X, 1, none⟩ = _ := c1
   have hB8 : Below w.heap.size w w.drew := (Below.refl _ _).drew
   refine hs_begin (S := (Below w.drew.heap.size w.drew)) 10 rfl (by kernel_rfl) ?_
   have hS : (Below w.drew.heap.size w.drew) w.drew := Below.refl _ _
   have k0 : ∀ w', Below w.drew.heap.size w.drew w' → w'.cell? ⟨X, 0, none⟩ = some (.slice a zs.length cap) := fun w' hw => (cell_block (hw.block X hX)).1.trans c0
   have k1 : ∀ w', Below w.drew.heap.size w.drew w' → w'.cell? ⟨X, 1, none⟩ = some (.int .i64 (p : Int)) := fun w' hw => (cell_block (hw.block X hX)).1.trans c1
   refine hs_t 0 12 (?_) rfl (by kernel_rfl) (by kernel_rfl) (by kernel_rfl) (by rfl) ?_ hS rfl ?_
   rotate_left
   ·intro w' hw
    go_simp
    try with_reducible rfl
   simp only [nz]
   refine hs_t 1 13 (?_) rfl (by kernel_rfl) (by kernel_rfl) (by kernel_rfl) (by rfl) ?_ hS rfl ?_
   rotate_left
   ·intro w' hw
    go_simp
    try with_reducible rfl
   simp only [nz]
   refine hs_t 2 14 (?_) rfl (by kernel_rfl) (by kernel_rfl) (by kernel_rfl) (by rfl) ?_ hS rfl ?_
   rotate_left
   ·intro w' hw
    go_simp
    try with_reducible rfl
   simp only [nz]
   refine hs_t 3 15 (.int .i64 (p : Int)) rfl (by kernel_rfl) (by kernel_rfl) (by kernel_rfl) (by rfl) (fun w' hw => pl_one rfl rfl (k1 _ hw) Tryz.underlying3 rfl) hS rfl ?_
   simp only [nz]
   refine hs_t 4 16 (?_) rfl (by kernel_rfl) (by kernel_rfl) (by kernel_rfl) (by rfl) ?_ hS rfl ?_
   rotate_left
   ·intro w' hw
    go_simp
    try with_reducible rfl
   simp only [nz]
   refine hs_t 5 17 (?_) rfl (by kernel_rfl) (by kernel_rfl) (by kernel_rfl) (by rfl) ?_ hS rfl ?_
   rotate_left
   ·intro w' hw
    go_simp
    try with_reducible rfl
   simp only [nz]
   refine hs_t 6 18 (?_) rfl (by kernel_rfl) (by kernel_rfl) (by kernel_rfl) (by rfl) ?_ hS rfl ?_
   rotate_left
   ·intro w' hw
    go_simp
    try with_reducible rfl
   simp only [nz]
   refine hs_t 7 19 (.slice a zs.length cap) rfl (by kernel_rfl) (by kernel_rfl) (by kernel_rfl) (by rfl) (fun w' hw => pl_one rfl rfl (k0 _ hw) Tryz.underlying36 rfl) hS rfl ?_
   simp only [nz]
   refine hs_t 8 20 (?_) rfl (by kernel_rfl) (by kernel_rfl) (by kernel_rfl) (by rfl) ?_ hS rfl ?_
   rotate_left
   ·intro w' hw
    go_simp
    try with_reducible rfl
   simp only [nz]
   refine hs_t 9 21 (.bool false) rfl (by kernel_rfl) (by kernel_rfl) (by kernel_rfl) (by rfl) (fun w' hw => by go_simp <;> (try simp) <;> (try omega)) hS rfl ?_
   simp only [nz]
   refine hs_done (by kernel_rfl) ?_
   go_wp2_with fail
   go_ret
   exact ⟨rfl, hB8⟩
  ·rw [if_neg hz]
   have hlt : (p : Int) < (zs.length : Int) := by omega
   go_enter Tryz.func43, Tryz.ntmps43
   go_upto_region 3 with fail
   have hB8 : Below w.heap.size w w.drew := (Below.refl _ _).drew
   refine hs_begin (S := (Below w.drew.heap.size w.drew)) 10 rfl (by kernel_rfl) ?_
   have hS : (Below w.drew.heap.size w.drew) w.drew := Below.refl _ _
   have k0 : ∀ w', Below w.drew.heap.size w.drew w' → w'.cell? ⟨X, 0, none⟩ = some (.slice a zs.length cap) := fun w' hw => (cell_block (hw.block X hX)).1.trans c0
   have k1 : ∀ w', Below w.drew.heap.size w.drew w' → w'.cell? ⟨X, 1, none⟩ = some (.int .i64 (p : Int)) := fun w' hw => (cell_block (hw.block X hX)).1.trans c1
   refine hs_t 0 12 (?_) rfl (by kernel_rfl) (by kernel_rfl) (by kernel_rfl) (by rfl) ?_ hS rfl ?_
   rotate_left
   ·intro w' hw
    go_simp
    try with_reducible rfl
   simp only [nz]
   refine hs_t 1 13 (?_) rfl (by kernel_rfl) (by kernel_rfl) (by kernel_rfl) (by rfl) ?_ hS rfl ?_
   rotate_left
   ·intro w' hw
    go_simp
    try with_reducible rfl
   simp only [nz]
   refine hs_t 2 14 (?_) rfl (by kernel_rfl) (by kernel_rfl) (by kernel_rfl) (by rfl) ?_ hS rfl ?_
   rotate_left
   ·intro w' hw
    go_simp
    try with_reducible rfl
   simp only [nz]
   refine hs_t 3 15 (.int .i64 (p : Int)) rfl (by kernel_rfl) (by kernel_rfl) (by kernel_rfl) (by rfl) (fun w' hw => pl_one rfl rfl (k1 _ hw) Tryz.underlying3 rfl) hS rfl ?_
   simp only [nz]
   refine hs_t 4 16 (?_) rfl (by kernel_rfl) (by kernel_rfl) (by kernel_rfl) (by rfl) ?_ hS rfl ?_
   rotate_left
   ·intro w' hw
    go_simp
    try with_reducible rfl
   simp only [nz]
   refine hs_t 5 17 (?_) rfl (by kernel_rfl) (by kernel_rfl) (by kernel_rfl) (by rfl) ?_ hS rfl ?_
   rotate_left
   ·intro w' hw
    go_simp
    try with_reducible rfl
   simp only [nz]
   refine hs_t 6 18 (?_) rfl (by kernel_rfl) (by kernel_rfl) (by kernel_rfl) (by rfl) ?_ hS rfl ?_
   rotate_left
   ·intro w' hw
    go_simp
    try with_reducible rfl
   simp only [nz]
   refine hs_t 7 19 (.slice a zs.length cap) rfl (by kernel_rfl) (by kernel_rfl) (by kernel_rfl) (by rfl) (fun w' hw => pl_one rfl rfl (k0 _ hw) Tryz.underlying36 rfl) hS rfl ?_
   simp only [nz]
   refine hs_t 8 20 (?_) rfl (by kernel_rfl) (by kernel_rfl) (by kernel_rfl) (by rfl) ?_ hS rfl ?_
   rotate_left
   ·intro w' hw
    go_simp
    try with_reducible rfl
   simp only [nz]
   refine hs_t 9 21 (.bool true) rfl (by kernel_rfl) (by kernel_rfl) (by kernel_rfl) (by rfl) (fun w' hw => by go_simp <;> (try simp) <;> (try omega)) hS rfl ?_
   simp only [nz]
   refine hs_done (by kernel_rfl) ?_
   go_wp2_with fail
   go_ret
   exact ⟨rfl, hB8⟩
 ·have hne : (e != 0) = true := by simpa using he
  rw [if_neg he]
  clear h
  go_enter Tryz.func43, Tryz.ntmps43
  go_wp2_with fail
  go_ret
  exact ⟨rfl, Below.refl _ _⟩
def decX (zs : List Int) : Mp × Int :=
  if (xnuS 8 (zs, 0)).2.2 = 0 ∧ (xnuS 8 (zs, 0)).1 = 0 then (Mp.none, 130)
  else if doneE (xmgF (xnuS 8 (zs, 0)).1 (xnuS 8 (zs, 0)).2).2.1 (xmgF (xnuS 8 (zs, 0)).1 (xnuS 8 (zs, 0)).2).2.2 = 0 then ((xmgF (xnuS 8 (zs, 0)).1 (xnuS 8 (zs, 0)).2).1, 0)
  else (Mp.none, doneE (xmgF (xnuS 8 (zs, 0)).1 (xnuS 8 (zs, 0)).2).2.1 (xmgF (xnuS 8 (zs, 0)).1 (xnuS 8 (zs, 0)).2).2.2)
theorem exec_conv {P : Program} {o : Oper} {a : Act} {w w' : World} {t e : TypeId} {x : Operand} {v v' : Value} (ho : o.op = .convert t e x) (hx : a.eval x = v) (hr : (convert t e v).run P w = .ok v' w') : (execOp a.eval o).run P w = .ok (.value v') w' := by
 unfold execOp
 simp only [ho, hx, Sem.run_bind, hr, Result.andThen_ok, Sem.run_pure]
set_option maxRecDepth 100000 in
set_option maxHeartbeats 1000000 in
theorem xdecode_any (sb : ByteArray) (hs : sb.size ≤ 40000) (w : World) : Calls Tryz.prog 44 #[.string sb] w fun en w' => ∃ m : Mg, en = .returned (.tuple #[.agg m.ms.cells.toArray, .int .i64 (decX (strL sb)).2]) ∧ m.pure = (decX (strL sb)).1 ∧ m.ok ∧ m.At w' ∧ m.Bk (fun b => w.heap.size ≤ b) ∧ Below w.heap.size w w' := by
 obtain ⟨zc, hzc, hzl, hz1, hzr, hb0⟩ : ∃ z : List Value, Hid (z = Mg.none.ms.cells) ∧ z.length = 119 ∧ (∀ v ∈ z, v.oneCell' = true) ∧ (∀ w : World, (zeroValue 63).run Tryz.prog w = .ok (.agg z.toArray) w) ∧ ∀ w : World, (Instr.build 63 #[]).run Tryz.prog w = .ok (.agg z.toArray) w := ⟨_, hide rfl, Mg.none_ok.ms.len, Mg.none_ok.ms.one, zeroM, build_none⟩
 have hiz : (Tryz.prog.info? 63).map (·.size) = some zc.length := by rw [hzl]; exact iszM
 have hsl : (strL sb).length ≤ 40000 := by rw [strL_length]; exact hs
 have hs' : (sb.size : Int) ≤ 4194304 := by omega
 have hcB := fun w0 => bytes_of sb (by omega) w0
 unfold decX
 generalize strL sb = zs at hsl hcB ⊢
 have ck := fun D X w0 h0 => xnumS D X 8 (zs, 0) w0 h0
 generalize xnuS 8 (zs, 0) = p_ at ck ⊢
 obtain ⟨kk, s1, ek⟩ := p_
 simp only at ck ⊢
 have cf := fun D X w0 h0 => xfieldsS D X kk (s1, ek) w0 h0
 generalize xmgF kk (s1, ek) = p_ at cf ⊢
 obtain ⟨mp, t⟩ := p_
 simp only at cf ⊢
 have cd := fun D X w0 h0 => xdoneS D X t w0 h0
 generalize doneE t.1 t.2 = f at cd ⊢
 have hbk := build_kind kk
 have hql := (ms0_ok kk).len
 have hq1 := (ms0_ok kk).one
 have hiq : (Tryz.prog.info? 63).map (·.size) = some (Ms.plain kk 0 0 Vt.zero zeros32).cells.length := by rw [hql]; exact iszM
 have hk0 : ∀ (w' : World) b, w'.rangeAt b 0 (Ms.plain kk 0 0 Vt.zero zeros32).cells → w'.cell? ⟨b, 0, none⟩ = some (.int .i64 kk) := fun w' b h => ((ms0_ok kk).at h).k
 generalize (Ms.plain kk 0 0 Vt.zero zeros32).cells = qk at hbk hql hq1 hiq hk0 cf
 obtain ⟨hB1, hr1, hs1⟩ := boxed_new w zc 63
 have ht1 := there_newN w zc.toArray 63 (n := 119) (by simp [hzl])
 go_enter Tryz.func44, Tryz.ntmps44
 go_upto_region 0 with fail
 try simp only [Act.put]
 refine pl_begin ?_
 refine pl_run (d := some 2) (v := .pointer (some ⟨w.heap.size, 0, none⟩)) (w' := w.alloc (.cells zc.toArray 63)) (by rfl) (ex_alloc rfl (hzr _)) rfl ?_
 simp only [nz]
 refine pl_t 3 (?_) (by rfl) ?_ rfl ?_
 rotate_left
 ·go_simp
  try with_reducible rfl
 simp only [nz]
 refine pl_nil ?_
 obtain ⟨W1, hW1⟩ : ∃ W, w.alloc (.cells zc.toArray 63) = W := ⟨_, rfl⟩
 rw [hW1] at hB1 hr1 hs1 ht1 ⊢
 clear hW1 hr1
 obtain ⟨cB, wB, hcv, hrB, hbB⟩ := hcB W1
 have cn := refRead_any (some ⟨W1.heap.size, 0, none⟩) cB zs wB hrB hsl
 go_upto_region 3 with fail
 try simp only [Act.put]
 refine pl_begin ?_
 refine pl_t 11 (?_) (by rfl) ?_ rfl ?_
 rotate_left
 ·go_simp
  try with_reducible rfl
 simp only [nz]
 refine pl_run (d := some 12) (v := .slice (some ⟨W1.heap.size, 0, none⟩) zs.length cB) (w' := wB) (by rfl) (exec_conv rfl rfl hcv) rfl ?_
 simp only [nz]
 refine pl_call (d := some 13) (by rfl) (by go_simp; first | done | exact ⟨rfl, rfl⟩ | with_reducible rfl) rfl ?_
 refine (cn).mono ?_
 rintro _ w2 ⟨X, rfl, hX, S2, hb2⟩
 refine ⟨_, rfl, ?_⟩
 simp only [nz]
 refine pl_t 4 (?_) (by rfl) ?_ rfl ?_
 rotate_left
 ·go_simp
  try with_reducible rfl
 simp only [nz]
 refine pl_nil ?_
 have zB := hbB.size
 have z2 := hb2.size
 have hT2 := there_below (there_below ht1 hbB hs1) hb2 (by omega)
 have hB2 := hB1.trans ((hbB.trans (hb2.mono hbB.size)).mono hB1.size)
 have R2 : XR w2 wB.heap.size X (zs, 0) := ⟨S2, (by obtain ⟨_, _, hR, _⟩ := S2; exact hR.1), hX⟩
 have ck := ck wB.heap.size X
 have cf := cf wB.heap.size X
 have cd := cd wB.heap.size X
 have hXw := R2.lx
 clear cn hcv hrB hbB hb2 S2 ht1 hB1 hcB
 go_upto_region 4 with fail
 try simp only [Act.put]
 refine pl_begin ?_
 refine pl_t 14 (?_) (by rfl) ?_ rfl ?_
 rotate_left
 ·go_simp
  try with_reducible rfl
 simp only [nz]
 refine pl_call (d := some 15) (by rfl) (by go_simp; first | done | exact ⟨rfl, rfl⟩ | with_reducible rfl) rfl ?_
 refine (ck w2 R2).mono ?_
 rintro _ w3 ⟨rfl, R3, g3⟩
 refine ⟨_, rfl, ?_⟩
 simp only [nz]
 refine pl_t 16 (.agg qk.toArray) (by rfl) (ex_build (parts := [(0, .tmp 15)]) rfl rfl (hbk _)) rfl ?_
 simp only [nz]
 refine pl_run (d := some 5) (v := .pointer (some ⟨w3.heap.size, 0, none⟩)) (w' := w3.alloc (.cells zc.toArray 63)) (by rfl) (ex_alloc rfl (hzr _)) rfl ?_
 simp only [nz]
 refine pl_store (w' := (w3.alloc (.cells zc.toArray 63)).setCells w3.heap.size 0 qk) (by rfl) (ex_put (cs := qk.toArray) rfl rfl rfl (there_newN _ _ _ (by simp [hzl, hql])) (by simpa using hiq) (all_one hq1)) rfl ?_
 refine pl_nil ?_
 obtain ⟨r4, hF2, hF3, -⟩ := fresh_store w3 zc.toArray 63 qk (by simp [hzl, hql])
 have hF4 := World.there_setCells (there_newN w3 zc.toArray 63 (n := 119) (by simp [hzl])) w3.heap.size 0 qk
 have z3 := g3.size
 have hT3 := there_gbR hT2 g3 (by omega) (by omega)
 have hB3 : Below w.heap.size w w3 := hB2.trans (gb_low g3 (by omega) (by omega))
 obtain ⟨w4, hw4⟩ : ∃ W, (w3.alloc (.cells zc.toArray 63)).setCells w3.heap.size 0 qk = W := ⟨_, rfl⟩
 rw [hw4] at r4 hF2 hF3 hF4 ⊢
 clear hw4
 have z4 := hF2.size
 have hs4 : w3.heap.size < w4.heap.size := by omega
 have R4 := R3.below hF2
 have hT4 := there_below hT3 hF2 (by omega)
 have hB4 := hB3.trans (hF2.mono hB3.size)
 have hce := R4.st.err
 simp only at hce
 have hc0 := hk0 _ _ r4
 clear hF2 hT3 hB3 R3 g3 hT2 hB2 R2 ck hbk hk0
 go_upto_region 5 with fail
 by_cases he : ek = 0
 ·by_cases hk : kk = 0
  ·have hcond : ek = 0 ∧ kk = 0 := ⟨he, hk⟩
   try simp only [Act.put]
   refine pl_begin ?_
   refine pl_t 17 (?_) (by rfl) ?_ rfl ?_
   rotate_left
   ·go_simp
    try with_reducible rfl
   simp only [nz]
   refine pl_t 18 (?_) (by rfl) ?_ rfl ?_
   rotate_left
   ·go_simp
    try with_reducible rfl
   simp only [nz]
   refine pl_t 19 (?_) (by rfl) ?_ rfl ?_
   rotate_left
   ·go_simp
    try with_reducible rfl
   simp only [nz]
   refine pl_t 20 (.int .i64 ek) (by rfl) (pl_one rfl rfl hce Tryz.underlying3 rfl) rfl ?_
   simp only [nz]
   refine pl_t 21 (.bool true) (by rfl) (by go_simp <;> simp [he]) rfl ?_
   simp only [nz]
   refine pl_t 22 (?_) (by rfl) ?_ rfl ?_
   rotate_left
   ·go_simp
    try with_reducible rfl
   simp only [nz]
   refine pl_t 23 (?_) (by rfl) ?_ rfl ?_
   rotate_left
   ·go_simp
    try with_reducible rfl
   simp only [nz]
   refine pl_t 24 (.int .i64 kk) (by rfl) (pl_one rfl rfl hc0 Tryz.underlying3 rfl) rfl ?_
   simp only [nz]
   refine pl_t 25 (.bool true) (by rfl) (by go_simp <;> simp [hk]) rfl ?_
   simp only [nz]
   refine pl_t 26 (?_) (by rfl) ?_ rfl ?_
   rotate_left
   ·go_simp
    try with_reducible rfl
   simp only [nz]
   refine pl_nil ?_
   clear hce hc0 R4 cf cd
   go_upto_region 6 with fail
   try simp only [Act.put]
   refine pl_begin ?_
   refine pl_t 27 (.agg zc.toArray) (by rfl) (ex_build (parts := []) rfl rfl (hb0 _)) rfl ?_
   simp only [nz]
   refine pl_store (w' := w4.setCells w.heap.size 0 zc) (by rfl) (ex_put (cs := zc.toArray) rfl rfl rfl (by simpa [hzl] using hT4) (by simpa using hiz) (all_one hz1)) rfl ?_
   refine pl_t 3 (?_) (by rfl) ?_ rfl ?_
   rotate_left
   ·go_simp
    try with_reducible rfl
   simp only [nz]
   refine pl_nil ?_
   have hrs := run_loadVar_mid (P := Tryz.prog) (w4.setCells w.heap.size 0 zc) w.heap.size 0 63 zc _ (World.rangeAt_setCells_same w4 w.heap.size 0 zc (by rw [hzl]; exact hT4)) Tryz.underlying63 rfl hiz
   have HF : Hid (∃ g : Mg, Ending.returned (.tuple #[.agg zc.toArray, .int .i64 130]) = .returned (.tuple #[.agg g.ms.cells.toArray, .int .i64 130]) ∧ g.pure = Mp.none ∧ g.ok ∧ g.At (w4.setCells w.heap.size 0 zc) ∧ g.Bk (fun b => w.heap.size ≤ b) ∧ Below w.heap.size w (w4.setCells w.heap.size 0 zc)) := hide ⟨Mg.none, by rw [hzc.out], rfl, Mg.none_ok, Mg.none_at _, ⟨no_bk, no_bk, no_bk2, no_bk, no_bk, no_bk⟩, below_sets (Nat.le_refl w.heap.size) zc 0 _ hB4⟩
   clear hB4 hT4 hzc r4 hF4
   go_wp2_with fail
   refine bodyPost_ret (results_ct rfl _ _ _ rfl hrs) rfl ?_
   first | exact HF.out | (rw [if_pos hcond]; exact HF.out) | (simp only [if_pos hcond]; exact HF.out)
  ·have hcond : ¬ (ek = 0 ∧ kk = 0) := fun q => hk q.2
   try simp only [Act.put]
   refine pl_begin ?_
   refine pl_t 17 (?_) (by rfl) ?_ rfl ?_
   rotate_left
   ·go_simp
    try with_reducible rfl
   simp only [nz]
   refine pl_t 18 (?_) (by rfl) ?_ rfl ?_
   rotate_left
   ·go_simp
    try with_reducible rfl
   simp only [nz]
   refine pl_t 19 (?_) (by rfl) ?_ rfl ?_
   rotate_left
   ·go_simp
    try with_reducible rfl
   simp only [nz]
   refine pl_t 20 (.int .i64 ek) (by rfl) (pl_one rfl rfl hce Tryz.underlying3 rfl) rfl ?_
   simp only [nz]
   refine pl_t 21 (.bool true) (by rfl) (by go_simp <;> simp [he]) rfl ?_
   simp only [nz]
   refine pl_t 22 (?_) (by rfl) ?_ rfl ?_
   rotate_left
   ·go_simp
    try with_reducible rfl
   simp only [nz]
   refine pl_t 23 (?_) (by rfl) ?_ rfl ?_
   rotate_left
   ·go_simp
    try with_reducible rfl
   simp only [nz]
   refine pl_t 24 (.int .i64 kk) (by rfl) (pl_one rfl rfl hc0 Tryz.underlying3 rfl) rfl ?_
   simp only [nz]
   refine pl_t 25 (.bool false) (by rfl) (by go_simp <;> simp [hk]) rfl ?_
   simp only [nz]
   refine pl_t 26 (?_) (by rfl) ?_ rfl ?_
   rotate_left
   ·go_simp
    try with_reducible rfl
   simp only [nz]
   refine pl_nil ?_
   clear hce hc0
   go_upto_region 7 with fail
   try simp only [Act.put]
   refine pl_begin ?_
   refine pl_t 28 (?_) (by rfl) ?_ rfl ?_
   rotate_left
   ·go_simp
    try with_reducible rfl
   simp only [nz]
   refine pl_t 29 (.agg qk.toArray) (by rfl) (ex_mid rfl rfl r4 Tryz.underlying63 rfl hiq) rfl ?_
   simp only [nz]
   refine pl_call (d := some 30) (by rfl) (by go_simp; first | done | exact ⟨rfl, rfl⟩ | with_reducible rfl) rfl ?_
   refine (cf w4 R4).mono ?_
   rintro _ w5 ⟨m, rfl, hp, hmo, hA, hB, R5, g5⟩
   refine ⟨_, rfl, ?_⟩
   simp only [nz]
   have hqm := hmo.ms.len
   have hqn := hmo.ms.one
   have hqi : (Tryz.prog.info? 63).map (·.size) = some m.ms.cells.length := by rw [hqm]; exact iszM
   obtain ⟨q, hqq⟩ : ∃ q, Hid (m.ms.cells = q) := ⟨_, hide rfl⟩
   simp only [hqq.out] at hqm hqn hqi ⊢
   have tB5 := there_gbR hF4 g5 hs4 (by omega)
   have hT5 := there_gbR hT4 g5 (by omega) (by omega)
   refine pl_store (w' := w5.setCells w3.heap.size 0 q) (by rfl) (ex_put (cs := q.toArray) rfl rfl rfl (by simpa [hqm] using tB5) (by simpa using hqi) (all_one hqn)) rfl ?_
   refine pl_nil ?_
   have V6 := gb_low (n := w3.heap.size) (gb_setsR w5 w3.heap.size q 0) (Nat.le_refl _) (by have := g5.size; omega)
   have r6 := World.rangeAt_setCells_same w5 w3.heap.size 0 q (by rw [hqm]; exact tB5)
   have z5 := g5.size
   have hT6 := World.there_setCells hT5 w3.heap.size 0 q
   have hB5 : Below w.heap.size w w5 := hB4.trans (gb_low g5 (by omega) (by omega))
   have hA6 := Mg.At.put (n := w3.heap.size) (o := 0) (vs := q) hA ⟨hB.1.mono (fun b hb => by omega), hB.2.1.mono (fun b hb => by omega), fun y hy => (hB.2.2.1 y hy).mono (fun b hb => by omega), hB.2.2.2.1.mono (fun b hb => by omega), hB.2.2.2.2.1.mono (fun b hb => by omega), hB.2.2.2.2.2.mono (fun b hb => by omega)⟩
   have hB6 := below_sets (b := w3.heap.size) (by omega) q 0 _ hB5
   have R6 := R5.low V6 (by omega)
   have z6 : (w5.setCells w3.heap.size 0 q).heap.size = w5.heap.size := size_sets ..
   obtain ⟨w6, hw6⟩ : ∃ W, w5.setCells w3.heap.size 0 q = W := ⟨_, rfl⟩
   rw [hw6] at V6 r6 hT6 hA6 hB6 R6 z6 ⊢
   clear hw6 V6 hA hB5 R5 tB5 hT5 r4 hF4 hT4 hB4 R4
   go_upto_region 8 with fail
   try simp only [Act.put]
   refine pl_begin ?_
   refine pl_t 31 (?_) (by rfl) ?_ rfl ?_
   rotate_left
   ·go_simp
    try with_reducible rfl
   simp only [nz]
   refine pl_call (d := some 32) (by rfl) (by go_simp; first | done | exact ⟨rfl, rfl⟩ | with_reducible rfl) rfl ?_
   refine (cd w6 R6).mono ?_
   rintro _ w7 ⟨rfl, hb7⟩
   refine ⟨_, rfl, ?_⟩
   simp only [nz]
   refine pl_t 6 (?_) (by rfl) ?_ rfl ?_
   rotate_left
   ·go_simp
    try with_reducible rfl
   simp only [nz]
   refine pl_nil ?_
   have r7 := range_below r6 hb7 (by omega)
   have hT7 := there_below hT6 hb7 (by omega)
   have hB7 := hB6.trans (hb7.mono hB6.size)
   have hA7 := hA6.below hb7
   have hBk : m.Bk (fun b => w.heap.size < b) := ⟨hB.1.mono (fun b hb => by omega), hB.2.1.mono (fun b hb => by omega), fun y hy => (hB.2.2.1 y hy).mono (fun b hb => by omega), hB.2.2.2.1.mono (fun b hb => by omega), hB.2.2.2.2.1.mono (fun b hb => by omega), hB.2.2.2.2.2.mono (fun b hb => by omega)⟩
   have hBk0 : m.Bk (fun b => w.heap.size ≤ b) := ⟨hB.1.mono (fun b hb => by omega), hB.2.1.mono (fun b hb => by omega), fun y hy => (hB.2.2.1 y hy).mono (fun b hb => by omega), hB.2.2.2.1.mono (fun b hb => by omega), hB.2.2.2.2.1.mono (fun b hb => by omega), hB.2.2.2.2.2.mono (fun b hb => by omega)⟩
   have B9 := fun vs => below_sets (Nat.le_refl w.heap.size) vs 0 _ hB7
   have A9 := fun vs => Mg.At.put (o := 0) (vs := vs) hA7 hBk
   have HM := hide (show m.pure = mp ∧ m.ok ∧ m.Bk (fun b => w.heap.size ≤ b) from ⟨hp, hmo, hBk0⟩)
   clear hA6 hB hBk hBk0 hT6 hB6 R6 r6 hp hmo hA7 hb7 cd cf g5
   by_cases hf : f = 0
   ·subst hf
    go_upto_region 11 with fail
    try simp only [Act.put]
    refine pl_begin ?_
    refine pl_t 37 (.agg q.toArray) (by rfl) (ex_mid rfl rfl r7 Tryz.underlying63 rfl hqi) rfl ?_
    simp only [nz]
    refine pl_store (w' := w7.setCells w.heap.size 0 q) (by rfl) (ex_put (cs := q.toArray) rfl rfl rfl (by simpa [hqm] using hT7) (by simpa using hqi) (all_one hqn)) rfl ?_
    refine pl_t 3 (?_) (by rfl) ?_ rfl ?_
    rotate_left
    ·go_simp
     try with_reducible rfl
    simp only [nz]
    refine pl_nil ?_
    have hrs := run_loadVar_mid (P := Tryz.prog) (w7.setCells w.heap.size 0 q) w.heap.size 0 63 q _ (World.rangeAt_setCells_same w7 w.heap.size 0 q (by rw [hqm]; exact hT7)) Tryz.underlying63 rfl hqi
    have HF : Hid (∃ g : Mg, Ending.returned (.tuple #[.agg q.toArray, .int .i64 0]) = .returned (.tuple #[.agg g.ms.cells.toArray, .int .i64 0]) ∧ g.pure = mp ∧ g.ok ∧ g.At (w7.setCells w.heap.size 0 q) ∧ g.Bk (fun b => w.heap.size ≤ b) ∧ Below w.heap.size w (w7.setCells w.heap.size 0 q)) := hide ⟨m, by rw [hqq.out], HM.out.1, HM.out.2.1, A9 q, HM.out.2.2, B9 q⟩
    clear HM A9 B9 r7 hB7 hT7 hqq
    go_wp2_with fail
    refine bodyPost_ret (results_ct rfl _ _ _ rfl hrs) rfl ?_
    first | exact HF.out | (rw [if_neg hcond]; exact HF.out) | (simp only [if_neg hcond]; exact HF.out)
   ·have hfb : (f != 0) = true := by simpa using hf
    go_upto_region 10 with fail
    try simp only [Act.put]
    refine pl_begin ?_
    refine pl_t 35 (.agg zc.toArray) (by rfl) (ex_build (parts := []) rfl rfl (hb0 _)) rfl ?_
    simp only [nz]
    refine pl_t 36 (?_) (by rfl) ?_ rfl ?_
    rotate_left
    ·go_simp
     try with_reducible rfl
    simp only [nz]
    refine pl_store (w' := w7.setCells w.heap.size 0 zc) (by rfl) (ex_put (cs := zc.toArray) rfl rfl rfl (by simpa [hzl] using hT7) (by simpa using hiz) (all_one hz1)) rfl ?_
    refine pl_t 3 (?_) (by rfl) ?_ rfl ?_
    rotate_left
    ·go_simp
     try with_reducible rfl
    simp only [nz]
    refine pl_nil ?_
    have hrs := run_loadVar_mid (P := Tryz.prog) (w7.setCells w.heap.size 0 zc) w.heap.size 0 63 zc _ (World.rangeAt_setCells_same w7 w.heap.size 0 zc (by rw [hzl]; exact hT7)) Tryz.underlying63 rfl hiz
    have HF : Hid (∃ g : Mg, Ending.returned (.tuple #[.agg zc.toArray, .int .i64 f]) = .returned (.tuple #[.agg g.ms.cells.toArray, .int .i64 f]) ∧ g.pure = Mp.none ∧ g.ok ∧ g.At (w7.setCells w.heap.size 0 zc) ∧ g.Bk (fun b => w.heap.size ≤ b) ∧ Below w.heap.size w (w7.setCells w.heap.size 0 zc)) := hide ⟨Mg.none, by rw [hzc.out], rfl, Mg.none_ok, Mg.none_at _, ⟨no_bk, no_bk, no_bk2, no_bk, no_bk, no_bk⟩, B9 zc⟩
    clear HM A9 B9 r7 hB7 hT7 hqq hzc
    go_wp2_with fail
    refine bodyPost_ret (results_ct rfl _ _ _ rfl hrs) rfl ?_
    first | exact HF.out | (rw [if_neg hcond, if_neg hf]; exact HF.out) | (simp only [if_neg hcond, if_neg hf]; exact HF.out)
 ·have hcond : ¬ (ek = 0 ∧ kk = 0) := fun q => he q.1
  have hk : True := trivial
  try simp only [Act.put]
  refine pl_begin ?_
  refine pl_t 17 (?_) (by rfl) ?_ rfl ?_
  rotate_left
  ·go_simp
   try with_reducible rfl
  simp only [nz]
  refine pl_t 18 (?_) (by rfl) ?_ rfl ?_
  rotate_left
  ·go_simp
   try with_reducible rfl
  simp only [nz]
  refine pl_t 19 (?_) (by rfl) ?_ rfl ?_
  rotate_left
  ·go_simp
   try with_reducible rfl
  simp only [nz]
  refine pl_t 20 (.int .i64 ek) (by rfl) (pl_one rfl rfl hce Tryz.underlying3 rfl) rfl ?_
  simp only [nz]
  refine pl_t 21 (.bool false) (by rfl) (by go_simp <;> simp [he]) rfl ?_
  simp only [nz]
  refine pl_t 22 (?_) (by rfl) ?_ rfl ?_
  rotate_left
  ·go_simp
   try with_reducible rfl
  simp only [nz]
  refine pl_skip (d := some 23) (by rfl) rfl ?_
  simp only [nz]
  refine pl_skip (d := some 24) (by rfl) rfl ?_
  simp only [nz]
  refine pl_skip (d := some 25) (by rfl) rfl ?_
  simp only [nz]
  refine pl_t 26 (?_) (by rfl) ?_ rfl ?_
  rotate_left
  ·go_simp
   try with_reducible rfl
  simp only [nz]
  refine pl_nil ?_
  clear hce hc0
  go_upto_region 7 with fail
  try simp only [Act.put]
  refine pl_begin ?_
  refine pl_t 28 (?_) (by rfl) ?_ rfl ?_
  rotate_left
  ·go_simp
   try with_reducible rfl
  simp only [nz]
  refine pl_t 29 (.agg qk.toArray) (by rfl) (ex_mid rfl rfl r4 Tryz.underlying63 rfl hiq) rfl ?_
  simp only [nz]
  refine pl_call (d := some 30) (by rfl) (by go_simp; first | done | exact ⟨rfl, rfl⟩ | with_reducible rfl) rfl ?_
  refine (cf w4 R4).mono ?_
  rintro _ w5 ⟨m, rfl, hp, hmo, hA, hB, R5, g5⟩
  refine ⟨_, rfl, ?_⟩
  simp only [nz]
  have hqm := hmo.ms.len
  have hqn := hmo.ms.one
  have hqi : (Tryz.prog.info? 63).map (·.size) = some m.ms.cells.length := by rw [hqm]; exact iszM
  obtain ⟨q, hqq⟩ : ∃ q, Hid (m.ms.cells = q) := ⟨_, hide rfl⟩
  simp only [hqq.out] at hqm hqn hqi ⊢
  have tB5 := there_gbR hF4 g5 hs4 (by omega)
  have hT5 := there_gbR hT4 g5 (by omega) (by omega)
  refine pl_store (w' := w5.setCells w3.heap.size 0 q) (by rfl) (ex_put (cs := q.toArray) rfl rfl rfl (by simpa [hqm] using tB5) (by simpa using hqi) (all_one hqn)) rfl ?_
  refine pl_nil ?_
  have V6 := gb_low (n := w3.heap.size) (gb_setsR w5 w3.heap.size q 0) (Nat.le_refl _) (by have := g5.size; omega)
  have r6 := World.rangeAt_setCells_same w5 w3.heap.size 0 q (by rw [hqm]; exact tB5)
  have z5 := g5.size
  have hT6 := World.there_setCells hT5 w3.heap.size 0 q
  have hB5 : Below w.heap.size w w5 := hB4.trans (gb_low g5 (by omega) (by omega))
  have hA6 := Mg.At.put (n := w3.heap.size) (o := 0) (vs := q) hA ⟨hB.1.mono (fun b hb => by omega), hB.2.1.mono (fun b hb => by omega), fun y hy => (hB.2.2.1 y hy).mono (fun b hb => by omega), hB.2.2.2.1.mono (fun b hb => by omega), hB.2.2.2.2.1.mono (fun b hb => by omega), hB.2.2.2.2.2.mono (fun b hb => by omega)⟩
  have hB6 := below_sets (b := w3.heap.size) (by omega) q 0 _ hB5
  have R6 := R5.low V6 (by omega)
  have z6 : (w5.setCells w3.heap.size 0 q).heap.size = w5.heap.size := size_sets ..
  obtain ⟨w6, hw6⟩ : ∃ W, w5.setCells w3.heap.size 0 q = W := ⟨_, rfl⟩
  rw [hw6] at V6 r6 hT6 hA6 hB6 R6 z6 ⊢
  clear hw6 V6 hA hB5 R5 tB5 hT5 r4 hF4 hT4 hB4 R4
  go_upto_region 8 with fail
  try simp only [Act.put]
  refine pl_begin ?_
  refine pl_t 31 (?_) (by rfl) ?_ rfl ?_
  rotate_left
  ·go_simp
   try with_reducible rfl
  simp only [nz]
  refine pl_call (d := some 32) (by rfl) (by go_simp; first | done | exact ⟨rfl, rfl⟩ | with_reducible rfl) rfl ?_
  refine (cd w6 R6).mono ?_
  rintro _ w7 ⟨rfl, hb7⟩
  refine ⟨_, rfl, ?_⟩
  simp only [nz]
  refine pl_t 6 (?_) (by rfl) ?_ rfl ?_
  rotate_left
  ·go_simp
   try with_reducible rfl
  simp only [nz]
  refine pl_nil ?_
  have r7 := range_below r6 hb7 (by omega)
  have hT7 := there_below hT6 hb7 (by omega)
  have hB7 := hB6.trans (hb7.mono hB6.size)
  have hA7 := hA6.below hb7
  have hBk : m.Bk (fun b => w.heap.size < b) := ⟨hB.1.mono (fun b hb => by omega), hB.2.1.mono (fun b hb => by omega), fun y hy => (hB.2.2.1 y hy).mono (fun b hb => by omega), hB.2.2.2.1.mono (fun b hb => by omega), hB.2.2.2.2.1.mono (fun b hb => by omega), hB.2.2.2.2.2.mono (fun b hb => by omega)⟩
  have hBk0 : m.Bk (fun b => w.heap.size ≤ b) := ⟨hB.1.mono (fun b hb => by omega), hB.2.1.mono (fun b hb => by omega), fun y hy => (hB.2.2.1 y hy).mono (fun b hb => by omega), hB.2.2.2.1.mono (fun b hb => by omega), hB.2.2.2.2.1.mono (fun b hb => by omega), hB.2.2.2.2.2.mono (fun b hb => by omega)⟩
  have B9 := fun vs => below_sets (Nat.le_refl w.heap.size) vs 0 _ hB7
  have A9 := fun vs => Mg.At.put (o := 0) (vs := vs) hA7 hBk
  have HM := hide (show m.pure = mp ∧ m.ok ∧ m.Bk (fun b => w.heap.size ≤ b) from ⟨hp, hmo, hBk0⟩)
  clear hA6 hB hBk hBk0 hT6 hB6 R6 r6 hp hmo hA7 hb7 cd cf g5
  by_cases hf : f = 0
  ·subst hf
   go_upto_region 11 with fail
   try simp only [Act.put]
   refine pl_begin ?_
   refine pl_t 37 (.agg q.toArray) (by rfl) (ex_mid rfl rfl r7 Tryz.underlying63 rfl hqi) rfl ?_
   simp only [nz]
   refine pl_store (w' := w7.setCells w.heap.size 0 q) (by rfl) (ex_put (cs := q.toArray) rfl rfl rfl (by simpa [hqm] using hT7) (by simpa using hqi) (all_one hqn)) rfl ?_
   refine pl_t 3 (?_) (by rfl) ?_ rfl ?_
   rotate_left
   ·go_simp
    try with_reducible rfl
   simp only [nz]
   refine pl_nil ?_
   have hrs := run_loadVar_mid (P := Tryz.prog) (w7.setCells w.heap.size 0 q) w.heap.size 0 63 q _ (World.rangeAt_setCells_same w7 w.heap.size 0 q (by rw [hqm]; exact hT7)) Tryz.underlying63 rfl hqi
   have HF : Hid (∃ g : Mg, Ending.returned (.tuple #[.agg q.toArray, .int .i64 0]) = .returned (.tuple #[.agg g.ms.cells.toArray, .int .i64 0]) ∧ g.pure = mp ∧ g.ok ∧ g.At (w7.setCells w.heap.size 0 q) ∧ g.Bk (fun b => w.heap.size ≤ b) ∧ Below w.heap.size w (w7.setCells w.heap.size 0 q)) := hide ⟨m, by rw [hqq.out], HM.out.1, HM.out.2.1, A9 q, HM.out.2.2, B9 q⟩
   clear HM A9 B9 r7 hB7 hT7 hqq
   go_wp2_with fail
   refine bodyPost_ret (results_ct rfl _ _ _ rfl hrs) rfl ?_
   first | exact HF.out | (rw [if_neg hcond]; exact HF.out) | (simp only [if_neg hcond]; exact HF.out)
  ·have hfb : (f != 0) = true := by simpa using hf
   go_upto_region 10 with fail
   try simp only [Act.put]
   refine pl_begin ?_
   refine pl_t 35 (.agg zc.toArray) (by rfl) (ex_build (parts := []) rfl rfl (hb0 _)) rfl ?_
   simp only [nz]
   refine pl_t 36 (?_) (by rfl) ?_ rfl ?_
   rotate_left
   ·go_simp
    try with_reducible rfl
   simp only [nz]
   refine pl_store (w' := w7.setCells w.heap.size 0 zc) (by rfl) (ex_put (cs := zc.toArray) rfl rfl rfl (by simpa [hzl] using hT7) (by simpa using hiz) (all_one hz1)) rfl ?_
   refine pl_t 3 (?_) (by rfl) ?_ rfl ?_
   rotate_left
   ·go_simp
    try with_reducible rfl
   simp only [nz]
   refine pl_nil ?_
   have hrs := run_loadVar_mid (P := Tryz.prog) (w7.setCells w.heap.size 0 zc) w.heap.size 0 63 zc _ (World.rangeAt_setCells_same w7 w.heap.size 0 zc (by rw [hzl]; exact hT7)) Tryz.underlying63 rfl hiz
   have HF : Hid (∃ g : Mg, Ending.returned (.tuple #[.agg zc.toArray, .int .i64 f]) = .returned (.tuple #[.agg g.ms.cells.toArray, .int .i64 f]) ∧ g.pure = Mp.none ∧ g.ok ∧ g.At (w7.setCells w.heap.size 0 zc) ∧ g.Bk (fun b => w.heap.size ≤ b) ∧ Below w.heap.size w (w7.setCells w.heap.size 0 zc)) := hide ⟨Mg.none, by rw [hzc.out], rfl, Mg.none_ok, Mg.none_at _, ⟨no_bk, no_bk, no_bk2, no_bk, no_bk, no_bk⟩, B9 zc⟩
   clear HM A9 B9 r7 hB7 hT7 hqq hzc
   go_wp2_with fail
   refine bodyPost_ret (results_ct rfl _ _ _ rfl hrs) rfl ?_
   first | exact HF.out | (rw [if_neg hcond, if_neg hf]; exact HF.out) | (simp only [if_neg hcond, if_neg hf]; exact HF.out)
def cod (s : Rst) : Int := if s.2.2 = true then 130 else s.2.1
def Sim (s : Rst) (t : Xst) : Prop := (s = (t.1, 0, false) ∧ t.2 = 0) ∨ (cod s ≠ 0 ∧ t.2 = cod s)
structure Pair {α : Type} (f : Rst → α × Rst) (xf : Xst → α × Xst) : Prop where
  bad : ∀ s, cod s ≠ 0 → cod (f s).2 = cod s
  xbad : ∀ t, t.2 ≠ 0 → (xf t).2.2 = t.2
  ok : ∀ r, Sim (f (r, 0, false)).2 (xf (r, 0)).2 ∧ (cod (f (r, 0, false)).2 = 0 → (f (r, 0, false)).1 = (xf (r, 0)).1)
theorem Sim.good {s : Rst} {t : Xst} (h : Sim s t) (h0 : cod s = 0) : s = (t.1, 0, false) ∧ t.2 = 0 := by
 rcases h with h | h
 ·exact h
 ·exact absurd h0 h.1
theorem Sim.code {s : Rst} {t : Xst} (h : Sim s t) : t.2 = cod s := by
 rcases h with ⟨h1, h2⟩ | h
 ·rw [h1, h2]; rfl
 ·exact h.2
theorem Pair.go {α : Type} {f : Rst → α × Rst} {xf : Xst → α × Xst} (p : Pair f xf) {s : Rst} {t : Xst} (h : Sim s t) : Sim (f s).2 (xf t).2 ∧ (cod (f s).2 = 0 → (f s).1 = (xf t).1) := by
 rcases h with ⟨h1, h2⟩ | ⟨h1, h2⟩
 ·obtain ⟨r, e⟩ := t
  subst h1
  have h2 : e = 0 := h2
  subst h2
  exact p.ok r
 ·have c := p.bad s h1
  refine ⟨.inr ⟨by rw [c]; exact h1, ?_⟩, fun q => absurd (c.symm.trans q) h1⟩
  rw [p.xbad t (by rw [h2]; exact h1), h2, c]
theorem Pair.simple {α : Type} (g : List Int → Int → α × List Int × Int) (hg : ∀ r e, e ≠ 0 → (g r e).2.2 = e) : Pair (fun s => ((g s.1 s.2.1).1, (g s.1 s.2.1).2.1, (g s.1 s.2.1).2.2, s.2.2)) (fun t => ((g t.1 t.2).1, (g t.1 t.2).2)) := by
 refine ⟨fun s h => ?_, fun t h => hg _ _ h, fun r => ⟨?_, fun _ => rfl⟩⟩
 ·obtain ⟨r, e, z⟩ := s
  cases z
  ·exact hg r e h
  ·rfl
 ·show Sim ((g r 0).2.1, (g r 0).2.2, false) (g r 0).2
  by_cases q : (g r 0).2.2 = 0
  ·exact .inl ⟨by rw [q], q⟩
  ·exact .inr ⟨q, rfl⟩
theorem Pair.bind {α β γ : Type} {f : Rst → α × Rst} {xf : Xst → α × Xst} {g : Rst → β × Rst} {xg : Xst → β × Xst} (h : α → β → γ) (p : Pair f xf) (q : Pair g xg) : Pair (fun s => (h (f s).1 (g (f s).2).1, (g (f s).2).2)) (fun t => (h (xf t).1 (xg (xf t).2).1, (xg (xf t).2).2)) := by
 refine ⟨fun s hs => ?_, fun t ht => ?_, fun r => ?_⟩
 ·show cod (g (f s).2).2 = cod s
  rw [q.bad _ (by rw [p.bad s hs]; exact hs), p.bad s hs]
 ·show (xg (xf t).2).2.2 = t.2
  rw [q.xbad _ (by rw [p.xbad t ht]; exact ht), p.xbad t ht]
 ·obtain ⟨h1, h2⟩ := p.ok r
  obtain ⟨h3, h4⟩ := q.go h1
  refine ⟨h3, fun hc => ?_⟩
  have hc1 : cod (f (r, 0, false)).2 = 0 := by
   by_cases c : cod (f (r, 0, false)).2 = 0
   ·exact c
   ·exact absurd ((q.bad _ c).symm.trans hc) c
  show h _ _ = h _ _
  rw [h2 hc1, h4 hc]
theorem Pair.map {α β : Type} {f : Rst → α × Rst} {xf : Xst → α × Xst} (h : α → β) (p : Pair f xf) : Pair (fun s => (h (f s).1, (f s).2)) (fun t => (h (xf t).1, (xf t).2)) :=
 ⟨p.bad, p.xbad, fun r => ⟨(p.ok r).1, fun hc => by show h _ = h _; rw [(p.ok r).2 hc]⟩⟩
theorem Pair.pure {α : Type} (a : α) : Pair (fun s => (a, s)) (fun t => (a, t)) := ⟨fun _ _ => rfl, fun _ _ => rfl, fun r => ⟨.inl ⟨rfl, rfl⟩, fun _ => rfl⟩⟩
theorem itG_bad {α : Type} {one : Rst → α × Rst} (h : ∀ s, cod s ≠ 0 → cod (one s).2 = cod s) {s : Rst} (hs : cod s ≠ 0) : ∀ k, cod (itG one s k).2 = cod s := by
 intro k
 induction k with
 | zero => rfl
 | succ k ih => show cod (one (itG one s k).2).2 = _; rw [h _ (by rw [ih]; exact hs), ih]
theorem xitG_bad {α : Type} {one : Xst → α × Xst} {t : Xst} (ht : t.2 ≠ 0) : ∀ k, (xitG one t k) = ([], t) := by
 intro k
 induction k with
 | zero => rfl
 | succ k ih => show (if (xitG one t k).2.2 = 0 then _ else xitG one t k) = _; rw [ih, if_neg ht]
theorem it_sim {α : Type} {one : Rst → α × Rst} {xone : Xst → α × Xst} (p : Pair one xone) {s : Rst} {t : Xst} (h : Sim s t) : ∀ k, Sim (itG one s k).2 (xitG xone t k).2 ∧ (cod (itG one s k).2 = 0 → (itG one s k).1 = (xitG xone t k).1) := by
 intro k
 induction k with
 | zero => exact ⟨h, fun _ => rfl⟩
 | succ k ih =>
  obtain ⟨h1, h2⟩ := ih
  obtain ⟨h3, h4⟩ := p.go h1
  show Sim (one (itG one s k).2).2 (if (xitG xone t k).2.2 = 0 then ((xitG xone t k).1 ++ [(xone (xitG xone t k).2).1], (xone (xitG xone t k).2).2) else xitG xone t k).2 ∧ (cod (one (itG one s k).2).2 = 0 → (itG one s k).1 ++ [(one (itG one s k).2).1] = (if (xitG xone t k).2.2 = 0 then ((xitG xone t k).1 ++ [(xone (xitG xone t k).2).1], (xone (xitG xone t k).2).2) else xitG xone t k).1)
  by_cases e : (xitG xone t k).2.2 = 0
  ·rw [if_pos e]
   refine ⟨h3, fun hc => ?_⟩
   have c0 : cod (itG one s k).2 = 0 := by rw [← h1.code]; exact e
   rw [h2 c0, h4 hc]
  ·rw [if_neg e]
   have c0 : cod (itG one s k).2 ≠ 0 := by rw [← h1.code]; exact e
   have c1 := p.bad _ c0
   exact ⟨.inr ⟨by rw [c1]; exact c0, by rw [h1.code, c1]⟩, fun hc => absurd (c1.symm.trans hc) c0⟩
theorem numS_bad (most : Int) (r : List Int) (e : Int) (h : e ≠ 0) : (numS r e most).2.2 = e := by
 unfold numS
 rw [if_neg h]
theorem textS_bad (most : Int) (r : List Int) (e : Int) (h : e ≠ 0) : (textS r e most).2.2 = e := by
 have := numS_bad 9223372036854775807 r e h
 unfold textS
 rw [if_neg (by rw [this]; exact h)]
 exact this
theorem rawS_bad (n : Int) (r : List Int) (e : Int) (h : e ≠ 0) : (rawS r e n).2.2 = e := by
 unfold rawS
 rw [if_neg h]
theorem numS_stk (most : Int) (r : List Int) {e e0 : Int} (h : e = e0) (h0 : e0 ≠ 0) : (numS r e most).2.2 = e0 := by subst h; exact numS_bad most r e h0
theorem textS_stk (most : Int) (r : List Int) {e e0 : Int} (h : e = e0) (h0 : e0 ≠ 0) : (textS r e most).2.2 = e0 := by subst h; exact textS_bad most r e h0
theorem rawS_stk (n : Int) (r : List Int) {e e0 : Int} (h : e = e0) (h0 : e0 ≠ 0) : (rawS r e n).2.2 = e0 := by subst h; exact rawS_bad n r e h0
theorem nu_pair (most : Int) : Pair (nuS most) (xnuS most) := Pair.simple (fun r e => numS r e most) (numS_bad most)
theorem dg_pair : Pair dgS xdgS := Pair.simple (fun r e => (padN 32 (rawS r e 32).1, (rawS r e 32).2)) (rawS_bad 32)
theorem tx_pair (most : Int) : Pair (txS most) (xtxS most) := Pair.simple (fun r e => (strOf (textS r e most).1, (textS r e most).2)) (textS_bad most)
theorem si_pair : Pair siS xsiS := Pair.simple (fun r e => sgS r e) (fun r e h => by
 show (rawS (numS r e 64).2.1 (numS r e 64).2.2 16).2.2 = e
 rw [rawS_bad 16 _ _ (by rw [numS_bad 64 r e h]; exact h), numS_bad 64 r e h])
theorem en_pair : Pair enS xenS := Pair.simple (fun r e => evS r e) (fun r e h => by
 show (rawS (textS (numS r e 64).2.1 (numS r e 64).2.2 4194304).2.1 (textS (numS r e 64).2.1 (numS r e 64).2.2 4194304).2.2 16).2.2 = e
 exact rawS_stk 16 _ (textS_stk 4194304 _ (numS_bad 64 r e h) h) h)
theorem ba_pair : Pair baS xbaS := Pair.simple (fun r e => (((getB r e).q, (getB r e).rs.map BRq.un), (getB r e).rest, (getB r e).err)) (fun r e h => by
 show (getB r e).err = e
 have h1 := numS_bad 5 r e h
 have h2 : (numS r e 5).1 = 0 := numS_zero (by rw [h1]; exact h)
 unfold getB
 rw [if_pos h2]
 exact h1)
theorem vtS_bad (r : List Int) (e : Int) (h : e ≠ 0) : (vtS r e).2.2 = e := by
 exact rawS_stk 32 _ (numS_stk _ _ (numS_stk _ _ (numS_stk _ _ (numS_bad 2 r e h) h) h) h) h
def vt4 (v : Int) (r : List Int) (e : Int) : Vt × List Int × Int :=
  (⟨v, (numS r e 1048576).1, (numS (numS r e 1048576).2.1 (numS r e 1048576).2.2 1099511627776).1, (numS (numS (numS r e 1048576).2.1 (numS r e 1048576).2.2 1099511627776).2.1 (numS (numS r e 1048576).2.1 (numS r e 1048576).2.2 1099511627776).2.2 1099511627776).1, padN 32 (rawS (numS (numS (numS r e 1048576).2.1 (numS r e 1048576).2.2 1099511627776).2.1 (numS (numS r e 1048576).2.1 (numS r e 1048576).2.2 1099511627776).2.2 1099511627776).2.1 (numS (numS (numS r e 1048576).2.1 (numS r e 1048576).2.2 1099511627776).2.1 (numS (numS r e 1048576).2.1 (numS r e 1048576).2.2 1099511627776).2.2 1099511627776).2.2 32).1⟩, (rawS (numS (numS (numS r e 1048576).2.1 (numS r e 1048576).2.2 1099511627776).2.1 (numS (numS r e 1048576).2.1 (numS r e 1048576).2.2 1099511627776).2.2 1099511627776).2.1 (numS (numS (numS r e 1048576).2.1 (numS r e 1048576).2.2 1099511627776).2.1 (numS (numS r e 1048576).2.1 (numS r e 1048576).2.2 1099511627776).2.2 1099511627776).2.2 32).2)
theorem vt4_bad (v : Int) (r : List Int) (e : Int) (h : e ≠ 0) : (vt4 v r e).2.2 = e := by
 exact rawS_stk 32 _ (numS_stk _ _ (numS_stk _ _ (numS_bad 1048576 r e h) h) h) h
theorem vtS_4 (r : List Int) (e : Int) : vtS r e = vt4 (numS r e 2).1 (numS r e 2).2.1 (numS r e 2).2.2 := rfl
theorem xvtS_4 (r : List Int) (e : Int) : xvtS r e = vt4 (numS r e 2).1 (numS r e 2).2.1 (kdE r e 2) := rfl
theorem vo_pair : Pair voS xvoS := by
 refine ⟨fun s h => ?_, fun t h => ?_, fun r => ?_⟩
 ·obtain ⟨r, e, z⟩ := s
  cases z
  ·have h : e ≠ 0 := h
   have h1 := numS_bad 2 r e h
   have k : kdZ r e 2 false = false := by
    unfold kdZ
    rw [h1]
    have : (e == 0) = false := by simpa using h
    rw [this]
    simp
   show (if kdZ r e 2 false = true then 130 else (vtS r e).2.2) = e
   rw [k, if_neg (by decide)]
   exact vtS_bad r e h
  ·have k : kdZ r e 2 true = true := by
    unfold kdZ
    simp
   show (if kdZ r e 2 true = true then 130 else (vtS r e).2.2) = 130
   rw [k, if_pos rfl]
 ·obtain ⟨r, e⟩ := t
  have h : e ≠ 0 := h
  have h1 := numS_bad 2 r e h
  have k : kdE r e 2 = e := by
   unfold kdE
   rw [h1]
   have : (e == 0) = false := by simpa using h
   rw [this]
   simp
  show (xvtS r e).2.2 = e
  rw [xvtS_4, k]
  exact vt4_bad _ _ _ h
 ·show Sim ((vtS r 0).2.1, (vtS r 0).2.2, kdZ r 0 2 false) (xvtS r 0).2 ∧ (cod ((vtS r 0).2.1, (vtS r 0).2.2, kdZ r 0 2 false) = 0 → (vtS r 0).1 = (xvtS r 0).1)
  rw [vtS_4, xvtS_4]
  unfold kdZ kdE
  generalize (numS r 0 2).1 = v
  generalize (numS r 0 2).2.1 = r1
  generalize (numS r 0 2).2.2 = e1
  by_cases he : e1 = 0
  ·subst he
   by_cases hv : v = 0
   ·subst hv
    refine ⟨.inr ⟨show (130 : Int) ≠ 0 by decide, ?_⟩, fun q => absurd q (show (130 : Int) ≠ 0 by decide)⟩
    exact vt4_bad _ _ _ (by decide)
   ·have hb : (v == 0) = false := by simpa using hv
    rw [hb]
    refine ⟨?_, fun _ => rfl⟩
    by_cases q : (vt4 v r1 0).2.2 = 0
    ·exact .inl ⟨by show (_, _, false) = _; rw [q]; rfl, q⟩
    ·exact .inr ⟨q, rfl⟩
  ·have hb : (e1 == 0) = false := by simpa using he
   rw [hb]
   have z : (if (v == 0) = true then (if false = true then true else false) else false) = false := by cases (v == 0) <;> rfl
   rw [z]
   have q := vt4_bad v r1 e1 he
   exact ⟨.inr ⟨by show (vt4 v r1 e1).2.2 ≠ 0; rw [q]; exact he, rfl⟩, fun _ => rfl⟩
theorem ls_pair {α : Type} {one : Rst → α × Rst} {xone : Xst → α × Xst} (most : Int) (p : Pair one xone) : Pair (lsS most one) (xlsS most xone) := by
 refine ⟨fun s h => ?_, fun t h => ?_, fun r => ?_⟩
 ·have c := (nu_pair most).bad s h
  show cod (itG one (nuS most s).2 _).2 = _
  rw [itG_bad p.bad (by rw [c]; exact h), c]
 ·have c := (nu_pair most).xbad t h
  show (xitG xone (xnuS most t).2 _).2.2 = _
  rw [xitG_bad (by rw [c]; exact h)]
  exact c
 ·have c := ((nu_pair most).ok r).1
  show Sim (itG one (nuS most (r, 0, false)).2 (nuS most (r, 0, false)).1.toNat).2 (xitG xone (xnuS most (r, 0)).2 (nuS most (r, 0, false)).1.toNat).2 ∧ _
  exact it_sim p c _
theorem ce_pair : Pair ceS xceS := Pair.bind (fun a b => (a, b)) vo_pair (ls_pair 64 si_pair)
theorem he_pair : Pair heS xheS := Pair.bind (fun a b => (⟨a.1, a.2, b.1, b.2⟩ : Hp)) ba_pair ce_pair
theorem ch_pair : Pair chS xchS := Pair.bind (fun a (b : Int × (Int × List Hp)) => (⟨a, b.1, b.2.1, b.2.2⟩ : Cp)) (nu_pair 1048576) (Pair.bind (fun a b => (a, b)) (nu_pair 64) (Pair.bind (fun a b => (a, b)) (nu_pair 1099511627776) (ls_pair 4 he_pair)))
theorem mg1_pair : Pair mg1 xmg1 := Pair.bind (fun a (b : Int × (Bool × List Rq)) => (⟨1, a, 0, 0, b.1, b.2.1, b.2.2, Vt.zero, 0, 0, 0, [], [], zeros32, Vt.zero, [], ⟨#[]⟩, []⟩ : Mp)) (nu_pair 1048576) (Pair.bind (fun a b => (a, b)) (nu_pair 1099511627776) ba_pair)
theorem mg2_pair : Pair mg2 xmg2 := Pair.map (fun a => (⟨2, 0, 0, 0, 0, false, [], a, 0, 0, 0, [], [], zeros32, Vt.zero, [], ⟨#[]⟩, []⟩ : Mp)) vo_pair
theorem mg3_pair : Pair mg3 xmg3 := Pair.map (fun (a : Cp) => (⟨3, 0, 0, 0, 0, false, [], Vt.zero, a.e, a.l, a.v, a.he, [], zeros32, Vt.zero, [], ⟨#[]⟩, []⟩ : Mp)) ch_pair
theorem mg4_pair : Pair mg4 xmg4 := Pair.bind (fun a (b : Int × (Int × List Ev)) => (⟨4, a, b.1, b.2.1, 0, false, [], Vt.zero, 0, 0, 0, [], b.2.2, zeros32, Vt.zero, [], ⟨#[]⟩, []⟩ : Mp)) (nu_pair 1048576) (Pair.bind (fun a b => (a, b)) (nu_pair 64) (Pair.bind (fun a b => (a, b)) (nu_pair 1099511627776) (ls_pair 64 en_pair)))
theorem mg5_pair : Pair mg5 xmg5 := Pair.bind (fun a b => (⟨5, a, 0, 0, 0, false, [], Vt.zero, 0, 0, 0, [], [], b, Vt.zero, [], ⟨#[]⟩, []⟩ : Mp)) (nu_pair 1048576) dg_pair
theorem mg6_pair : Pair mg6 xmg6 := Pair.bind (fun a b => (⟨6, a, 0, 0, b, false, [], Vt.zero, 0, 0, 0, [], [], zeros32, Vt.zero, [], ⟨#[]⟩, []⟩ : Mp)) (nu_pair 1048576) (nu_pair 1099511627776)
theorem mg7_pair : Pair mg7 xmg7 := Pair.bind (fun (a : Bool × List Rq) (b : Vt × List Sg) => (⟨7, 0, 0, 0, 0, a.1, a.2, Vt.zero, 0, 0, 0, [], [], zeros32, b.1, b.2, ⟨#[]⟩, []⟩ : Mp)) ba_pair ce_pair
theorem mg8_pair : Pair mg8 xmg8 := Pair.bind (fun a b => (⟨8, 0, 0, 0, 0, false, [], Vt.zero, 0, 0, 0, [], [], zeros32, Vt.zero, [], a, b⟩ : Mp)) (tx_pair 4194304) (ls_pair 64 si_pair)
theorem mgF_pair (k : Int) : Pair (mgF k) (xmgF k) := by
 by_cases n1 : k = 1
 ·have e1 : mgF k = mg1 := by funext s; unfold mgF; rw [if_pos n1]
  have e2 : xmgF k = xmg1 := by funext s; unfold xmgF; rw [if_pos n1]
  rw [e1, e2]; exact mg1_pair
 by_cases n2 : k = 2
 ·have e1 : mgF k = mg2 := by funext s; unfold mgF; rw [if_neg n1]; rw [if_pos n2]
  have e2 : xmgF k = xmg2 := by funext s; unfold xmgF; rw [if_neg n1]; rw [if_pos n2]
  rw [e1, e2]; exact mg2_pair
 by_cases n3 : k = 3
 ·have e1 : mgF k = mg3 := by funext s; unfold mgF; rw [if_neg n1]; rw [if_neg n2]; rw [if_pos n3]
  have e2 : xmgF k = xmg3 := by funext s; unfold xmgF; rw [if_neg n1]; rw [if_neg n2]; rw [if_pos n3]
  rw [e1, e2]; exact mg3_pair
 by_cases n4 : k = 4
 ·have e1 : mgF k = mg4 := by funext s; unfold mgF; rw [if_neg n1]; rw [if_neg n2]; rw [if_neg n3]; rw [if_pos n4]
  have e2 : xmgF k = xmg4 := by funext s; unfold xmgF; rw [if_neg n1]; rw [if_neg n2]; rw [if_neg n3]; rw [if_pos n4]
  rw [e1, e2]; exact mg4_pair
 by_cases n5 : k = 5
 ·have e1 : mgF k = mg5 := by funext s; unfold mgF; rw [if_neg n1]; rw [if_neg n2]; rw [if_neg n3]; rw [if_neg n4]; rw [if_pos n5]
  have e2 : xmgF k = xmg5 := by funext s; unfold xmgF; rw [if_neg n1]; rw [if_neg n2]; rw [if_neg n3]; rw [if_neg n4]; rw [if_pos n5]
  rw [e1, e2]; exact mg5_pair
 by_cases n6 : k = 6
 ·have e1 : mgF k = mg6 := by funext s; unfold mgF; rw [if_neg n1]; rw [if_neg n2]; rw [if_neg n3]; rw [if_neg n4]; rw [if_neg n5]; rw [if_pos n6]
  have e2 : xmgF k = xmg6 := by funext s; unfold xmgF; rw [if_neg n1]; rw [if_neg n2]; rw [if_neg n3]; rw [if_neg n4]; rw [if_neg n5]; rw [if_pos n6]
  rw [e1, e2]; exact mg6_pair
 by_cases n7 : k = 7
 ·have e1 : mgF k = mg7 := by funext s; unfold mgF; rw [if_neg n1]; rw [if_neg n2]; rw [if_neg n3]; rw [if_neg n4]; rw [if_neg n5]; rw [if_neg n6]; rw [if_pos n7]
  have e2 : xmgF k = xmg7 := by funext s; unfold xmgF; rw [if_neg n1]; rw [if_neg n2]; rw [if_neg n3]; rw [if_neg n4]; rw [if_neg n5]; rw [if_neg n6]; rw [if_pos n7]
  rw [e1, e2]; exact mg7_pair
 by_cases n8 : k = 8
 ·have e1 : mgF k = mg8 := by funext s; unfold mgF; rw [if_neg n1]; rw [if_neg n2]; rw [if_neg n3]; rw [if_neg n4]; rw [if_neg n5]; rw [if_neg n6]; rw [if_neg n7]; rw [if_pos n8]
  have e2 : xmgF k = xmg8 := by funext s; unfold xmgF; rw [if_neg n1]; rw [if_neg n2]; rw [if_neg n3]; rw [if_neg n4]; rw [if_neg n5]; rw [if_neg n6]; rw [if_neg n7]; rw [if_pos n8]
  rw [e1, e2]; exact mg8_pair
 have e1 : mgF k = fun s => ((⟨k, 0, 0, 0, 0, false, [], Vt.zero, 0, 0, 0, [], [], zeros32, Vt.zero, [], ⟨#[]⟩, []⟩ : Mp), s) := by funext s; unfold mgF; rw [if_neg n1]; rw [if_neg n2]; rw [if_neg n3]; rw [if_neg n4]; rw [if_neg n5]; rw [if_neg n6]; rw [if_neg n7]; rw [if_neg n8]
 have e2 : xmgF k = fun s => ((⟨k, 0, 0, 0, 0, false, [], Vt.zero, 0, 0, 0, [], [], zeros32, Vt.zero, [], ⟨#[]⟩, []⟩ : Mp), s) := by funext s; unfold xmgF; rw [if_neg n1]; rw [if_neg n2]; rw [if_neg n3]; rw [if_neg n4]; rw [if_neg n5]; rw [if_neg n6]; rw [if_neg n7]; rw [if_neg n8]
 rw [e1, e2]; exact Pair.pure _
theorem dec_same (zs : List Int) : decS zs = decX zs := by
 unfold decS decX mgS
 show (if faE (mgF (numS zs 0 8).1 ((numS zs 0 8).2.1, (numS zs 0 8).2.2, kdZ zs 0 8 false)).2 = 0 then ((mgF (numS zs 0 8).1 ((numS zs 0 8).2.1, (numS zs 0 8).2.2, kdZ zs 0 8 false)).1, 0) else (Mp.none, faE (mgF (numS zs 0 8).1 ((numS zs 0 8).2.1, (numS zs 0 8).2.2, kdZ zs 0 8 false)).2)) = (if (numS zs 0 8).2.2 = 0 ∧ (numS zs 0 8).1 = 0 then (Mp.none, 130) else if doneE (xmgF (numS zs 0 8).1 ((numS zs 0 8).2.1, (numS zs 0 8).2.2)).2.1 (xmgF (numS zs 0 8).1 ((numS zs 0 8).2.1, (numS zs 0 8).2.2)).2.2 = 0 then ((xmgF (numS zs 0 8).1 ((numS zs 0 8).2.1, (numS zs 0 8).2.2)).1, 0) else (Mp.none, doneE (xmgF (numS zs 0 8).1 ((numS zs 0 8).2.1, (numS zs 0 8).2.2)).2.1 (xmgF (numS zs 0 8).1 ((numS zs 0 8).2.1, (numS zs 0 8).2.2)).2.2))
 unfold kdZ
 generalize (numS zs 0 8).1 = k
 generalize (numS zs 0 8).2.1 = r
 generalize (numS zs 0 8).2.2 = e
 by_cases hc : e = 0 ∧ k = 0
 ·rw [if_pos hc]
  obtain ⟨rfl, rfl⟩ := hc
  rfl
 ·rw [if_neg hc]
  have z : (if (k == 0) = true then (if (e == 0) = true then true else false) else false) = false := by
   by_cases hk : k = 0
   ·have he : (e == 0) = false := by simp; exact fun q => hc ⟨q, hk⟩
    rw [he]
    simp
   ·have hb : (k == 0) = false := by simpa using hk
    rw [hb]
    rfl
  rw [z]
  have S0 : Sim (r, e, false) (r, e) := by
   by_cases he : e = 0
   ·exact .inl ⟨by rw [he], he⟩
   ·exact .inr ⟨he, rfl⟩
  obtain ⟨h1, h2⟩ := (mgF_pair k).go S0
  generalize mgF k (r, e, false) = A at h1 h2
  generalize xmgF k (r, e) = B at h1 h2
  obtain ⟨a, s⟩ := A
  obtain ⟨b, t⟩ := B
  simp only at h1 h2 ⊢
  have hfa : faE s = doneE t.1 t.2 := by
   rcases h1 with ⟨q1, q2⟩ | ⟨q1, q2⟩
   ·rw [q1, q2]
    rfl
   ·unfold faE doneE
    rw [if_neg (show ¬ t.2 = 0 by rw [q2]; exact q1), q2]
    obtain ⟨sr, se, sz⟩ := s
    cases sz
    ·have q1 : se ≠ 0 := q1
     show (if false = true then 130 else if se = 0 then _ else se) = se
     rw [if_neg (by decide), if_neg q1]
    ·rfl
  rw [hfa]
  by_cases hf : doneE t.1 t.2 = 0
  ·rw [if_pos hf, if_pos hf]
   have c0 : cod s = 0 := by
    rw [← h1.code]
    unfold doneE at hf
    by_cases q : t.2 = 0
    ·exact q
    ·rw [if_neg q] at hf; exact absurd hf q
   rw [h2 c0]
  ·rw [if_neg hf, if_neg hf]
structure Codec {α : Type} (f : Rst → α × Rst) (enc : α → List Int) (ok : α → Prop) : Prop where
  bad : ∀ s, cod s ≠ 0 → cod (f s).2 = cod s
  back : ∀ a q, ok a → f (enc a ++ q, 0, false) = (a, q, 0, false)
  form : ∀ r, Bs r → cod (f (r, 0, false)).2 = 0 → ∃ a q, ok a ∧ f (r, 0, false) = (a, q, 0, false) ∧ r = enc a ++ q
theorem Bs.right {a q : List Int} (h : Bs (a ++ q)) : Bs q := fun z hz => h z (List.mem_append_right _ hz)
theorem Bs.left {a q : List Int} (h : Bs (a ++ q)) : Bs a := fun z hz => h z (List.mem_append_left _ hz)
theorem cod0 {r : List Int} {e : Int} {z : Bool} (h : cod (r, e, z) = 0) : z = false ∧ e = 0 := by
 unfold cod at h
 cases z
 ·exact ⟨rfl, h⟩
 ·exact absurd h (show (130 : Int) ≠ 0 by decide)
theorem Codec.simple {α : Type} {g : List Int → Int → α × List Int × Int} {enc : α → List Int} {ok : α → Prop} (h1 : ∀ r e, e ≠ 0 → (g r e).2.2 = e) (h2 : ∀ a q, ok a → g (enc a ++ q) 0 = (a, q, 0)) (h3 : ∀ r, Bs r → (g r 0).2.2 = 0 → ∃ a q, ok a ∧ g r 0 = (a, q, 0) ∧ r = enc a ++ q) :
  Codec (fun s => ((g s.1 s.2.1).1, (g s.1 s.2.1).2.1, (g s.1 s.2.1).2.2, s.2.2)) enc ok := by
 refine ⟨fun s h => ?_, fun a q ha => ?_, fun r hb hc => ?_⟩
 ·obtain ⟨r, e, z⟩ := s
  cases z
  ·exact h1 r e h
  ·rfl
 ·show ((g (enc a ++ q) 0).1, (g (enc a ++ q) 0).2.1, (g (enc a ++ q) 0).2.2, false) = _
  rw [h2 a q ha]
 ·obtain ⟨a, q, k1, k2, k3⟩ := h3 r hb (cod0 hc).2
  exact ⟨a, q, k1, by show ((g r 0).1, (g r 0).2.1, (g r 0).2.2, false) = _; rw [k2], k3⟩
theorem Codec.bind {α β : Type} {f : Rst → α × Rst} {g : Rst → β × Rst} {e1 : α → List Int} {e2 : β → List Int} {o1 : α → Prop} {o2 : β → Prop} (p : Codec f e1 o1) (q : Codec g e2 o2) : Codec (fun s => (((f s).1, (g (f s).2).1), (g (f s).2).2)) (fun c => e1 c.1 ++ e2 c.2) (fun c => o1 c.1 ∧ o2 c.2) := by
 refine ⟨fun s hs => ?_, fun c t hc => ?_, fun r hb hc => ?_⟩
 ·show cod (g (f s).2).2 = cod s
  rw [q.bad _ (by rw [p.bad s hs]; exact hs), p.bad s hs]
 ·obtain ⟨a, b⟩ := c
  show (((f (e1 a ++ e2 b ++ t, 0, false)).1, (g (f (e1 a ++ e2 b ++ t, 0, false)).2).1), (g (f (e1 a ++ e2 b ++ t, 0, false)).2).2) = _
  rw [List.append_assoc, p.back a _ hc.1]
  show ((a, (g (e2 b ++ t, 0, false)).1), (g (e2 b ++ t, 0, false)).2) = _
  rw [q.back b t hc.2]
 ·have hc1 : cod (f (r, 0, false)).2 = 0 := by
   by_cases c : cod (f (r, 0, false)).2 = 0
   ·exact c
   ·exact absurd ((q.bad _ c).symm.trans hc) c
  obtain ⟨a, r1, k1, k2, k3⟩ := p.form r hb hc1
  have hc2 : cod (g (f (r, 0, false)).2).2 = 0 := hc
  rw [k2] at hc2
  obtain ⟨b, r2, m1, m2, m3⟩ := q.form r1 (by rw [k3] at hb; exact hb.right) hc2
  refine ⟨(a, b), r2, ⟨k1, m1⟩, ?_, by rw [k3, m3, List.append_assoc]⟩
  show (((f (r, 0, false)).1, (g (f (r, 0, false)).2).1), (g (f (r, 0, false)).2).2) = _
  rw [k2]
  show ((a, (g (r1, 0, false)).1), (g (r1, 0, false)).2) = _
  rw [m2]
theorem Codec.map {α β : Type} {f : Rst → α × Rst} {enc : α → List Int} {ok : α → Prop} (h : α → β) (g : β → α) (hg : ∀ a, g (h a) = a) (p : Codec f enc ok) : Codec (fun s => (h (f s).1, (f s).2)) (fun b => enc (g b)) (fun b => ok (g b) ∧ h (g b) = b) := by
 refine ⟨p.bad, fun b q hb => ?_, fun r hb hc => ?_⟩
 ·show (h (f (enc (g b) ++ q, 0, false)).1, (f (enc (g b) ++ q, 0, false)).2) = _
  rw [p.back _ q hb.1]
  show (h (g b), _) = _
  rw [hb.2]
 ·obtain ⟨a, q, k1, k2, k3⟩ := p.form r hb hc
  refine ⟨h a, q, ⟨by rw [hg]; exact k1, by rw [hg]⟩, ?_, by rw [hg]; exact k3⟩
  show (h (f (r, 0, false)).1, (f (r, 0, false)).2) = _
  rw [k2]
def sgOk (g : Sg) : Prop := (0 ≤ g.n ∧ g.n ≤ 64) ∧ (g.t.length = 16 ∧ Bs g.t)
def evOk (g : Ev) : Prop := (0 ≤ g.n ∧ g.n ≤ 64) ∧ ((g.s.size : Int) ≤ 4194304 ∧ (g.t.length = 16 ∧ Bs g.t))
def vtOk (x : Vt) : Prop := (1 ≤ x.k ∧ x.k ≤ 2) ∧ ((0 ≤ x.e ∧ x.e ≤ 1048576) ∧ ((0 ≤ x.v ∧ x.v ≤ 1099511627776) ∧ ((0 ≤ x.s ∧ x.s ≤ 1099511627776) ∧ (x.d.length = 32 ∧ Bs x.d))))
def rqOk (r : Rq) : Prop := (0 ≤ r.c ∧ r.c ≤ 8) ∧ ((0 ≤ r.n ∧ r.n ≤ 1099511627776) ∧ ((r.s.size : Int) ≤ 64 ∧ (r.t.length = 16 ∧ Bs r.t)))
def baL (c : Bool × List Rq) : List Int := batL c.1 (c.2.map BRq.of)
def baOk (c : Bool × List Rq) : Prop := (c.1 = true → c.2 = []) ∧ (c.2.length ≤ 4 ∧ ∀ r ∈ c.2, rqOk r)
def ceOk (c : Vt × List Sg) : Prop := vtOk c.1 ∧ ((c.2.length : Int) ≤ 64 ∧ ∀ x ∈ c.2, sgOk x)
def hpL (h : Hp) : List Int := baL (h.q, h.rs) ++ ctL h.vt h.sg
def hpOk (h : Hp) : Prop := baOk (h.q, h.rs) ∧ ceOk (h.vt, h.sg)
def cpL (c : Cp) : List Int := putL c.e ++ (putL c.l ++ (putL c.v ++ (putL c.he.length ++ c.he.flatMap hpL)))
def cpOk (c : Cp) : Prop := (0 ≤ c.e ∧ c.e ≤ 1048576) ∧ ((0 ≤ c.l ∧ c.l ≤ 64) ∧ ((0 ≤ c.v ∧ c.v ≤ 1099511627776) ∧ ((c.he.length : Int) ≤ 4 ∧ ∀ x ∈ c.he, hpOk x)))
def onlyP1 (c : Int × (Int × (Bool × List Rq))) : Mp := ⟨1, c.1, 0, 0, c.2.1, c.2.2.1, c.2.2.2, Vt.zero, 0, 0, 0, [], [], zeros32, Vt.zero, [], ⟨#[]⟩, []⟩
def body1 (m : Mp) : List Int := putL m.e ++ (putL m.s ++ baL (m.q, m.rs))
def kok1 (m : Mp) : Prop := ((0 ≤ m.e ∧ m.e ≤ 1048576) ∧ ((0 ≤ m.s ∧ m.s ≤ 1099511627776) ∧ baOk (m.q, m.rs))) ∧ onlyP1 (m.e, (m.s, (m.q, m.rs))) = m
def onlyP2 (c : Vt) : Mp := ⟨2, 0, 0, 0, 0, false, [], c, 0, 0, 0, [], [], zeros32, Vt.zero, [], ⟨#[]⟩, []⟩
def body2 (m : Mp) : List Int := vtL m.vt
def kok2 (m : Mp) : Prop := (vtOk m.vt) ∧ onlyP2 m.vt = m
def onlyP3 (c : Cp) : Mp := ⟨3, 0, 0, 0, 0, false, [], Vt.zero, c.e, c.l, c.v, c.he, [], zeros32, Vt.zero, [], ⟨#[]⟩, []⟩
def body3 (m : Mp) : List Int := cpL ⟨m.ce, m.cl, m.cv, m.he⟩
def kok3 (m : Mp) : Prop := (cpOk ⟨m.ce, m.cl, m.cv, m.he⟩) ∧ onlyP3 ⟨m.ce, m.cl, m.cv, m.he⟩ = m
def onlyP4 (c : Int × (Int × (Int × List Ev))) : Mp := ⟨4, c.1, c.2.1, c.2.2.1, 0, false, [], Vt.zero, 0, 0, 0, [], c.2.2.2, zeros32, Vt.zero, [], ⟨#[]⟩, []⟩
def body4 (m : Mp) : List Int := putL m.e ++ (putL m.l ++ (putL m.v ++ evsL m.ne))
def kok4 (m : Mp) : Prop := ((0 ≤ m.e ∧ m.e ≤ 1048576) ∧ ((0 ≤ m.l ∧ m.l ≤ 64) ∧ ((0 ≤ m.v ∧ m.v ≤ 1099511627776) ∧ ((m.ne.length : Int) ≤ 64 ∧ ∀ x ∈ m.ne, evOk x)))) ∧ onlyP4 (m.e, (m.l, (m.v, m.ne))) = m
def onlyP5 (c : Int × List Int) : Mp := ⟨5, c.1, 0, 0, 0, false, [], Vt.zero, 0, 0, 0, [], [], c.2, Vt.zero, [], ⟨#[]⟩, []⟩
def body5 (m : Mp) : List Int := putL m.e ++ m.d
def kok5 (m : Mp) : Prop := ((0 ≤ m.e ∧ m.e ≤ 1048576) ∧ (m.d.length = 32 ∧ Bs m.d)) ∧ onlyP5 (m.e, m.d) = m
def onlyP6 (c : Int × Int) : Mp := ⟨6, c.1, 0, 0, c.2, false, [], Vt.zero, 0, 0, 0, [], [], zeros32, Vt.zero, [], ⟨#[]⟩, []⟩
def body6 (m : Mp) : List Int := putL m.e ++ putL m.s
def kok6 (m : Mp) : Prop := ((0 ≤ m.e ∧ m.e ≤ 1048576) ∧ (0 ≤ m.s ∧ m.s ≤ 1099511627776)) ∧ onlyP6 (m.e, m.s) = m
def onlyP7 (c : (Bool × List Rq) × (Vt × List Sg)) : Mp := ⟨7, 0, 0, 0, 0, c.1.1, c.1.2, Vt.zero, 0, 0, 0, [], [], zeros32, c.2.1, c.2.2, ⟨#[]⟩, []⟩
def body7 (m : Mp) : List Int := baL (m.q, m.rs) ++ ctL m.ct m.cs
def kok7 (m : Mp) : Prop := (baOk (m.q, m.rs) ∧ ceOk (m.ct, m.cs)) ∧ onlyP7 ((m.q, m.rs), (m.ct, m.cs)) = m
def onlyP8 (c : ByteArray × List Sg) : Mp := ⟨8, 0, 0, 0, 0, false, [], Vt.zero, 0, 0, 0, [], [], zeros32, Vt.zero, [], c.1, c.2⟩
def body8 (m : Mp) : List Int := textL m.st ++ sgsL m.sg
def kok8 (m : Mp) : Prop := ((m.st.size : Int) ≤ 4194304 ∧ ((m.sg.length : Int) ≤ 64 ∧ ∀ x ∈ m.sg, sgOk x)) ∧ onlyP8 (m.st, m.sg) = m
def Mp.bytes (m : Mp) : List Int := putL m.k ++ (if m.k = 1 then body1 m else if m.k = 2 then body2 m else if m.k = 3 then body3 m else if m.k = 4 then body4 m else if m.k = 5 then body5 m else if m.k = 6 then body6 m else if m.k = 7 then body7 m else body8 m)
def Mp.good (m : Mp) : Prop := (m.k = 1 ∧ kok1 m) ∨ (m.k = 2 ∧ kok2 m) ∨ (m.k = 3 ∧ kok3 m) ∨ (m.k = 4 ∧ kok4 m) ∨ (m.k = 5 ∧ kok5 m) ∨ (m.k = 6 ∧ kok6 m) ∨ (m.k = 7 ∧ kok7 m) ∨ (m.k = 8 ∧ kok8 m)
theorem sameL_eqv {α β : Type} {B : α → α → Bool} {f : α → β} (h : ∀ x y, f x = f y → B x y = true) : ∀ xs ys : List α, xs.map f = ys.map f → sameL B xs ys = true
 | [], [], _ => rfl
 | x :: xs, y :: ys, e => by
  simp only [List.map_cons, List.cons.injEq] at e
  unfold sameL
  rw [h x y e.1, sameL_eqv h xs ys e.2]
  rfl
 | [], y :: ys, e => by cases e
 | x :: xs, [], e => by cases e
theorem certB_eqv {x y : Vt} {s t : Sl Sg} (h : x = y) (h2 : s.xs = t.xs) : certB x s y t = true := by
 unfold certB
 rw [vtB_iff.2 h, (sameL_iff (fun x y => Sg.B_iff) _ _).2 h2]
 rfl
theorem batB_eqv {q r : Bool} {x y : Sl Rq} (h : q = r) (h2 : x.xs = y.xs) : batB q x r y = true := by
 unfold batB
 rw [h, (sameL_iff (fun x y => Rq.B_iff) _ _).2 h2]
 simp
theorem Hd.B_eqv (x y : Hd) (h : x.pure = y.pure) : Hd.B x y = true := by
 unfold Hd.pure at h
 simp only [Hp.mk.injEq] at h
 obtain ⟨h1, h2, h3, h4⟩ := h
 unfold Hd.B
 rw [batB_eqv h1 h2, certB_eqv h3 h4]
 rfl
theorem Mg.B_eqv (a b : Mg) (h : a.pure = b.pure) : Mg.B a b = true := by
 unfold Mg.pure at h
 simp only [Mp.mk.injEq] at h
 obtain ⟨h1, h2, h3, h4, h5, h6, h7, h8, h9, h10, h11, h12, h13, h14, h15, h16, h17, h18⟩ := h
 unfold Mg.B Mg.nB Mg.fB Mg.lB chgB
 rw [vtB_iff.2 h8, batB_eqv h6 h7, certB_eqv h15 h16, (sameL_iff (fun x y => Ev.B_iff) _ _).2 h13, (sameL_iff (fun x y => Sg.B_iff) _ _).2 h18, sameL_eqv Hd.B_eqv _ _ h12, h1, h2, h3, h4, h5, h9, h10, h11, h14, h17]
 simp
theorem certB_pure {x y : Vt} {s t : Sl Sg} (h : certB x s y t = true) : x = y ∧ s.xs = t.xs := by
 unfold certB at h
 rw [Bool.and_eq_true] at h
 exact ⟨vtB_iff.1 h.1, (sameL_iff (fun x y => Sg.B_iff) _ _).1 h.2⟩
theorem batB_pure {q r : Bool} {x y : Sl Rq} (h : batB q x r y = true) : q = r ∧ x.xs = y.xs := by
 unfold batB at h
 rw [Bool.and_eq_true] at h
 exact ⟨by simpa using h.1, (sameL_iff (fun x y => Rq.B_iff) _ _).1 h.2⟩
theorem Hd.B_pure (x y : Hd) (h : Hd.B x y = true) : x.pure = y.pure := by
 unfold Hd.B at h
 rw [Bool.and_eq_true] at h
 obtain ⟨h1, h2⟩ := batB_pure h.1
 obtain ⟨h3, h4⟩ := certB_pure h.2
 unfold Hd.pure
 rw [h1, h2, h3, h4]
theorem sameL_pure {α β : Type} {B : α → α → Bool} {f : α → β} (h : ∀ x y, B x y = true → f x = f y) : ∀ xs ys : List α, sameL B xs ys = true → xs.map f = ys.map f
 | [], [], _ => rfl
 | x :: xs, y :: ys, e => by
  unfold sameL at e
  rw [Bool.and_eq_true] at e
  rw [List.map_cons, List.map_cons, h x y e.1, sameL_pure h xs ys e.2]
 | [], y :: ys, e => by cases e
 | x :: xs, [], e => by cases e
theorem Mg.B_pure (a b : Mg) (h : Mg.B a b = true) : a.pure = b.pure := by
 unfold Mg.B Mg.nB Mg.fB Mg.lB chgB at h
 simp only [Bool.and_eq_true, beq_iff_eq] at h
 obtain ⟨⟨h1, h2, h3, h4, h5⟩, ⟨h6, h7, h8⟩, h9, ⟨⟨h10, h11, h12⟩, h13⟩, h14, h15, h16⟩ := h
 obtain ⟨b1, b2⟩ := batB_pure h9
 obtain ⟨c1, c2⟩ := certB_pure h15
 unfold Mg.pure
 rw [h1, h2, h3, h4, h5, b1, b2, vtB_iff.1 h6, h10, h11, h12, sameL_pure Hd.B_pure _ _ h13, (sameL_iff (fun x y => Ev.B_iff) _ _).1 h14, h7, c1, c2, toList_iff.1 h8, (sameL_iff (fun x y => Sg.B_iff) _ _).1 h16]
theorem sg_may {g : Sg} (o : g.ok) : g.may = true → sgOk g := fun h => ⟨inB_iff.1 h, o.tl, o.tb⟩
theorem ev_may {g : Ev} (o : g.ok) (h : g.may = true) : evOk g := by
 unfold Ev.may at h
 rw [Bool.and_eq_true] at h
 exact ⟨inB_iff.1 h.1, of_decide_eq_true h.2, o.tl, o.tb⟩
theorem rq_may {g : Rq} (o : g.ok) (h : g.may = true) : rqOk g := by
 unfold Rq.may at h
 rw [Bool.and_eq_true, Bool.and_eq_true] at h
 exact ⟨inB_iff.1 h.1, inB_iff.1 h.2.1, of_decide_eq_true h.2.2, o.tl, o.tb⟩
theorem vt_may {x : Vt} (o : x.ok) (h : x.may = true) : vtOk x := by
 unfold Vt.may at h
 simp only [Bool.and_eq_true, Bool.or_eq_true, decide_eq_true_eq] at h
 obtain ⟨h1, h2, h3, h4⟩ := h
 exact ⟨by omega, inB_iff.1 h2, inB_iff.1 h3, inB_iff.1 h4, o.dl, o.db⟩
theorem mayL_iff {α : Type} {most : Int} {p : α → Bool} {xs : List α} : mayL most p xs = true ↔ (xs.length : Int) ≤ most ∧ ∀ x ∈ xs, p x = true := by
 unfold mayL
 rw [Bool.and_eq_true, decide_eq_true_iff, List.all_eq_true]
theorem bat_may {q : Bool} {x : Sl Rq} (o : ∀ y ∈ x.xs, y.ok) (h : batMay q x = true) : baOk (q, x.xs) := by
 unfold batMay at h
 cases q
 ·obtain ⟨h1, h2⟩ := mayL_iff.1 h
  exact ⟨(fun e => by cases e), (by show x.xs.length ≤ 4; omega), fun r hr => rq_may (o r hr) (h2 r hr)⟩
 ·have e : x.xs = [] := List.eq_nil_of_length_eq_zero (of_decide_eq_true h)
  exact ⟨(fun _ => e), (by show x.xs.length ≤ 4; rw [e]; simp), fun r hr => by rw [show x.xs = [] from e] at hr; cases hr⟩
theorem sgs_may {x : Sl Sg} (o : ∀ y ∈ x.xs, y.ok) (h : sgsMay x = true) : (x.xs.length : Int) ≤ 64 ∧ ∀ y ∈ x.xs, sgOk y := by
 obtain ⟨h1, h2⟩ := mayL_iff.1 h
 exact ⟨h1, fun y hy => sg_may (o y hy) (h2 y hy)⟩
theorem cert_may {v : Vt} {x : Sl Sg} (ov : v.ok) (o : ∀ y ∈ x.xs, y.ok) (h : certMay v x = true) : ceOk (v, x.xs) := by
 unfold certMay at h
 rw [Bool.and_eq_true] at h
 exact ⟨vt_may ov h.1, sgs_may o h.2⟩
theorem hd_may {h : Hd} {w : World} (ov : h.vt.ok) (a : h.At w) (k : h.may = true) : hpOk h.pure := by
 unfold Hd.may at k
 rw [Bool.and_eq_true] at k
 exact ⟨bat_may a.1.2.1 k.1, cert_may ov a.2.2.1 k.2⟩
theorem chg_may {a b c : Int} {x : Sl Hd} {w : World} (at_ : HdsAt w x) (h : chgMay a b c x = true) : cpOk ⟨a, b, c, x.xs.map Hd.pure⟩ := by
 unfold chgMay at h
 simp only [Bool.and_eq_true] at h
 obtain ⟨⟨h1, h2, h3⟩, h4⟩ := h
 obtain ⟨h5, h6⟩ := mayL_iff.1 h4
 refine ⟨inB_iff.1 h1, inB_iff.1 h2, inB_iff.1 h3, by show ((x.xs.map Hd.pure).length : Int) ≤ 4; rw [List.length_map]; exact h5, fun y hy => ?_⟩
 obtain ⟨g, hg, rfl⟩ := List.mem_map.1 hy
 exact hd_may (at_.1.2.1 g hg) (at_.2 g hg) (h6 g hg)
theorem ev_all {x : Sl Ev} {w : World} (a : x.At EvE w) (h : mayL 64 Ev.may x.xs = true) : (x.xs.length : Int) ≤ 64 ∧ ∀ y ∈ x.xs, evOk y := by
 obtain ⟨h1, h2⟩ := mayL_iff.1 h
 exact ⟨h1, fun y hy => ev_may (a.2.1 y hy) (h2 y hy)⟩
theorem good_pure {m : Mg} {w : World} (om : m.ok) (am : m.At w) (hg : m.good = true) : m.pure.good := by
 unfold Mg.good at hg
 rw [Bool.and_eq_true, Bool.and_eq_true, decide_eq_true_iff] at hg
 obtain ⟨hk, hB, hm⟩ := hg
 have hp := Mg.B_pure _ _ hB
 unfold Mg.may Mg.mayL at hm
 simp only [Bool.and_eq_true] at hm
 obtain ⟨⟨e1, e2⟩, ⟨e3, e4⟩, e5, e6, e7, e8, e9, e10, e11⟩ := hm
 have hks : m.k = 1 ∨ m.k = 2 ∨ m.k = 3 ∨ m.k = 4 ∨ m.k = 5 ∨ m.k = 6 ∨ m.k = 7 ∨ m.k = 8 := by omega
 rcases hks with h | h | h | h | h | h | h | h
 ·rw [Mg.bare_1 h] at hp
  refine .inl ⟨h, ⟨inB_iff.1 e1, inB_iff.1 e4, bat_may am.rs.2.1 e7⟩, ?_⟩
  exact hp.symm
 ·rw [Mg.bare_2 h] at hp
  refine .inr (.inl ⟨h, vt_may om.vt (by rw [if_pos h] at e5; exact e5), ?_⟩)
  exact hp.symm
 ·rw [Mg.bare_3 h] at hp
  refine .inr (.inr (.inl ⟨h, chg_may am.he e8, ?_⟩))
  exact hp.symm
 ·rw [Mg.bare_4 h] at hp
  refine .inr (.inr (.inr (.inl ⟨h, ⟨inB_iff.1 e1, inB_iff.1 e2, inB_iff.1 e3, ev_all am.ne e9⟩, ?_⟩)))
  exact hp.symm
 ·rw [Mg.bare_5 h] at hp
  refine .inr (.inr (.inr (.inr (.inl ⟨h, ⟨inB_iff.1 e1, om.dl, om.db⟩, ?_⟩))))
  exact hp.symm
 ·rw [Mg.bare_6 h] at hp
  refine .inr (.inr (.inr (.inr (.inr (.inl ⟨h, ⟨inB_iff.1 e1, inB_iff.1 e4⟩, ?_⟩)))))
  exact hp.symm
 ·rw [Mg.bare_7 h] at hp
  refine .inr (.inr (.inr (.inr (.inr (.inr (.inl ⟨h, ⟨bat_may am.rs.2.1 e7, cert_may om.ct am.cs.2.1 (by rw [if_pos h] at e6; exact e6)⟩, ?_⟩))))))
  exact hp.symm
 ·rw [Mg.bare_8 h] at hp
  refine .inr (.inr (.inr (.inr (.inr (.inr (.inr (⟨h, ⟨of_decide_eq_true e10, sgs_may am.sg.2.1 e11⟩, ?_⟩)))))))
  exact hp.symm
end Go.Proofs.YtinndbipomlokaaGreat
