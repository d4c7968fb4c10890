/- records RecView, read, written; the chapter's example; RecordEncodes; what messages' texts have of codecs; records: what is laid is read, and nothing else -/
import Derived.Test.YtinndbipomlokaaGreatJC0
import Derived.Test.YtinndbipomlokaaGreatJC12
import Derived.Test.YtinndbipomlokaaGreatJC11
import Derived.Test.YtinndbipomlokaaGreatJC10
namespace Go.Proofs.YtinndbipomlokaaGreat
open Go.RowKit
open Sha Tal
set_option linter.unusedVariables false
set_option linter.unusedSimpArgs false
set_option maxRecDepth 100000 in
set_option maxHeartbeats 2000000 in
theorem kread_view (R : Nat) (s : Xst) (w : World) (h : St w R s.1 s.2) (hl : s.1.length ≤ 40000) (hk3 : (xnuS 5 s).1 = 3) : Calls Tryz.prog 36 #[.pointer (some ⟨R, 0, none⟩)] w fun en w' => ReadK w R (krV (xnuS 5 s).2) en w' := by
 obtain ⟨zc, hz0, hzl, hzr⟩ : ∃ z : List Value, Hid (z = (Rc.zero 0).cells) ∧ z.length = 45 ∧ ∀ w : World, (zeroValue 33).run Tryz.prog w = .ok (.agg z.toArray) w := ⟨_, hide rfl, Rc.len Vt.zero_ok, zeroRc⟩
 have hR : R < w.heap.size := h.1.1
 have c1 := fun w0 h0 => pnumS R 5 s w0 h0
 have l1 : (xnuS 5 s).2.1.length ≤ 40000 := Nat.le_trans (xnuS_len 5 s) hl
 generalize xnuS 5 s = p at c1 l1 hk3 ⊢
 obtain ⟨k, s1⟩ := p
 simp only at c1 l1 hk3 ⊢
 subst hk3
 obtain ⟨PP, HP⟩ : ∃ P, P = krV s1 := ⟨_, rfl⟩
 rw [← HP]
 unfold krV at HP
 have c2 := fun w0 h0 => pnumS R 64 s1 w0 h0
 generalize xnuS 64 s1 = p at c2 HP
 obtain ⟨x2, s2⟩ := p
 simp only at c2 HP
 have c3 := fun w0 h0 => pnumS R 1099511627776 s2 w0 h0
 generalize xnuS 1099511627776 s2 = p at c3 HP
 obtain ⟨x3, s3⟩ := p
 simp only at c3 HP
 have HPP := hide HP
 clear HP l1
 obtain ⟨hB1, hr0, hs1⟩ := boxed_new w zc 33
 have ht1 := there_newN w zc.toArray 33 (n := 45) (by simp [hzl])
 have on : KR w R w.heap.size (Rc.zero 0) s (w.alloc (.cells zc.toArray 33)) := ⟨by rw [← hz0.out]; exact hr0, ht1, h.below hB1, ⟨hB1.os, hB1.tape, hB1.output, hB1.size, fun i hi _ => hB1.block i hi⟩, hs1, Nat.le_refl _, hR, Vt.zero_ok⟩
 clear hB1 hr0 hs1 ht1 hz0 hzl h hl
 obtain ⟨X, hX⟩ : ∃ X, w.heap.size = X := ⟨_, rfl⟩
 have hXs : X = w.heap.size := hX.symm
 go_enter Tryz.func36, Tryz.ntmps36
 go_upto_region 0 with fail
 try simp only [Act.put]
 refine pl_begin ?_
 refine pl_run (d := some 2) (v := .pointer (some ⟨w.heap.size, 0, none⟩)) (w' := w.alloc (.cells zc.toArray 33)) (by rfl) (ex_alloc rfl (hzr _)) rfl ?_
 simp only [nz]
 refine pl_t 3 (?_) (by rfl) ?_ rfl ?_
 rotate_left
 ·go_simp
  try with_reducible rfl
 simp only [nz]
 refine pl_nil ?_
 obtain ⟨W1, hW1⟩ : ∃ W, w.alloc (.cells zc.toArray 33) = W := ⟨_, rfl⟩
 rw [hW1] at on ⊢
 rw [hX] at on
 simp only [hX]
 have HX := hide hXs
 clear hW1 hX hXs hR hzr
 go_upto_region 1 with fail
 try simp only [Act.put]
 refine pl_begin ?_
 refine pl_t 4 (?_) (by rfl) ?_ rfl ?_
 rotate_left
 ·go_simp
  try with_reducible rfl
 simp only [nz]
 refine pl_call (d := some 5) (by rfl) (by go_simp; first | done | exact ⟨rfl, rfl⟩ | with_reducible rfl) rfl ?_
 refine (c1 W1 on.st).mono ?_
 rintro _ o1W ⟨rfl, hs9, hg9⟩
 have o1 := on.on _ hs9 hg9
 clear hs9 hg9
 refine ⟨_, rfl, ?_⟩
 simp only [nz]
 refine pl_t 6 (?_) (by rfl) ?_ rfl ?_
 rotate_left
 ·go_simp
  try with_reducible rfl
 simp only [nz]
 refine pl_store (w' := o1W.setCells X 0 [.int .i64 3]) (by rfl) (ex_put1 (n := 45) rfl rfl rfl o1.thX (by decide) iszI rfl rfl) rfl ?_
 refine pl_nil ?_
 have o1' := o1.k 3
 obtain ⟨o1V, ho1⟩ : ∃ W, o1W.setCells X 0 [.int .i64 3] = W := ⟨_, rfl⟩
 rw [ho1] at o1' ⊢
 clear ho1 o1 on
 have on := o1'
 clear o1' c1
 have k0 : o1V.cell? ⟨X, 0, none⟩ = some (.int .i64 3) := on.own 0 _ rfl
 go_upto_region 2 with fail
 try simp only [Act.put]
 refine pl_begin ?_
 refine pl_t 7 (?_) (by rfl) ?_ rfl ?_
 rotate_left
 ·go_simp
  try with_reducible rfl
 simp only [nz]
 refine pl_t 8 (.int .i64 3) (by rfl) (pl_one rfl rfl k0 Tryz.underlying3 rfl) rfl ?_
 simp only [nz]
 refine pl_nil ?_
 clear k0
 go_upto_region 3 with fail
 try simp only [Act.put]
 refine pl_begin ?_
 refine pl_t 10 (.bool false) (by rfl) (by go_simp <;> (try simp [*])) rfl ?_
 simp only [nz]
 refine pl_t 9 (?_) (by rfl) ?_ rfl ?_
 rotate_left
 ·go_simp
  try with_reducible rfl
 simp only [nz]
 refine pl_nil ?_
 go_upto_region 4 with fail
 try simp only [Act.put]
 refine pl_begin ?_
 refine pl_t 12 (.bool true) (by rfl) (by go_simp <;> (try simp [*])) rfl ?_
 simp only [nz]
 refine pl_t 11 (?_) (by rfl) ?_ rfl ?_
 rotate_left
 ·go_simp
  try with_reducible rfl
 simp only [nz]
 refine pl_nil ?_
 go_upto_region 11 with fail
 try simp only [Act.put]
 refine pl_begin ?_
 refine pl_t 27 (?_) (by rfl) ?_ rfl ?_
 rotate_left
 ·go_simp
  try with_reducible rfl
 simp only [nz]
 refine pl_call (d := some 28) (by rfl) (by go_simp; first | done | exact ⟨rfl, rfl⟩ | with_reducible rfl) rfl ?_
 refine (c2 o1V on.st).mono ?_
 rintro _ o2W ⟨rfl, hs9, hg9⟩
 have o2 := on.on _ hs9 hg9
 clear hs9 hg9
 refine ⟨_, rfl, ?_⟩
 simp only [nz]
 refine pl_t 29 (?_) (by rfl) ?_ rfl ?_
 rotate_left
 ·go_simp
  try with_reducible rfl
 simp only [nz]
 refine pl_store (w' := o2W.setCells X 1 [.int .i64 x2]) (by rfl) (ex_put1 (n := 45) rfl rfl rfl o2.thX (by decide) iszI rfl rfl) rfl ?_
 refine pl_nil ?_
 have o2' := o2.l x2
 obtain ⟨o2V, ho2⟩ : ∃ W, o2W.setCells X 1 [.int .i64 x2] = W := ⟨_, rfl⟩
 rw [ho2] at o2' ⊢
 clear ho2 o2 on
 go_upto_region 12 with fail
 try simp only [Act.put]
 refine pl_begin ?_
 refine pl_t 30 (?_) (by rfl) ?_ rfl ?_
 rotate_left
 ·go_simp
  try with_reducible rfl
 simp only [nz]
 refine pl_call (d := some 31) (by rfl) (by go_simp; first | done | exact ⟨rfl, rfl⟩ | with_reducible rfl) rfl ?_
 refine (c3 o2V o2'.st).mono ?_
 rintro _ o3W ⟨rfl, hs9, hg9⟩
 have o3 := o2'.on _ hs9 hg9
 clear hs9 hg9
 refine ⟨_, rfl, ?_⟩
 simp only [nz]
 refine pl_t 32 (?_) (by rfl) ?_ rfl ?_
 rotate_left
 ·go_simp
  try with_reducible rfl
 simp only [nz]
 refine pl_store (w' := o3W.setCells X 2 [.int .i64 x3]) (by rfl) (ex_put1 (n := 45) rfl rfl rfl o3.thX (by decide) iszI rfl rfl) rfl ?_
 refine pl_nil ?_
 have o3' := o3.v x3
 obtain ⟨o3V, ho3⟩ : ∃ W, o3W.setCells X 2 [.int .i64 x3] = W := ⟨_, rfl⟩
 rw [ho3] at o3' ⊢
 clear ho3 o3 o2'
 clear c2 c3
 have o5 := o3'
 clear o3'
 obtain ⟨C, hC⟩ : ∃ C : Rc, C = ⟨3, x2, x3, 0, false, ⟨none, 0, []⟩, Vt.zero, ⟨none, 0, []⟩, ⟨#[]⟩, ⟨none, 0, []⟩⟩ := ⟨_, rfl⟩
 replace o5 : KR w R X C s3 o3V := by rw [hC]; exact o5
 have hC1 : C.pure = { Rp.zero 3 with l := x2, v := x3 } := by rw [hC]; rfl
 have hC2 : C.rs = ⟨none, 0, []⟩ ∧ C.cs = ⟨none, 0, []⟩ ∧ C.sg = ⟨none, 0, []⟩ := by rw [hC]; exact ⟨rfl, rfl, rfl⟩
 clear hC
 obtain ⟨qc, hqc⟩ : ∃ q, Hid (C.cells = q) := ⟨_, hide rfl⟩
 have hql : C.cells.length = 45 := Rc.len o5.ok
 have hq1 := Rc.one C
 have ho := o5.own
 rw [hqc.out] at hql hq1 ho
 have hiq : (Tryz.prog.info? 33).map (·.size) = some qc.length := by rw [hql]; exact iszRc
 have hth := o5.thX
 have hx1 := o5.xw
 have hx2 := o5.rx
 have hx3 := o5.lx
 go_upto_region 14 with fail
 try simp only [Act.put]
 refine pl_begin ?_
 refine pl_t 35 (.agg qc.toArray) (by rfl) (ex_mid rfl rfl ho Tryz.underlying33 rfl hiq) rfl ?_
 simp only [nz]
 refine pl_t 36 (?_) (by rfl) ?_ rfl ?_
 rotate_left
 ·go_simp
  try with_reducible rfl
 simp only [nz]
 refine pl_store (w' := o3V.setCells X 0 qc) (by rfl) (ex_put (cs := qc.toArray) rfl rfl rfl (by simpa [hql] using hth) (by simpa using hiq) (all_one hq1)) rfl ?_
 refine pl_t 3 (?_) (by rfl) ?_ rfl ?_
 rotate_left
 ·go_simp
  try with_reducible rfl
 simp only [nz]
 refine pl_nil ?_
 have hrs := run_loadVar_mid (P := Tryz.prog) (o3V.setCells X 0 qc) X 0 33 qc _ (World.rangeAt_setCells_same o3V X 0 qc (by rw [hql]; exact hth)) Tryz.underlying33 rfl hiq
 have HF : Hid (Ending.returned (.tuple #[.agg qc.toArray, .string ⟨#[]⟩]) = .returned (.tuple #[.agg C.cells.toArray, .string ⟨#[]⟩])) := hide (by rw [hqc.out])
 have hb9 : Below w.heap.size o3V (o3V.setCells X 0 qc) := below_sets hx1 qc 0 _ (Below.refl _ _)
 have HG := hide (o5.put (c' := C) o5.ok [] C.cells C.cells [] (by simp) (by simp) 0 rfl rfl (by rw [Rc.len o5.ok]; decide))
 rw [hqc.out] at HG
 have HZ : Hid (C.pure = { Rp.zero 3 with l := x2, v := x3 } ∧ C.ct.ok ∧ C.rs.At RqE (o3V.setCells X 0 qc) ∧ C.cs = ⟨none, 0, []⟩ ∧ C.sg = ⟨none, 0, []⟩ ∧ C.rs.Bk (fun b => w.heap.size ≤ b)) := hide ⟨hC1, o5.ok, by rw [hC2.1]; exact RowsAt.none, hC2.2.1, hC2.2.2, by rw [hC2.1]; exact fun b h1 _ => absurd rfl h1⟩
 clear hC1 hC2
 clear ho hth hx1 hx2 hx3 hb9 o5 hql hq1 hqc
 go_wp2_with fail
 refine bodyPost_ret (results_ct rfl _ _ _ rfl hrs) rfl ?_
 obtain ⟨z1, z2, z3, z4, z5, z6⟩ := HZ.out
 rw [HPP.out]
 exact ⟨C, HF.out, z1, z2, z3, z4, z5, z6, HG.out.st, HG.out.gb⟩
set_option maxRecDepth 100000 in
set_option maxHeartbeats 2000000 in
theorem kdecode_view (a : Option Addr) (cap : Nat) (zs : List Int) (w : World) (h : RowAt w a zs) (hl : zs.length ≤ 40000) (hk : (xnuS 5 (zs, 0)).1 = 3) : Calls Tryz.prog 15 #[.slice a zs.length cap] w fun en w' => DecK w (kfin (krV (xnuS 5 (zs, 0)).2)) en w' := by
 obtain ⟨zc, hz0, hzl, hz1, hzr, hbn⟩ : ∃ z : List Value, Hid (z = (Rc.zero 0).cells) ∧ z.length = 45 ∧ (∀ v ∈ z, v.oneCell' = true) ∧ (∀ w : World, (zeroValue 33).run Tryz.prog w = .ok (.agg z.toArray) w) ∧ (∀ w : World, (Instr.build 33 #[]).run Tryz.prog w = .ok (.agg z.toArray) w) := ⟨_, hide rfl, Rc.len Vt.zero_ok, Rc.one (Rc.zero 0), zeroRc, build_rn⟩
 have cR := fun w0 h0 => read_any a cap zs w0 h0 (by omega)
 have cK := fun R w0 h0 => kread_view R (zs, 0) w0 h0 hl hk
 have hk3 : (krV (xnuS 5 (zs, 0)).2).1.1.k = 3 := rfl
 unfold kfin
 generalize krV (xnuS 5 (zs, 0)).2 = p at cK hk3 ⊢
 obtain ⟨⟨rp, tx⟩, rest, er⟩ := p
 simp only at cK hk3 ⊢
 have cD := fun R w0 h0 => done_any R rest er w0 h0
 obtain ⟨d, hd⟩ : ∃ d, doneE rest er = d := ⟨_, rfl⟩
 rw [hd]
 simp only [hd] at cD
 clear hd
 obtain ⟨oT, hoT⟩ : ∃ o, ofT rp.k (strL tx) = o := ⟨_, rfl⟩
 rw [hoT]
 obtain ⟨PP, hPP⟩ : ∃ P, Hid ((if d ≠ 0 then (Rp.zero 0, d) else if rp.k = 1 ∨ rp.k = 3 then (rp, 0) else oT) = P) := ⟨_, hide rfl⟩
 rw [hPP.out]
 obtain ⟨hB1, -, hs1⟩ := boxed_new w zc 33
 have ht1 := there_newN w zc.toArray 33 (n := 45) (by simp [hzl])
 have h1 := h.below hB1
 obtain ⟨A, hA⟩ : ∃ X, w.heap.size = X := ⟨_, rfl⟩
 have HAw : Hid (A = w.heap.size) := hide hA.symm
 clear h hoT
 go_enter Tryz.func15, Tryz.ntmps15
 go_upto_region 0 with fail
 try simp only [Act.put]
 refine pl_begin ?_
 refine pl_run (d := some 2) (v := .pointer (some ⟨w.heap.size, 0, none⟩)) (w' := w.alloc (.cells zc.toArray 33)) (by rfl) (ex_alloc rfl (hzr _)) rfl ?_
 simp only [nz]
 refine pl_t 3 (?_) (by rfl) ?_ rfl ?_
 rotate_left
 ·go_simp
  try with_reducible rfl
 simp only [nz]
 refine pl_nil ?_
 obtain ⟨W1, hW1⟩ : ∃ W, w.alloc (.cells zc.toArray 33) = W := ⟨_, rfl⟩
 rw [hW1] at hB1 hs1 ht1 h1 ⊢
 rw [hA] at hs1 ht1
 simp only [hA]
 clear hW1
 go_upto_region 1 with fail
 try simp only [Act.put]
 refine pl_begin ?_
 refine pl_t 8 (?_) (by rfl) ?_ rfl ?_
 rotate_left
 ·go_simp
  try with_reducible rfl
 simp only [nz]
 refine pl_call (d := some 9) (by rfl) (by go_simp; first | done | exact ⟨rfl, rfl⟩ | with_reducible rfl) rfl ?_
 refine (cR W1 h1).mono ?_
 rintro _ w2 ⟨R, rfl, hRw, S2, hb2⟩
 refine ⟨_, rfl, ?_⟩
 simp only [nz]
 refine pl_t 4 (?_) (by rfl) ?_ rfl ?_
 rotate_left
 ·go_simp
  try with_reducible rfl
 simp only [nz]
 refine pl_nil ?_
 have hT2 := there_below ht1 hb2 hs1
 have hB2 : Below w.heap.size w w2 := hB1.trans (hb2.mono hB1.size)
 have hs2 := Nat.lt_of_lt_of_le hs1 hb2.size
 have hRA : A < R := by omega
 have hR2 : R < w2.heap.size := S2.1.1
 clear h1 cR
 go_upto_region 2 with fail
 try simp only [Act.put]
 refine pl_begin ?_
 refine pl_t 11 (?_) (by rfl) ?_ rfl ?_
 rotate_left
 ·go_simp
  try with_reducible rfl
 simp only [nz]
 refine pl_call (d := some 12) (by rfl) (by go_simp; first | done | exact ⟨rfl, rfl⟩ | with_reducible rfl) rfl ?_
 refine (cK R w2 S2).mono ?_
 rintro _ w3 ⟨c, rfl, hcp, hco, hca, hcs, hcg, hcb, S3, hg3⟩
 refine ⟨_, rfl, ?_⟩
 simp only [nz]
 have hql : c.cells.length = 45 := Rc.len hco
 have hq1 := Rc.one c
 have hiq : (Tryz.prog.info? 33).map (·.size) = some c.cells.length := by rw [hql]; exact iszRc
 refine pl_t 10 (?_) (by rfl) ?_ rfl ?_
 rotate_left
 ·go_simp
  try with_reducible rfl
 simp only [nz]
 refine pl_t 13 (?_) (by rfl) ?_ rfl ?_
 rotate_left
 ·go_simp
  try with_reducible rfl
 simp only [nz]
 refine pl_t 14 (?_) (by rfl) ?_ rfl ?_
 rotate_left
 ·go_simp
  try with_reducible rfl
 simp only [nz]
 refine pl_run (d := some 5) (v := .pointer (some ⟨w3.heap.size, 0, none⟩)) (w' := w3.alloc (.cells zc.toArray 33)) (by rfl) (ex_alloc rfl (hzr _)) rfl ?_
 simp only [nz]
 refine pl_store (w' := (w3.alloc (.cells zc.toArray 33)).setCells w3.heap.size 0 c.cells) (by rfl) (ex_put (cs := c.cells.toArray) rfl rfl rfl (there_newN _ _ _ (by simp [hzl, hql])) (by simpa using hiq) (all_one hq1)) rfl ?_
 refine pl_t 6 (?_) (by rfl) ?_ rfl ?_
 rotate_left
 ·go_simp
  try with_reducible rfl
 simp only [nz]
 refine pl_nil ?_
 obtain ⟨r4, hF2, hF3, -⟩ := fresh_store w3 zc.toArray 33 c.cells (by simp [hzl, hql])
 have hne : (some A : Option Nat) ≠ some R := by intro q; injection q with q; omega
 have hT3 := there_blk hT2 (hg3.block A hs2 hne)
 have hB3 : Below w.heap.size w w3 := ⟨hg3.os.trans hB2.os, hg3.tape.trans hB2.tape, hg3.output.trans hB2.output, Nat.le_trans hB2.size hg3.size, fun i hi => (hg3.block i (Nat.lt_of_lt_of_le hi hB2.size) (by intro q; injection q with q; omega)).trans (hB2.block i hi)⟩
 have hs3 : A < w3.heap.size := Nat.lt_of_lt_of_le hs2 hg3.size
 have hT4 := there_below hT3 hF2 hs3
 have hB4 := hB3.trans (hF2.mono hB3.size)
 have S4 := S3.below hF2
 have HCC : Hid (c.pure = rp ∧ c.At w3 ∧ c.Bk (fun b => A < b)) := hide ⟨hcp, ⟨hca, by rw [hcs]; exact RowsAt.none, by rw [hcg]; exact RowsAt.none⟩, ⟨hcb.mono (fun b hb => by omega), by rw [hcs]; exact nil_bk, by rw [hcg]; exact nil_bk⟩⟩
 replace HCC : Hid (c.pure = rp ∧ c.At ((w3.alloc (.cells zc.toArray 33)).setCells w3.heap.size 0 c.cells) ∧ c.Bk (fun b => A < b)) := hide ⟨HCC.out.1, ⟨HCC.out.2.1.rs.below hF2, HCC.out.2.1.cs.below hF2, HCC.out.2.1.sg.below hF2⟩, HCC.out.2.2⟩
 obtain ⟨X, hX⟩ : ∃ X, w3.heap.size = X := ⟨_, rfl⟩
 simp only [hX] at r4 hF3 hs3 hT4 hB4 S4 HCC ⊢
 obtain ⟨w4, hw4⟩ : ∃ W, (w3.alloc (.cells zc.toArray 33)).setCells X 0 c.cells = W := ⟨_, rfl⟩
 simp only [hw4] at r4 hF3 hT4 hB4 S4 HCC ⊢
 have hX4 : X < w4.heap.size := by omega
 have hck : c.k = rp.k := congrArg Rp.k HCC.out.1
 clear hF2 hF3 hT3 hB3 hB2 hb2 hcp hca hcs hcg hcb S3 hg3 hw4 hX hne hT2 S2 hB1 hs1 ht1 hs2 hRw cK hzr
 go_upto_region 3 with fail
 try simp only [Act.put]
 refine pl_begin ?_
 refine pl_t 15 (?_) (by rfl) ?_ rfl ?_
 rotate_left
 ·go_simp
  try with_reducible rfl
 simp only [nz]
 refine pl_call (d := some 16) (by rfl) (by go_simp; first | done | exact ⟨rfl, rfl⟩ | with_reducible rfl) rfl ?_
 refine (cD R w4 S4).mono ?_
 rintro _ w5 ⟨rfl, hx⟩
 obtain rfl := hx.symm
 clear hx
 refine ⟨_, rfl, ?_⟩
 simp only [nz]
 refine pl_t 7 (?_) (by rfl) ?_ rfl ?_
 rotate_left
 ·go_simp
  try with_reducible rfl
 simp only [nz]
 refine pl_nil ?_
 clear cD S4
 go_upto_region 4 with fail
 by_cases hd : d = 0
 rotate_left
 ·have hdb : (d != 0) = true := by simpa using hd
  have HP : Hid (PP = (Rp.zero 0, d)) := hide (by rw [← hPP.out, if_pos hd])
  clear hPP hd
  try simp only [Act.put]
  refine pl_begin ?_
  refine pl_t 17 (?_) (by rfl) ?_ rfl ?_
  rotate_left
  ·go_simp
   try with_reducible rfl
  simp only [nz]
  refine pl_t 18 (.bool true) (by rfl) (by go_simp <;> (try simp [*])) rfl ?_
  simp only [nz]
  refine pl_nil ?_
  go_upto_region 5 with fail
  try simp only [Act.put]
  refine pl_begin ?_
  refine pl_t 19 (.agg zc.toArray) (by rfl) (ex_build (parts := []) rfl rfl (hbn _)) rfl ?_
  simp only [nz]
  refine pl_t 20 (?_) (by rfl) ?_ rfl ?_
  rotate_left
  ·go_simp
   try with_reducible rfl
  simp only [nz]
  refine pl_store (w' := w4.setCells A 0 zc) (by rfl) (ex_put (cs := zc.toArray) rfl rfl rfl (by simpa [hzl] using hT4) (by simpa [hzl] using iszRc) (all_one hz1)) rfl ?_
  refine pl_t 3 (?_) (by rfl) ?_ rfl ?_
  rotate_left
  ·go_simp
   try with_reducible rfl
  simp only [nz]
  refine pl_nil ?_
  have hrs := run_loadVar_mid (P := Tryz.prog) (w4.setCells A 0 zc) A 0 33 zc _ (World.rangeAt_setCells_same w4 A 0 zc (by rw [hzl]; exact hT4)) Tryz.underlying33 rfl (by rw [hzl]; exact iszRc)
  have HF : Hid (DecK w PP (.returned (.tuple #[.agg zc.toArray, .int .i64 d])) (w4.setCells A 0 zc)) := hide (by
   rw [HP.out]
   exact deck_out (c := Rc.zero 0) hz0.out.symm HAw.out hB4 rfl rfl Vt.zero_ok (Rc.zero_at _ _) ⟨nil_bk, nil_bk, nil_bk⟩)
  clear r4 hB4 hT4 hX4 HCC
  go_wp2_with fail
  refine bodyPost_ret (results_ct rfl _ _ _ rfl hrs) rfl ?_
  exact HF.out
 subst hd
 try simp only [Act.put]
 refine pl_begin ?_
 refine pl_t 17 (?_) (by rfl) ?_ rfl ?_
 rotate_left
 ·go_simp
  try with_reducible rfl
 simp only [nz]
 refine pl_t 18 (.bool false) (by rfl) (by go_simp) rfl ?_
 simp only [nz]
 refine pl_nil ?_
 have k4 : w4.cell? ⟨X, 0, none⟩ = some (.int .i64 rp.k) := by rw [← hck]; exact r4 0 _ rfl
 go_upto_region 6 with fail
 try simp only [Act.put]
 refine pl_begin ?_
 refine pl_t 21 (?_) (by rfl) ?_ rfl ?_
 rotate_left
 ·go_simp
  try with_reducible rfl
 simp only [nz]
 refine pl_t 22 (.int .i64 rp.k) (by rfl) (pl_one rfl rfl k4 Tryz.underlying3 rfl) rfl ?_
 simp only [nz]
 refine pl_nil ?_
 have hk1 : rp.k ≠ 1 := by omega
 have n1 : (rp.k == 1) = false := by simpa using hk1
 go_upto_region 7 with fail
 try simp only [Act.put]
 refine pl_begin ?_
 refine pl_t 24 (.bool false) (by rfl) (by go_simp <;> (try simp [*])) rfl ?_
 simp only [nz]
 refine pl_t 23 (?_) (by rfl) ?_ rfl ?_
 rotate_left
 ·go_simp
  try with_reducible rfl
 simp only [nz]
 refine pl_nil ?_
 ·have HP : Hid (PP = (rp, 0)) := hide (by rw [← hPP.out, if_neg (by decide), if_pos (.inr hk3)])
  clear hPP hk1
  go_upto_region 8 with fail
  try simp only [Act.put]
  refine pl_begin ?_
  refine pl_t 25 (.bool true) (by rfl) (by go_simp <;> (try simp [*])) rfl ?_
  simp only [nz]
  refine pl_t 23 (?_) (by rfl) ?_ rfl ?_
  rotate_left
  ·go_simp
   try with_reducible rfl
  simp only [nz]
  refine pl_nil ?_
  have hql2 := hql
  obtain ⟨qc, hqc⟩ : ∃ q, Hid (c.cells = q) := ⟨_, hide rfl⟩
  simp only [hqc.out] at hql hq1 hiq r4
  go_upto_region 9 with fail
  try simp only [Act.put]
  refine pl_begin ?_
  refine pl_t 26 (.agg qc.toArray) (by rfl) (ex_mid rfl rfl r4 Tryz.underlying33 rfl hiq) rfl ?_
  simp only [nz]
  refine pl_store (w' := w4.setCells A 0 qc) (by rfl) (ex_put (cs := qc.toArray) rfl rfl rfl (by simpa [hql] using hT4) (by simpa using hiq) (all_one hq1)) rfl ?_
  refine pl_t 3 (?_) (by rfl) ?_ rfl ?_
  rotate_left
  ·go_simp
   try with_reducible rfl
  simp only [nz]
  refine pl_nil ?_
  have hrs := run_loadVar_mid (P := Tryz.prog) (w4.setCells A 0 qc) A 0 33 qc _ (World.rangeAt_setCells_same w4 A 0 qc (by rw [hql]; exact hT4)) Tryz.underlying33 rfl (by rw [hql]; exact iszRc)
  have HF : Hid (DecK w PP (.returned (.tuple #[.agg qc.toArray, .int .i64 0])) (w4.setCells A 0 qc)) := hide (by
   rw [HP.out]
   exact deck_out (c := c) hqc.out HAw.out hB4 rfl HCC.out.1 hco HCC.out.2.1 (by rw [← HAw.out]; exact HCC.out.2.2))
  clear r4 hB4 hT4 hX4 HCC k4
  go_wp2_with fail
  refine bodyPost_ret (results_ct rfl _ _ _ rfl hrs) rfl ?_
  exact HF.out
set_option maxRecDepth 100000 in
set_option maxHeartbeats 2000000 in
theorem kbytesOf_view (r : Rc) (w : World) (h : r.ct.ok) (am : r.At w) (hg : r.good = true) (hf : r.Fine) (HK3 : Hid (r.k = 3)) : Calls Tryz.prog 20 #[.agg r.cells.toArray] w fun e w' => ∃ v, e = .returned (.tuple #[v, .int .i64 0]) ∧ Mine w' w.heap.size v r.bytes ∧ Below w.heap.size w w' := by
 have hlen := Rc.bytes_le am hf
 obtain ⟨hf, hv0, k1, k5⟩ := hf
 have hs0 : r.s ≤ 9223372036854775807 := hf.s
 have hl0 : r.l ≤ 9223372036854775807 := hf.l
 have hk0 : r.k ≤ 9223372036854775807 := by omega
 have ic : (Tryz.prog.info? 33).map (·.size) = some r.cells.length := by rw [Rc.len h]; exact iszRc
 have hrn : r.rs.xs.length ≤ 200 := hf.rn
 have hrs : ∀ y ∈ r.rs.xs, y.s.size ≤ 4000 := hf.rs
 have hbl := strOf_len r.told.bytes
 have hal := hf.all
 have hts : (strOf r.told.bytes).size ≤ 40000 := by rw [hbl]; exact hal
 have cK := fun w0 => tput_on none 0 [] r.k w0 (nil_row w0) (by simp) hk0
 simp only [List.length_nil] at cK
 have hgt : r.told.good = true := by unfold Rc.good at hg; rw [Bool.and_eq_true] at hg; exact hg.2
 obtain ⟨Z, hZ⟩ : ∃ Z, Hid (r.bytes = Z) := ⟨_, hide rfl⟩
 rw [hZ.out] at hlen ⊢
 obtain ⟨tb, htb⟩ : ∃ t, Hid (strOf r.told.bytes = t) := ⟨_, hide rfl⟩
 obtain ⟨L1, hL1⟩ : ∃ L, Hid (([] : List Int) ++ putL r.k = L) := ⟨_, hide rfl⟩
 have l1 : L1.length ≤ 9 := by rw [← hL1.out]; exact putL_le r.k hk0
 obtain ⟨L2, hL2⟩ : ∃ L, Hid (L1 ++ putL r.s = L) := ⟨_, hide rfl⟩
 have l2 : L2.length ≤ 18 := by rw [← hL2.out, List.length_append]; have := putL_le r.s hs0; omega
 obtain ⟨L3, hL3⟩ : ∃ L, Hid (L2 ++ putL r.v = L) := ⟨_, hide rfl⟩
 have l3 : L3.length ≤ 27 := by rw [← hL3.out, List.length_append]; have := putL_le r.v hv0; omega
 obtain ⟨M2, hM2⟩ : ∃ L, Hid (L1 ++ putL r.l = L) := ⟨_, hide rfl⟩
 have m2 : M2.length ≤ 18 := by rw [← hM2.out, List.length_append]; have := putL_le r.l hl0; omega
 obtain ⟨M3, hM3⟩ : ∃ L, Hid (M2 ++ putL r.v = L) := ⟨_, hide rfl⟩
 have m3 : M3.length ≤ 27 := by rw [← hM3.out, List.length_append]; have := putL_le r.v hv0; omega
 have z1 : r.k = 1 → Hid (L3 ++ batL r.q (r.rs.xs.map BRq.of) = Z) := fun e => hide (by rw [← hZ.out, ← hL3.out, ← hL2.out, ← hL1.out]; unfold Rc.bytes; rw [if_pos e]; simp)
 have z3 : r.k = 3 → Hid (M3 = Z) := fun e => hide (by rw [← hZ.out, ← hM3.out, ← hM2.out, ← hL1.out]; unfold Rc.bytes; rw [if_neg (by omega), if_pos e]; simp)
 have z7 : r.k ≠ 1 → r.k ≠ 3 → Hid (L1 ++ textL tb = Z) := fun e1 e3 => hide (by rw [← hZ.out, ← hL1.out, ← htb.out]; unfold Rc.bytes; rw [if_neg e1, if_neg e3]; simp)
 obtain ⟨hB1, hR1, hs1⟩ := boxed_new w r.cells 33
 have hp := fun {W : World} {b : Nat} (hR : W.rangeAt b 0 r.cells) => rc_parts h hR
 clear am hg hgt hal hZ htb
 go_enter Tryz.func20, Tryz.ntmps20
 go_upto_region 1 with fail
 obtain ⟨V0, hV0⟩ : ∃ q : World, w.alloc (.cells r.cells.toArray 33) = q := ⟨_, rfl⟩
 rw [hV0] at hB1 hR1 hs1 ⊢
 clear hV0
 have k0 : V0.cell? ⟨w.heap.size, 0, none⟩ = some (.int .i64 r.k) := hR1 0 _ rfl
 try simp only [Act.put]
 refine pl_begin ?_
 refine pl_t 7 (?_) (by rfl) ?_ rfl ?_
 rotate_left
 ·go_simp
  try with_reducible rfl
 simp only [nz]
 refine pl_t 8 (.int .i64 r.k) (by rfl) (pl_one rfl rfl k0 Tryz.underlying3 rfl) rfl ?_
 simp only [nz]
 refine pl_call (d := some 9) (by rfl) (by go_simp; first | done | exact ⟨rfl, rfl⟩ | with_reducible rfl) rfl ?_
 refine (cK V0).mono ?_
 rintro e9 w1 hf9
 obtain ⟨a1, c1, rfl, row1, mine1, hb9⟩ := FOn.row hf9 hL1.out (by omega)
 have hN1 : Below w.heap.size w w1 := hB1.trans (hb9.mono hB1.size)
 clear hf9
 refine ⟨_, rfl, ?_⟩
 simp only [nz]
 refine pl_t 4 (?_) (by rfl) ?_ rfl ?_
 rotate_left
 ·go_simp
  try with_reducible rfl
 simp only [nz]
 refine pl_nil ?_
 have hR := range_below hR1 hb9 hs1
 have hsw : w.heap.size < w1.heap.size := Nat.lt_of_lt_of_le hs1 hb9.size
 replace mine1 : Mine w1 w.heap.size (.slice a1 L1.length c1) L1 := ⟨owns_mono mine1.1 (Nat.le_of_lt hs1), mine1.2⟩
 clear hB1 hR1 hs1 k0 hb9 cK
 have hB1 := hN1
 have hs1 := hsw
 clear hN1 hsw
 have q0 : w1.cell? ⟨w.heap.size, 0, none⟩ = some (.int .i64 r.k) := hR 0 _ rfl
 have q1 : w1.cell? ⟨w.heap.size, 1, none⟩ = some (.int .i64 r.l) := hR 1 _ rfl
 have q2 : w1.cell? ⟨w.heap.size, 2, none⟩ = some (.int .i64 r.v) := hR 2 _ rfl
 have q3 : w1.cell? ⟨w.heap.size, 3, none⟩ = some (.int .i64 r.s) := hR 3 _ rfl
 go_upto_region 2 with fail
 try simp only [Act.put]
 refine pl_begin ?_
 refine pl_t 10 (?_) (by rfl) ?_ rfl ?_
 rotate_left
 ·go_simp
  try with_reducible rfl
 simp only [nz]
 refine pl_t 11 (.int .i64 r.k) (by rfl) (pl_one rfl rfl q0 Tryz.underlying3 rfl) rfl ?_
 simp only [nz]
 refine pl_nil ?_
 have hk3 := HK3.out
 have hk1 : r.k ≠ 1 := by omega
 have n1 : (r.k == 1) = false := by simpa using hk1
 clear z1
 go_upto_region 3 with fail
 try simp only [Act.put]
 refine pl_begin ?_
 refine pl_t 13 (.bool false) (by rfl) (by go_simp <;> (try simp [*])) rfl ?_
 simp only [nz]
 refine pl_t 12 (?_) (by rfl) ?_ rfl ?_
 rotate_left
 ·go_simp
  try with_reducible rfl
 simp only [nz]
 refine pl_nil ?_
 ·have z := z3 hk3
  go_upto_region 6 with fail
  try simp only [Act.put]
  refine pl_begin ?_
  refine pl_t 26 (.bool true) (by rfl) (by go_simp <;> (try simp [*])) rfl ?_
  simp only [nz]
  refine pl_t 25 (?_) (by rfl) ?_ rfl ?_
  rotate_left
  ·go_simp
   try with_reducible rfl
  simp only [nz]
  refine pl_nil ?_
  clear z3 z7 hL2 hL3 hL1 hp
  go_upto_region 7 with fail
  refine hs_begin (S := (Below w1.drew.heap.size w1.drew)) 9 rfl (by kernel_rfl) ?_
  have hB8 := hB1.drew
  have hs8 : w.heap.size < w1.drew.heap.size := hs1
  replace row1 : RowAt w1.drew a1 L1 := row1.below (Below.refl _ _).drew
  have q1 : w1.drew.cell? ⟨w.heap.size, 1, none⟩ = some (.int .i64 r.l) := q1
  have q2 : w1.drew.cell? ⟨w.heap.size, 2, none⟩ = some (.int .i64 r.v) := q2
  have q3 : w1.drew.cell? ⟨w.heap.size, 3, none⟩ = some (.int .i64 r.s) := q3
  have hRd := (World.rangeAt_drew _ _ _ _).2 hR
  obtain ⟨w8, hw8⟩ : ∃ W, w1.drew = W := ⟨_, rfl⟩
  rw [hw8] at hB8 hs8 row1 q1 q2 q3 hRd ⊢
  clear hw8 hB1 hs1 hR mine1
  have hS : (Below w8.heap.size w8) w8 := Below.refl _ _
  refine hs_t 0 27 (?_) rfl (by kernel_rfl) (by kernel_rfl) (by kernel_rfl) (by rfl) ?_ hS rfl ?_
  rotate_left
  ·intro w' hw
   go_simp
   try with_reducible rfl
  simp only [nz]
  refine hs_t 1 28 (?_) rfl (by kernel_rfl) (by kernel_rfl) (by kernel_rfl) (by rfl) ?_ hS rfl ?_
  rotate_left
  ·intro w' hw
   go_simp
   try with_reducible rfl
  simp only [nz]
  refine hs_t 2 29 (.int .i64 r.l) rfl (by kernel_rfl) (by kernel_rfl) (by kernel_rfl) (by rfl) (fun w' hw => pl_one rfl rfl ((hw.cell (p := ⟨w.heap.size, 1, none⟩) hs8).trans q1) Tryz.underlying3 rfl) hS rfl ?_
  simp only [nz]
  refine hs_t 4 31 (?_) rfl (by kernel_rfl) (by kernel_rfl) (by kernel_rfl) (by rfl) ?_ hS rfl ?_
  rotate_left
  ·intro w' hw
   go_simp
   try with_reducible rfl
  simp only [nz]
  refine hs_t 5 32 (.int .i64 r.v) rfl (by kernel_rfl) (by kernel_rfl) (by kernel_rfl) (by rfl) (fun w' hw => pl_one rfl rfl ((hw.cell (p := ⟨w.heap.size, 2, none⟩) hs8).trans q2) Tryz.underlying3 rfl) hS rfl ?_
  simp only [nz]
  refine hs_call (i := 3) (d := some 30) rfl (by kernel_rfl) (by rfl) (by go_simp; first | done | exact ⟨rfl, rfl⟩ | with_reducible rfl) rfl ?_
  refine (tput_on a1 c1 L1 r.l w8 row1 (by omega) hl0).mono ?_
  rintro e9 w9 hf9
  obtain ⟨a2, c2, rfl, row2, mine2, hb9⟩ := FOn.row hf9 hM2.out (by omega)
  have hS : (Below w8.heap.size w8) w9 := hS.trans (hb9.mono hS.size)
  have hS9 := hS
  clear hf9 hb9
  refine ⟨_, rfl, hS, ?_⟩
  simp only [nz]
  refine hs_call (i := 6) (d := some 33) rfl (by kernel_rfl) (by rfl) (by go_simp; first | done | exact ⟨rfl, rfl⟩ | with_reducible rfl) rfl ?_
  refine (tput_on a2 c2 M2 r.v w9 row2 (by omega) hv0).mono ?_
  rintro e9 w10 hf9
  obtain ⟨a3, c3, rfl, row3, mine3, hb9⟩ := FOn.row hf9 hM3.out (by omega)
  have hS : (Below w8.heap.size w8) w10 := hS.trans (hb9.mono hS.size)
  clear hf9 hb9
  refine ⟨_, rfl, hS, ?_⟩
  simp only [nz]
  refine hs_t 7 2 (?_) rfl (by kernel_rfl) (by kernel_rfl) (by kernel_rfl) (by rfl) ?_ hS rfl ?_
  rotate_left
  ·intro w' hw
   go_simp
   try with_reducible rfl
  simp only [nz]
  refine hs_t 8 3 (?_) rfl (by kernel_rfl) (by kernel_rfl) (by kernel_rfl) (by rfl) ?_ hS rfl ?_
  rotate_left
  ·intro w' hw
   go_simp
   try with_reducible rfl
  simp only [nz]
  refine hs_done (by kernel_rfl) ?_
  have BB := hB8.trans (hS.mono hB8.size)
  have HM : Hid (Mine w10 w.heap.size (.slice a3 Z.length c3) Z) := hide (by
   rw [← z.out]
   exact ⟨owns_mono mine3.1 (Nat.le_trans hB8.size hS9.size), mine3.2⟩)
  have e3 : M3.length = Z.length := congrArg List.length z.out
  clear mine3 mine2 row3 row2 row1
  go_wp2_with fail
  go_ret2
  exact ⟨_, rfl, by rw [e3]; exact HM.out, BB⟩
set_option maxRecDepth 100000 in
set_option maxHeartbeats 2000000 in
theorem kencode_view (r : Rc) (w : World) (h : r.ct.ok) (am : r.At w) (hf : r.good = true → r.Fine) (HK3 : Hid (r.k = 3)) : Calls Tryz.prog 9 #[.agg r.cells.toArray] w fun e w' => EncR r w e w' := by
 have ic : (Tryz.prog.info? 33).map (·.size) = some r.cells.length := by rw [Rc.len h]; exact iszRc
 have cG := fun w0 (h0 : Below w.heap.size w w0) => kgood_any r w0 h (am.below h0)
 have cB := fun hg w0 (h0 : Below w.heap.size w w0) => kbytesOf_view r w0 h (am.below h0) hg (hf hg) HK3
 have hl := fun hg => Rc.bytes_le am (hf hg)
 obtain ⟨E, hE⟩ : ∃ E, Hid (encE r = E) := ⟨_, hide rfl⟩
 obtain ⟨Z, hZ⟩ : ∃ E, Hid (encZ r = E) := ⟨_, hide rfl⟩
 obtain ⟨Y, hY⟩ : ∃ E, Hid (r.bytes = E) := ⟨_, hide rfl⟩
 have e1 : r.good = true → E = 0 ∧ Z = Y := fun hg => by rw [← hE.out, ← hZ.out, ← hY.out]; unfold encE encZ; rw [if_pos hg, if_pos hg]; exact ⟨rfl, rfl⟩
 have e2 : r.good = false → E = 240 ∧ Z = [] := fun hg => by rw [← hE.out, ← hZ.out]; unfold encE encZ; rw [if_neg (by rw [hg]; decide), if_neg (by rw [hg]; decide)]; exact ⟨rfl, rfl⟩
 unfold EncR
 rw [hE.out, hZ.out]
 simp only [hY.out] at cB hl
 clear hE hZ hY
 obtain ⟨g, hg⟩ : ∃ g, Hid (r.good = g) := ⟨_, hide rfl⟩
 rw [hg.out] at hf e1 e2
 simp only [hg.out] at cG cB hl
 clear hg
 obtain ⟨hB1, hR1, hs1⟩ := boxed_new w r.cells 33
 go_enter Tryz.func9, Tryz.ntmps9
 go_upto_region 1 with fail
 obtain ⟨V0, hV0⟩ : ∃ q : World, w.alloc (.cells r.cells.toArray 33) = q := ⟨_, rfl⟩
 rw [hV0] at hB1 hR1 hs1 ⊢
 clear hV0
 try simp only [Act.put]
 refine pl_begin ?_
 refine pl_t 6 (.agg r.cells.toArray) (by rfl) (ex_mid rfl rfl hR1 Tryz.underlying33 rfl ic) rfl ?_
 simp only [nz]
 refine pl_call (d := some 7) (by rfl) (by go_simp; first | done | exact ⟨rfl, rfl⟩ | with_reducible rfl) rfl ?_
 refine (cG V0 hB1).mono ?_
 rintro _ w1 ⟨rfl, hb1⟩
 refine ⟨_, rfl, ?_⟩
 simp only [nz]
 cases g
 ·refine pl_t 8 (?_) (by rfl) ?_ rfl ?_
  rotate_left
  ·go_simp
   try with_reducible rfl
  simp only [nz]
  refine pl_nil ?_
  obtain ⟨rfl, rfl⟩ := e2 rfl
  have HB := hide (hB1.trans (hb1.mono hB1.size))
  clear hB1 hR1 hs1 hb1 cG cB hl e1 e2
  go_wp2_with fail
  go_ret2
  exact ⟨_, rfl, nil_mine _ _, HB.out⟩
 ·refine pl_t 8 (?_) (by rfl) ?_ rfl ?_
  rotate_left
  ·go_simp
   try with_reducible rfl
  simp only [nz]
  refine pl_nil ?_
  obtain ⟨rfl, rfl⟩ := e1 rfl
  have hb := hB1.trans (hb1.mono hB1.size)
  have hR := range_below hR1 hb1 hs1
  have hlz := hl rfl
  have cb := cB rfl
  clear hB1 hR1 hs1 hb1 cG cB hl e1 e2
  go_upto_region 3 with fail
  try simp only [Act.put]
  refine pl_begin ?_
  refine pl_t 10 (.agg r.cells.toArray) (by rfl) (ex_mid rfl rfl hR Tryz.underlying33 rfl ic) rfl ?_
  simp only [nz]
  refine pl_call (d := some 11) (by rfl) (by go_simp; first | done | exact ⟨rfl, rfl⟩ | with_reducible rfl) rfl ?_
  refine (cb w1 hb).mono ?_
  rintro _ w2 ⟨v2, rfl, mine2, hb2⟩
  obtain ⟨a2, c2, rfl, -, -, row2⟩ := mine2.rowAt (by unfold maxLen; omega)
  refine ⟨_, rfl, ?_⟩
  simp only [nz]
  refine pl_t 9 (?_) (by rfl) ?_ rfl ?_
  rotate_left
  ·go_simp
   try with_reducible rfl
  simp only [nz]
  refine pl_t 12 (?_) (by rfl) ?_ rfl ?_
  rotate_left
  ·go_simp
   try with_reducible rfl
  simp only [nz]
  refine pl_t 13 (?_) (by rfl) ?_ rfl ?_
  rotate_left
  ·go_simp
   try with_reducible rfl
  simp only [nz]
  refine pl_t 4 (?_) (by rfl) ?_ rfl ?_
  rotate_left
  ·go_simp
   try with_reducible rfl
  simp only [nz]
  refine pl_t 5 (?_) (by rfl) ?_ rfl ?_
  rotate_left
  ·go_simp
   try with_reducible rfl
  simp only [nz]
  refine pl_nil ?_
  have HM : Hid (Mine w2 w.heap.size (.slice a2 Z.length c2) Z) := hide ⟨owns_mono mine2.1 hb.size, mine2.2⟩
  have HB := hide (hb.trans (hb2.mono hb.size))
  clear mine2 row2 hb2 hb hR cb
  go_upto_region 4 with fail
  try simp only [Act.put]
  refine pl_begin ?_
  refine pl_t 15 (?_) (by rfl) ?_ rfl ?_
  rotate_left
  ·go_simp
   try with_reducible rfl
  simp only [nz]
  refine pl_t 16 (.bool false) (by rfl) (by go_simp) rfl ?_
  simp only [nz]
  refine pl_t 14 (?_) (by rfl) ?_ rfl ?_
  rotate_left
  ·go_simp
   try with_reducible rfl
  simp only [nz]
  refine pl_nil ?_
  go_upto_region 6 with fail
  try simp only [Act.put]
  refine pl_begin ?_
  refine pl_t 19 (?_) (by rfl) ?_ rfl ?_
  rotate_left
  ·go_simp
   try with_reducible rfl
  simp only [nz]
  refine pl_t 20 (?_) (by rfl) ?_ rfl ?_
  rotate_left
  ·go_simp
   try with_reducible rfl
  simp only [nz]
  refine pl_t 21 (.bool false) (by rfl) (by go_simp <;> (try simp) <;> (try omega)) rfl ?_
  simp only [nz]
  refine pl_t 18 (?_) (by rfl) ?_ rfl ?_
  rotate_left
  ·go_simp
   try with_reducible rfl
  simp only [nz]
  refine pl_nil ?_
  go_wp2_with fail
  go_ret2
  exact ⟨_, rfl, HM.out, HB.out⟩
def exR : Rc := ⟨3, 2, 1, 0, false, ⟨none, 0, []⟩, Vt.zero, ⟨none, 0, []⟩, ⟨#[]⟩, ⟨none, 0, []⟩⟩
def exZ : List Int := [1, 3, 1, 2, 1, 1]
theorem exR_good : exR.good = true := by kernel_rfl
theorem exR_at (w : World) : exR.At w := ⟨RowsAt.none, RowsAt.none, RowsAt.none⟩
theorem exR_ok : exR.ct.ok := Vt.zero_ok
theorem exR_fine (w : World) : exR.Fine := fine_rc exR_ok (exR_at w) ⟨by decide, by decide, by decide⟩ exR_good
theorem exR_enc : encZ exR = exZ ∧ encE exR = 0 := by
 unfold encZ encE
 rw [if_pos exR_good, if_pos exR_good]
 exact ⟨by decide, rfl⟩
theorem exR_fin : kfin (krV (xnuS 5 (exZ, 0)).2) = kdec exZ := rfl
theorem exR_dec : (kdec exZ).2 = 0 ∧ (kdec exZ).1.v = 1 := by decide
theorem exR_str : strOf exZ = ⟨#[1, 3, 1, 2, 1, 1]⟩ := by decide
theorem build_ex (w : World) : (Instr.build 33 #[(0, .int .i64 3), (1, .int .i64 2), (2, .int .i64 1)]).run Tryz.prog w = .ok (.agg exR.cells.toArray) w := build_rec _ _ w rfl
set_option maxRecDepth 100000 in
set_option maxHeartbeats 1000000 in
theorem lives24_any (w : World) : Calls Tryz.prog 8 #[] w fun e w' => e = .returned (.bool true) ∧ Below w.heap.size w w' := by
 have cE := fun w0 => kencode_view exR w0 exR_ok (exR_at w0) (fun _ => exR_fine w0) (hide rfl)
 unfold EncR at cE
 rw [exR_enc.1, exR_enc.2] at cE
 have cD := fun a cap w0 h0 => kdecode_view a cap exZ w0 h0 (by decide) (by decide)
 rw [exR_fin] at cD
 obtain ⟨zc, hzl, hzr⟩ : ∃ z : List Value, z.length = 45 ∧ ∀ w : World, (zeroValue 33).run Tryz.prog w = .ok (.agg z.toArray) w := ⟨_, Rc.len Vt.zero_ok, zeroRc⟩
 have hd := exR_dec
 have hss := exR_str
 have hbe := build_ex w
 obtain ⟨qx, hqx⟩ : ∃ q, Hid (exR.cells = q) := ⟨_, hide rfl⟩
 simp only [hqx.out] at cE hbe
 have hzl6 : exZ.length ≤ 6 := Nat.le_refl _
 obtain ⟨Z, hZ⟩ : ∃ Z, exZ = Z := ⟨_, rfl⟩
 rw [hZ] at hd hss hzl6
 simp only [hZ] at cE cD
 clear hZ hqx
 unfold DecK at cD
 rw [hd.1] at cD
 go_enter Tryz.func8, Tryz.ntmps8
 go_upto_region 1 with fail
 try simp only [Act.put]
 refine pl_begin ?_
 refine pl_t 6 (.agg qx.toArray) (by rfl) (ex_build (parts := [(0, .const (.int .i64 3)), (1, .const (.int .i64 2)), (2, .const (.int .i64 1))]) rfl rfl hbe) rfl ?_
 simp only [nz]
 refine pl_call (d := some 7) (by rfl) (by go_simp; first | done | exact ⟨rfl, rfl⟩ | with_reducible rfl) rfl ?_
 refine (cE w).mono ?_
 rintro _ w1 ⟨v1, rfl, mine1, hb1⟩
 obtain ⟨a1, c1, rfl, -, -, row1⟩ := mine1.rowAt (by unfold maxLen; omega)
 refine ⟨_, rfl, ?_⟩
 simp only [nz]
 refine pl_t 5 (?_) (by rfl) ?_ rfl ?_
 rotate_left
 ·go_simp
  try with_reducible rfl
 simp only [nz]
 refine pl_t 8 (?_) (by rfl) ?_ rfl ?_
 rotate_left
 ·go_simp
  try with_reducible rfl
 simp only [nz]
 refine pl_t 9 (?_) (by rfl) ?_ rfl ?_
 rotate_left
 ·go_simp
  try with_reducible rfl
 simp only [nz]
 refine pl_t 1 (?_) (by rfl) ?_ rfl ?_
 rotate_left
 ·go_simp
  try with_reducible rfl
 simp only [nz]
 refine pl_t 2 (?_) (by rfl) ?_ rfl ?_
 rotate_left
 ·go_simp
  try with_reducible rfl
 simp only [nz]
 refine pl_nil ?_
 clear mine1 cE hbe
 go_upto_region 2 with fail
 try simp only [Act.put]
 refine pl_begin ?_
 refine pl_t 11 (?_) (by rfl) ?_ rfl ?_
 rotate_left
 ·go_simp
  try with_reducible rfl
 simp only [nz]
 refine pl_call (d := some 12) (by rfl) (by go_simp; first | done | exact ⟨rfl, rfl⟩ | with_reducible rfl) rfl ?_
 refine (cD a1 c1 w1 row1).mono ?_
 rintro _ w2 ⟨c, rfl, hp, hco, -, -, hb2⟩
 refine ⟨_, rfl, ?_⟩
 simp only [nz]
 have hql : c.cells.length = 45 := Rc.len hco
 have hq1 := Rc.one c
 have hiq : (Tryz.prog.info? 33).map (·.size) = some c.cells.length := by rw [hql]; exact iszRc
 refine pl_t 10 (?_) (by rfl) ?_ rfl ?_
 rotate_left
 ·go_simp
  try with_reducible rfl
 simp only [nz]
 refine pl_t 13 (?_) (by rfl) ?_ rfl ?_
 rotate_left
 ·go_simp
  try with_reducible rfl
 simp only [nz]
 refine pl_t 14 (?_) (by rfl) ?_ rfl ?_
 rotate_left
 ·go_simp
  try with_reducible rfl
 simp only [nz]
 refine pl_run (d := some 3) (v := .pointer (some ⟨w2.heap.size, 0, none⟩)) (w' := w2.alloc (.cells zc.toArray 33)) (by rfl) (ex_alloc rfl (hzr _)) rfl ?_
 simp only [nz]
 refine pl_store (w' := (w2.alloc (.cells zc.toArray 33)).setCells w2.heap.size 0 c.cells) (by rfl) (ex_put (cs := c.cells.toArray) rfl rfl rfl (there_newN _ _ _ (by simp [hzl, hql])) (by simpa using hiq) (all_one hq1)) rfl ?_
 refine pl_t 4 (?_) (by rfl) ?_ rfl ?_
 rotate_left
 ·go_simp
  try with_reducible rfl
 simp only [nz]
 refine pl_nil ?_
 obtain ⟨r4, hF2, hF3, -⟩ := fresh_store w2 zc.toArray 33 c.cells (by simp [hzl, hql])
 have hv : c.v = 1 := by have := congrArg Rp.v hp; rw [hd.2] at this; exact this
 have hcv := row_mine ((row1.below hb2).below hF2) c1
 rw [hss] at hcv
 have HB := hide ((hb1.trans (hb2.mono hb1.size)).trans (hF2.mono (Nat.le_trans hb1.size hb2.size)))
 obtain ⟨w3, hw3⟩ : ∃ W, (w2.alloc (.cells zc.toArray 33)).setCells w2.heap.size 0 c.cells = W := ⟨_, rfl⟩
 rw [hw3] at r4 hcv HB ⊢
 have k2 : w3.cell? ⟨w2.heap.size, 2, none⟩ = some (.int .i64 1) := by rw [← hv]; exact r4 2 _ rfl
 clear hw3 hF2 hF3 r4 row1 hb1 hb2 hd hss hp cD hv
 go_upto_region 3 with fail
 try simp only [Act.put]
 refine pl_begin ?_
 refine pl_t 15 (?_) (by rfl) ?_ rfl ?_
 rotate_left
 ·go_simp
  try with_reducible rfl
 simp only [nz]
 refine pl_t 16 (.bool true) (by rfl) (by go_simp) rfl ?_
 simp only [nz]
 refine pl_t 17 (?_) (by rfl) ?_ rfl ?_
 rotate_left
 ·go_simp
  try with_reducible rfl
 simp only [nz]
 refine pl_t 18 (?_) (by rfl) ?_ rfl ?_
 rotate_left
 ·go_simp
  try with_reducible rfl
 simp only [nz]
 refine pl_t 19 (.bool true) (by rfl) (by go_simp) rfl ?_
 simp only [nz]
 refine pl_t 20 (?_) (by rfl) ?_ rfl ?_
 rotate_left
 ·go_simp
  try with_reducible rfl
 simp only [nz]
 refine pl_t 21 (?_) (by rfl) ?_ rfl ?_
 rotate_left
 ·go_simp
  try with_reducible rfl
 simp only [nz]
 refine pl_t 22 (?_) (by rfl) ?_ rfl ?_
 rotate_left
 ·go_simp
  try with_reducible rfl
 simp only [nz]
 refine pl_t 23 (.string ⟨#[1, 3, 1, 2, 1, 1]⟩) (by rfl) (exec_conv rfl rfl hcv) rfl ?_
 simp only [nz]
 refine pl_t 24 (.bool true) (by rfl) (by go_simp) rfl ?_
 simp only [nz]
 refine pl_t 25 (?_) (by rfl) ?_ rfl ?_
 rotate_left
 ·go_simp
  try with_reducible rfl
 simp only [nz]
 refine pl_t 26 (?_) (by rfl) ?_ rfl ?_
 rotate_left
 ·go_simp
  try with_reducible rfl
 simp only [nz]
 refine pl_t 27 (?_) (by rfl) ?_ rfl ?_
 rotate_left
 ·go_simp
  try with_reducible rfl
 simp only [nz]
 refine pl_t 28 (.int .i64 1) (by rfl) (pl_one rfl rfl k2 Tryz.underlying3 rfl) rfl ?_
 simp only [nz]
 refine pl_t 29 (.bool true) (by rfl) (by go_simp) rfl ?_
 simp only [nz]
 refine pl_t 30 (?_) (by rfl) ?_ rfl ?_
 rotate_left
 ·go_simp
  try with_reducible rfl
 simp only [nz]
 refine pl_t 0 (?_) (by rfl) ?_ rfl ?_
 rotate_left
 ·go_simp
  try with_reducible rfl
 simp only [nz]
 refine pl_nil ?_
 go_wp2_with fail
 go_ret
 exact ⟨rfl, HB.out⟩
theorem infoRc : (Tryz.prog.info? 33).map (fun i => (i.zero, i.size)) = some (some (.agg (Rc.zero 0).cells.toArray), 45) := by kernel_rfl
theorem bs1_rec {u : List Value} (hu : u.length = 45) (w : World) : (Instr.buildSlice 50 1 #[(0, .agg u.toArray)]).run Tryz.prog w = .ok (.slice (some ⟨w.heap.size, 0, none⟩) 1 1) (w.alloc (.cells u.toArray 33)) := by
 obtain ⟨i, hi, hzz⟩ := Option.map_eq_some_iff.1 infoRc
 simp only [Prod.mk.injEq] at hzz
 obtain ⟨hz, hs⟩ := hzz
 exact run_bs1 50 33 i _ u Tryz.underlying50 hi hz (by rw [hs, hu]) (by omega) (by omega) w
theorem rcs_one {r : Rc} {w : World} (h : r.ct.ok) (am : r.At w) : RcsAt (w.alloc (.cells r.cells.toArray 33)) ⟨some ⟨w.heap.size, 0, none⟩, 1, [r]⟩ := by
 obtain ⟨hB, hR, hs⟩ := boxed_new w r.cells 33
 refine ⟨⟨by simp [maxLen], fun y hy => by rw [List.mem_singleton.1 hy]; exact h, .inr ⟨_, 0, rfl, hs, by simpa [RcE] using hR⟩⟩, fun y hy => by rw [List.mem_singleton.1 hy]; exact ⟨am.rs.below hB, am.cs.below hB, am.sg.below hB⟩⟩
theorem Rc.At.below' {r : Rc} {w w' : World} (h : r.At w) (hb : Below w.heap.size w w') : r.At w' := ⟨h.rs.below hb, h.cs.below hb, h.sg.below hb⟩
theorem val_digK : ∀ k n, val (digK k n) = ((n % 256 ^ k : Nat) : Int)
 | 0, n => by simp [digK, val, Nat.mod_one]
 | k + 1, n => by
  rw [digK, val_snoc, val_digK k (n / 256), Nat.pow_succ, Nat.mul_comm (256 ^ k) 256, Nat.mod_mul]
  omega
theorem val_digs (n : Nat) (h : n < 2 ^ 63) : val (digs n) = n := by
 unfold digs
 rw [val_digK, Nat.mod_eq_of_lt (wid_bounds 8 n h (by omega)).2.1]
theorem strOf_strL (s : ByteArray) : strOf (strL s) = s := by
 unfold strOf strL
 rw [foldl_push_byteCells]
 cases s; simp
theorem head_digs (n : Nat) (h0 : 0 < n) (h : n < 2 ^ 63) : (digs n).head? ≠ some 0 := by
 obtain ⟨_, b, c⟩ := wid_bounds 8 n h (by omega)
 obtain ⟨c1, c2⟩ := c h0
 have hg := digK_get (wid n) n 0 c1
 have hl := digs_length n
 unfold digs at hl ⊢
 cases hd : digK (wid n) n with
 | nil => simp
 | cons x tl =>
  rw [hd] at hg
  have hg' : x = ((n / 256 ^ (wid n - 1 - 0) % 256 : Nat) : Int) := hg
  rw [Nat.sub_zero] at hg'
  have hlt : n / 256 ^ (wid n - 1) < 256 := by
   rw [Nat.div_lt_iff_lt_mul (Nat.pow_pos (by omega)), Nat.mul_comm, ← Nat.pow_succ]
   have e : (wid n - 1).succ = wid n := by omega
   rw [e]; exact b
  have hpos : 0 < n / 256 ^ (wid n - 1) := Nat.div_pos c2 (Nat.pow_pos (by omega))
  rw [Nat.mod_eq_of_lt hlt] at hg'
  intro hc
  simp only [List.head?_cons, Option.some.injEq] at hc
  omega
theorem numR_back (n : Nat) (h : n < 2 ^ 63) (more : List Int) : numR (numB n ++ more) = ((n : Int), 1 + wid n, 0) := by
 have hw := wid_le n h
 have hv := val_digs n h
 have ht : (digs n ++ more).take (wid n) = digs n := by rw [List.take_append_of_le_length (by rw [digs_length]; exact Nat.le_refl _), List.take_of_length_le (by rw [digs_length]; exact Nat.le_refl _)]
 have hh : ¬ ((digs n).head? = some 0 ∨ 9223372036854775807 < val (digs n)) := by
  rw [hv]
  by_cases h0 : n = 0
  ·subst h0; rw [digs_zero]; simp
  ·intro hc
   rcases hc with hc | hc
   ·exact head_digs n (by omega) h hc
   ·omega
 have e : valR (digs n) = ((n : Int), 0) := by unfold valR; rw [if_neg hh, hv]
 have e0 : numB n ++ more = (wid n : Int) :: (digs n ++ more) := rfl
 rw [e0]
 simp only [numR]
 rw [if_neg (by omega), if_neg (by rw [List.length_append, digs_length]; omega), Int.toNat_natCast, ht, e]
 simp
theorem numS_back (x most : Int) (h0 : 0 ≤ x) (h1 : x ≤ 9223372036854775807) (hm : x ≤ most) (more : List Int) : numS (putL x ++ more) 0 most = (x, more, 0) := by
 have e : putL x = numB x.toNat := by unfold putL; rw [if_neg (by omega)]
 have hr := numR_back x.toNat (by omega) more
 have hx : ((x.toNat : Nat) : Int) = x := by omega
 rw [hx] at hr
 have hd : (numB x.toNat ++ more).drop (1 + wid x.toNat) = more := by
  have : (numB x.toNat).length = 1 + wid x.toNat := by simp only [numB, List.length_cons, digs_length]; omega
  rw [← this, List.drop_append_of_le_length (Nat.le_refl _)]; simp
 unfold numS
 rw [e, hr, if_pos rfl, if_pos rfl, if_neg (by omega), hd]
theorem textS_back (s : ByteArray) (most : Int) (hs : s.size ≤ 1099511627) (hm : (s.size : Int) ≤ most) (more : List Int) : textS (textL s ++ more) 0 most = (strL s, more, 0) := by
 have e : textL s ++ more = putL (s.size : Int) ++ (strL s ++ more) := by unfold textL; rw [List.append_assoc]
 have hn := numS_back (s.size : Int) 9223372036854775807 (by omega) (by omega) (by omega) (strL s ++ more)
 unfold textS
 rw [e, hn]
 simp only [Int.toNat_natCast]
 rw [if_pos trivial, if_neg (by omega), if_neg (by rw [List.length_append, strL_length]; omega)]
 have hl := strL_length s
 rw [List.take_append_of_le_length (by omega), List.take_of_length_le (by omega), List.drop_append_of_le_length (by omega), List.drop_of_length_le (by omega), List.nil_append]
theorem strOf_list (zs : List Int) : (strOf zs).toList = zs.map (fun n => UInt8.ofNat n.toNat) := by
 have key : ∀ (zs : List Int) (r : ByteArray), (zs.foldl (fun r n => r.push (UInt8.ofNat n.toNat)) r).data.toList = r.data.toList ++ zs.map (fun n => UInt8.ofNat n.toNat) := by
  intro zs
  induction zs with
  | nil => intro r; simp
  | cons z zs ih => intro r; rw [List.foldl_cons, ih]; simp [ByteArray.push]
 rw [ByteArray.toList_eq]
 unfold strOf
 rw [key]
 rfl
theorem strOf_inj : ∀ {xs ys : List Int}, (∀ z ∈ xs, 0 ≤ z ∧ z < 256) → (∀ z ∈ ys, 0 ≤ z ∧ z < 256) → (strOf xs).toList = (strOf ys).toList → xs = ys := by
 intro xs ys hx hy h
 rw [strOf_list, strOf_list] at h
 have hl : xs.length = ys.length := by simpa using congrArg List.length h
 apply List.ext_getElem hl
 intro i h1 h2
 have := congrArg (·[i]?) h
 simp only [List.getElem?_map, List.getElem?_eq_getElem h1, List.getElem?_eq_getElem h2, Option.map_some, Option.some.injEq] at this
 have a1 := hx _ (List.getElem_mem h1)
 have a2 := hy _ (List.getElem_mem h2)
 have := congrArg UInt8.toNat this
 simp only [UInt8.toNat_ofNat'] at this
 omega
theorem it_back {α : Type} {one : Rst → α × Rst} {enc : α → List Int} {ok : α → Prop} (p : Codec one enc ok) (q : List Int) (xs : List α) (h : ∀ x ∈ xs, ok x) : ∀ k, k ≤ xs.length → itG one (xs.flatMap enc ++ q, 0, false) k = (xs.take k, (xs.drop k).flatMap enc ++ q, 0, false) := by
 intro k
 induction k with
 | zero => intro _; simp [itG]
 | succ k ih =>
  intro hk
  have i := ih (by omega)
  have hd : xs.drop k = xs[k] :: xs.drop (k + 1) := List.drop_eq_getElem_cons (by omega)
  show ((itG one (xs.flatMap enc ++ q, 0, false) k).1 ++ [(one (itG one (xs.flatMap enc ++ q, 0, false) k).2).1], (one (itG one (xs.flatMap enc ++ q, 0, false) k).2).2) = _
  rw [i]
  show (xs.take k ++ [(one ((xs.drop k).flatMap enc ++ q, 0, false)).1], (one ((xs.drop k).flatMap enc ++ q, 0, false)).2) = _
  rw [hd, List.flatMap_cons, List.append_assoc, p.back _ _ (h _ (List.getElem_mem (by omega))), List.take_succ_eq_append_getElem (by omega)]
theorem it_form {α : Type} {one : Rst → α × Rst} {enc : α → List Int} {ok : α → Prop} (p : Codec one enc ok) (r : List Int) (hb : Bs r) : ∀ k, cod (itG one (r, 0, false) k).2 = 0 → ∃ xs q, xs.length = k ∧ (∀ x ∈ xs, ok x) ∧ itG one (r, 0, false) k = (xs, q, 0, false) ∧ r = xs.flatMap enc ++ q := by
 intro k
 induction k with
 | zero => intro _; exact ⟨[], r, rfl, (fun x hx => by cases hx), rfl, rfl⟩
 | succ k ih =>
  intro hc
  have hc : cod (one (itG one (r, 0, false) k).2).2 = 0 := hc
  have c0 : cod (itG one (r, 0, false) k).2 = 0 := by
   by_cases c : cod (itG one (r, 0, false) k).2 = 0
   ·exact c
   ·exact absurd ((p.bad _ c).symm.trans hc) c
  obtain ⟨xs, q, h1, h2, h3, h4⟩ := ih c0
  rw [h3] at hc
  obtain ⟨a, q', k1, k2, k3⟩ := p.form q (by rw [h4] at hb; exact hb.right) hc
  refine ⟨xs ++ [a], q', by simp [h1], fun x hx => ?_, ?_, by rw [h4, k3, List.flatMap_append]; simp⟩
  ·rcases List.mem_append.1 hx with g | g
   ·exact h2 x g
   ·rw [List.mem_singleton.1 g]; exact k1
  ·show ((itG one (r, 0, false) k).1 ++ [(one (itG one (r, 0, false) k).2).1], (one (itG one (r, 0, false) k).2).2) = _
   rw [h3]
   show (xs ++ [(one (q, 0, false)).1], (one (q, 0, false)).2) = _
   rw [k2]
theorem num_form {most : Int} {r : List Int} (hb : Bs r) (h : (numS r 0 most).2.2 = 0) : ∃ n q, (0 ≤ n ∧ n ≤ most ∧ n ≤ 9223372036854775807) ∧ numS r 0 most = (n, q, 0) ∧ r = putL n ++ q := by
 unfold numS at h ⊢
 rw [if_pos rfl] at h ⊢
 by_cases h1 : (numR r).2.2 = 0
 ·rw [if_pos h1] at h ⊢
  obtain ⟨k1, k2, k3, k4⟩ := numR_form r hb h1
  by_cases h2 : most < (numR r).1
  ·rw [if_pos h2] at h; exact absurd h (show (3 : Int) ≠ 0 by decide)
  ·rw [if_neg h2]
   refine ⟨(numR r).1, _, ⟨k3, by omega, k4⟩, rfl, ?_⟩
   rw [k1, List.take_append_drop]
 ·rw [if_neg h1] at h
  exact absurd h h1
theorem nu_codec (most : Int) (hm : most ≤ 9223372036854775807) : Codec (nuS most) putL (fun n => 0 ≤ n ∧ n ≤ most) :=
 Codec.simple (g := fun r e => numS r e most) (numS_bad most) (fun a q h => numS_back a most h.1 (by omega) h.2 q) (fun r hb h => by
  obtain ⟨n, q, k1, k2, k3⟩ := num_form hb h
  exact ⟨n, q, ⟨k1.1, k1.2.1⟩, k2, k3⟩)
theorem ki_codec (most : Int) (hm : most ≤ 9223372036854775807) : Codec (kiS most) putL (fun n => 1 ≤ n ∧ n ≤ most) := by
 refine ⟨fun s h => ?_, fun a q ha => ?_, fun r hb hc => ?_⟩
 ·obtain ⟨r, e, z⟩ := s
  cases z
  ·have h : e ≠ 0 := h
   have h1 := numS_bad most r e h
   have k : kdZ r e most false = false := by
    unfold kdZ
    rw [h1]
    have : (e == 0) = false := by simpa using h
    rw [this]
    simp
   show (if kdZ r e most false = true then 130 else (numS r e most).2.2) = e
   rw [k, if_neg (by decide)]
   exact h1
  ·have k : kdZ r e most true = true := by
    unfold kdZ
    simp
   show (if kdZ r e most true = true then 130 else (numS r e most).2.2) = 130
   rw [k, if_pos rfl]
 ·show ((numS (putL a ++ q) 0 most).1, (numS (putL a ++ q) 0 most).2.1, (numS (putL a ++ q) 0 most).2.2, kdZ (putL a ++ q) 0 most false) = _
  unfold kdZ
  rw [numS_back a most (by omega) (by omega) ha.2 q]
  have : (a == 0) = false := by simp; omega
  simp [this]
 ·have hc : cod ((numS r 0 most).2.1, (numS r 0 most).2.2, kdZ r 0 most false) = 0 := hc
  obtain ⟨z0, e0⟩ := cod0 hc
  obtain ⟨n, q, k1, k2, k3⟩ := num_form hb e0
  have hz : kdZ r 0 most false = false := z0
  unfold kdZ at z0
  rw [k2] at z0
  have hn : n ≠ 0 := fun q => by rw [q] at z0; simp at z0
  refine ⟨n, q, ⟨by omega, k1.2.1⟩, ?_, k3⟩
  show ((numS r 0 most).1, (numS r 0 most).2.1, (numS r 0 most).2.2, kdZ r 0 most false) = _
  rw [hz, k2]
theorem raw_back (n : Nat) (d q : List Int) (h : d.length = n) : rawS (d ++ q) 0 n = (d, q, 0) := by
 unfold rawS
 rw [if_pos rfl, if_neg (by omega), if_neg (by rw [List.length_append]; omega)]
 have e : (n : Int).toNat = d.length := by omega
 rw [e, List.take_left, List.drop_left]
theorem raw_form {n : Nat} {r : List Int} (h : (rawS r 0 n).2.2 = 0) : ∃ d q, d.length = n ∧ rawS r 0 n = (d, q, 0) ∧ r = d ++ q := by
 unfold rawS at h ⊢
 rw [if_pos rfl, if_neg (by omega)] at h ⊢
 by_cases h1 : (r.length : Int) < n
 ·rw [if_pos h1] at h; exact absurd h (show (10 : Int) ≠ 0 by decide)
 ·rw [if_neg h1]
  exact ⟨_, _, by rw [List.length_take]; omega, rfl, (List.take_append_drop _ _).symm⟩
theorem pad_codec (n : Nat) (m : Int) (hm : m = (n : Int)) : Codec (fun s => (padN n (rawS s.1 s.2.1 m).1, (rawS s.1 s.2.1 m).2.1, (rawS s.1 s.2.1 m).2.2, s.2.2)) (fun d => d) (fun d => d.length = n ∧ Bs d) := by
 subst hm
 exact Codec.simple (g := fun r e => (padN n (rawS r e n).1, (rawS r e n).2)) (fun r e h => rawS_bad n r e h) (fun a q h => by
  show (padN n (rawS (a ++ q) 0 n).1, (rawS (a ++ q) 0 n).2) = _
  rw [raw_back n a q h.1]
  show (padN n a, _) = _
  unfold padN
  rw [if_pos h.1]) (fun r hb h => by
  obtain ⟨d, q, k1, k2, k3⟩ := raw_form (n := n) h
  refine ⟨d, q, ⟨k1, by rw [k3] at hb; exact hb.left⟩, ?_, k3⟩
  show (padN n (rawS r 0 n).1, (rawS r 0 n).2) = _
  rw [k2]
  show (padN n d, _) = _
  unfold padN
  rw [if_pos k1])
theorem strL_strOf {zs : List Int} (h : ∀ z ∈ zs, 0 ≤ z ∧ z < 256) : strL (strOf zs) = zs := strOf_inj (strL_byte _) h (by rw [strOf_strL])
theorem tx_codec (most : Int) (hm : most ≤ 1099511627) : Codec (txS most) textL (fun s => (s.size : Int) ≤ most) :=
 Codec.simple (g := fun r e => (strOf (textS r e most).1, (textS r e most).2)) (fun r e h => textS_bad most r e h) (fun s q h => by
  show (strOf (textS (textL s ++ q) 0 most).1, (textS (textL s ++ q) 0 most).2) = _
  rw [textS_back s most (by omega) h q]
  show (strOf (strL s), _) = _
  rw [strOf_strL]) (fun r hb h => by
  have h : (textS r 0 most).2.2 = 0 := h
  have hn : (numS r 0 9223372036854775807).2.2 = 0 := by
   by_cases c : (numS r 0 9223372036854775807).2.2 = 0
   ·exact c
   ·unfold textS at h; rw [if_neg c] at h; exact absurd h c
  obtain ⟨n, q, k1, k2, k3⟩ := num_form hb hn
  show ∃ a q, _ ∧ (strOf (textS r 0 most).1, (textS r 0 most).2) = _ ∧ _
  unfold textS at h ⊢
  rw [if_pos hn, k2] at h ⊢
  by_cases c1 : most < n
  ·rw [if_pos c1] at h; exact absurd h (show (3 : Int) ≠ 0 by decide)
  ·rw [if_neg c1] at h ⊢
   by_cases c2 : (q.length : Int) < n
   ·rw [if_pos c2] at h; exact absurd h (show (10 : Int) ≠ 0 by decide)
   ·rw [if_neg c2]
    have hl : (q.take n.toNat).length = n.toNat := by rw [List.length_take]; omega
    have hbt : Bs (q.take n.toNat) := (show Bs q from by rw [k3] at hb; exact hb.right).subT _
    have hsz : (strOf (q.take n.toNat)).size = n.toNat := by rw [strOf_size, hl]
    refine ⟨strOf (q.take n.toNat), q.drop n.toNat, by omega, rfl, ?_⟩
    unfold textL
    rw [strL_strOf hbt, hsz, List.append_assoc, List.take_append_drop, show ((n.toNat : Nat) : Int) = n by omega]
    exact k3)
theorem Codec.as {α : Type} {f f' : Rst → α × Rst} {enc enc' : α → List Int} {ok ok' : α → Prop} (p : Codec f enc ok) (hf : f' = f) (he : ∀ a, enc' a = enc a) (ho : ∀ a, ok' a ↔ ok a) : Codec f' enc' ok' := by
 subst hf
 obtain rfl : enc' = enc := funext he
 obtain rfl : ok' = ok := funext fun a => propext (ho a)
 exact p
theorem si_codec : Codec siS sgL sgOk :=
 (Codec.map (fun (c : Int × List Int) => (⟨c.1, c.2⟩ : Sg)) (fun g => (g.n, g.t)) (fun _ => rfl) (Codec.bind (nu_codec 64 (by decide)) (pad_codec 16 16 rfl))).as rfl (fun _ => rfl) (fun a => ⟨fun h => ⟨h, rfl⟩, fun h => h.1⟩)
theorem en_codec : Codec enS evL evOk :=
 (Codec.map (fun (c : Int × (ByteArray × List Int)) => (⟨c.1, c.2.1, c.2.2⟩ : Ev)) (fun g => (g.n, (g.s, g.t))) (fun _ => rfl) (Codec.bind (nu_codec 64 (by decide)) (Codec.bind (tx_codec 4194304 (by decide)) (pad_codec 16 16 rfl)))).as rfl (fun _ => rfl) (fun a => ⟨fun h => ⟨h, rfl⟩, fun h => h.1⟩)
theorem vo_codec : Codec voS vtL vtOk :=
 (Codec.map (fun (c : Int × (Int × (Int × (Int × List Int)))) => (⟨c.1, c.2.1, c.2.2.1, c.2.2.2.1, c.2.2.2.2⟩ : Vt)) (fun x => (x.k, (x.e, (x.v, (x.s, x.d))))) (fun _ => rfl) (Codec.bind (ki_codec 2 (by decide)) (Codec.bind (nu_codec 1048576 (by decide)) (Codec.bind (nu_codec 1099511627776 (by decide)) (Codec.bind (nu_codec 1099511627776 (by decide)) (pad_codec 32 32 rfl)))))).as rfl (fun x => by simp [vtL, List.append_assoc]) (fun a => ⟨fun h => ⟨h, rfl⟩, fun h => h.1⟩)
theorem ls_codec {α : Type} {one : Rst → α × Rst} {enc : α → List Int} {ok : α → Prop} (most : Int) (hm : most ≤ 1000) (p : Codec one enc ok) : Codec (lsS most one) (fun xs => putL xs.length ++ xs.flatMap enc) (fun xs => (xs.length : Int) ≤ most ∧ ∀ x ∈ xs, ok x) := by
 have pn := nu_codec most (by omega)
 refine ⟨fun s h => ?_, fun xs q h => ?_, fun r hb hc => ?_⟩
 ·have c := pn.bad s h
  show cod (itG one (nuS most s).2 _).2 = _
  rw [itG_bad p.bad (by rw [c]; exact h), c]
 ·show itG one (nuS most (putL xs.length ++ xs.flatMap enc ++ q, 0, false)).2 (nuS most (putL xs.length ++ xs.flatMap enc ++ q, 0, false)).1.toNat = _
  rw [List.append_assoc, pn.back _ _ ⟨by omega, h.1⟩]
  show itG one (xs.flatMap enc ++ q, 0, false) (xs.length : Int).toNat = _
  rw [Int.toNat_natCast, it_back p q xs h.2 xs.length (Nat.le_refl _)]
  simp
 ·have hc : cod (itG one (nuS most (r, 0, false)).2 (nuS most (r, 0, false)).1.toNat).2 = 0 := hc
  have c0 : cod (nuS most (r, 0, false)).2 = 0 := by
   by_cases c : cod (nuS most (r, 0, false)).2 = 0
   ·exact c
   ·exact absurd ((itG_bad p.bad c _).symm.trans hc) c
  obtain ⟨n, q, k1, k2, k3⟩ := pn.form r hb c0
  rw [k2] at hc
  obtain ⟨xs, q', h1, h2, h3, h4⟩ := it_form p q (by rw [k3] at hb; exact hb.right) _ hc
  have hn : ((xs.length : Nat) : Int) = n := by rw [h1]; have := k1.1; omega
  refine ⟨xs, q', ⟨by rw [hn]; exact k1.2, h2⟩, ?_, by rw [hn, k3, h4, List.append_assoc]⟩
  show itG one (nuS most (r, 0, false)).2 (nuS most (r, 0, false)).1.toNat = _
  rw [k2]
  exact h3
theorem Codec.same {α : Type} {f f' : Rst → α × Rst} {enc : α → List Int} {ok : α → Prop} (p : Codec f enc ok) (h2 : ∀ s, (f' s).2 = (f s).2) (h1 : ∀ r, cod (f (r, 0, false)).2 = 0 → (f' (r, 0, false)).1 = (f (r, 0, false)).1) : Codec f' enc ok := by
 refine ⟨fun s h => by rw [h2]; exact p.bad s h, fun a q h => ?_, fun r hb hc => ?_⟩
 ·have e := p.back a q h
  have c0 : cod (f (enc a ++ q, 0, false)).2 = 0 := by rw [e]; rfl
  rw [← e]
  exact Prod.ext (h1 _ c0) (h2 _)
 ·rw [h2] at hc
  obtain ⟨a, q, k1, k2, k3⟩ := p.form r hb hc
  exact ⟨a, q, k1, by rw [← k2]; exact Prod.ext (h1 _ hc) (h2 _), k3⟩
def rqS (s : Rst) : Rq × Rst := ((rqOf (rgetR s.1 s.2.1)).un, (rgetR s.1 s.2.1).rest, (rgetR s.1 s.2.1).err, s.2.2)
theorem rq_codec : Codec rqS rqL rqOk := by
 refine Codec.same (f := fun s => _) ((Codec.map (fun (c : Int × (Int × (ByteArray × List Int))) => (⟨c.1, c.2.1, c.2.2.1, c.2.2.2⟩ : Rq)) (fun r => (r.c, (r.n, (r.s, r.t)))) (fun _ => rfl) (Codec.bind (nu_codec 8 (by decide)) (Codec.bind (nu_codec 1099511627776 (by decide)) (Codec.bind (tx_codec 64 (by decide)) (pad_codec 16 16 rfl))))).as rfl (fun r => by simp [rqL, BRq.bytes, BRq.of, List.append_assoc]) (fun a => ⟨fun h => ⟨h, rfl⟩, fun h => h.1⟩)) (fun _ => rfl) (fun r hc => ?_)
 have he : (rgetR r 0).err = 0 := (cod0 (z := false) hc).2
 have e0 : rqOf (rgetR r 0) = ⟨(rgetR r 0).c, (rgetR r 0).n, strOf (rgetR r 0).s, (rgetR r 0).t⟩ := by
  unfold rqOf
  rw [if_pos he]
 show (rqOf (rgetR r 0)).un = _
 rw [e0]
 have hl := (rawS_16 _ _).2 (show (rawS (textS (numS (numS r 0 8).2.1 (numS r 0 8).2.2 1099511627776).2.1 (numS (numS r 0 8).2.1 (numS r 0 8).2.2 1099511627776).2.2 64).2.1 (textS (numS (numS r 0 8).2.1 (numS r 0 8).2.2 1099511627776).2.1 (numS (numS r 0 8).2.1 (numS r 0 8).2.2 1099511627776).2.2 64).2.2 16).2.2 = 0 from he)
 have ep : padN 16 (rawS (textS (numS (numS r 0 8).2.1 (numS r 0 8).2.2 1099511627776).2.1 (numS (numS r 0 8).2.1 (numS r 0 8).2.2 1099511627776).2.2 64).2.1 (textS (numS (numS r 0 8).2.1 (numS r 0 8).2.2 1099511627776).2.1 (numS (numS r 0 8).2.1 (numS r 0 8).2.2 1099511627776).2.2 64).2.2 16).1 = (rawS (textS (numS (numS r 0 8).2.1 (numS r 0 8).2.2 1099511627776).2.1 (numS (numS r 0 8).2.1 (numS r 0 8).2.2 1099511627776).2.2 64).2.1 (textS (numS (numS r 0 8).2.1 (numS r 0 8).2.2 1099511627776).2.1 (numS (numS r 0 8).2.1 (numS r 0 8).2.2 1099511627776).2.2 64).2.2 16).1 := by
  unfold padN
  rw [if_pos hl]
 show (⟨_, _, _, (rawS (textS (numS (numS r 0 8).2.1 (numS r 0 8).2.2 1099511627776).2.1 (numS (numS r 0 8).2.1 (numS r 0 8).2.2 1099511627776).2.2 64).2.1 (textS (numS (numS r 0 8).2.1 (numS r 0 8).2.2 1099511627776).2.1 (numS (numS r 0 8).2.1 (numS r 0 8).2.2 1099511627776).2.2 64).2.2 16).1⟩ : Rq) = ⟨_, _, _, padN 16 (rawS (textS (numS (numS r 0 8).2.1 (numS r 0 8).2.2 1099511627776).2.1 (numS (numS r 0 8).2.1 (numS r 0 8).2.2 1099511627776).2.2 64).2.1 (textS (numS (numS r 0 8).2.1 (numS r 0 8).2.2 1099511627776).2.1 (numS (numS r 0 8).2.1 (numS r 0 8).2.2 1099511627776).2.2 64).2.2 16).1⟩
 rw [ep]
 rfl
theorem it_getRs (k : Nat) (r : List Int) (e : Int) (z : Bool) : itG rqS (r, e, z) k = ((getRs k r e).1.map BRq.un, (getRs k r e).2.1, (getRs k r e).2.2, z) := by
 induction k with
 | zero => rfl
 | succ k ih =>
  show ((itG rqS (r, e, z) k).1 ++ [(rqS (itG rqS (r, e, z) k).2).1], (rqS (itG rqS (r, e, z) k).2).2) = _
  rw [ih]
  show ((getRs k r e).1.map BRq.un ++ [(rqOf (rgetR (getRs k r e).2.1 (getRs k r e).2.2)).un], _) = (((getRs k r e).1 ++ [rqOf (rgetR (getRs k r e).2.1 (getRs k r e).2.2)]).map BRq.un, _)
  rw [List.map_append]
  rfl
theorem ba_codec : Codec baS baL baOk := by
 refine ⟨fun s h => ?_, fun c t hc => ?_, fun r hb hc => ?_⟩
 ·obtain ⟨r, e, z⟩ := s
  cases z
  ·have h : e ≠ 0 := h
   show (getB r e).err = e
   have h1 := numS_bad 5 r e h
   have h2 : (numS r e 5).1 = 0 := numS_zero (by rw [h1]; exact h)
   unfold getB
   rw [if_pos h2]
   exact h1
  ·rfl
 ·obtain ⟨q, rs⟩ := c
  obtain ⟨h1, h2, h3⟩ := hc
  show (((getB (batL q (rs.map BRq.of) ++ t) 0).q, (getB (batL q (rs.map BRq.of) ++ t) 0).rs.map BRq.un), (getB (batL q (rs.map BRq.of) ++ t) 0).rest, (getB (batL q (rs.map BRq.of) ++ t) 0).err, false) = _
  cases q
  ·have e : batL false (rs.map BRq.of) = putL ((rs.length : Int) + 1) ++ rs.flatMap rqL := by
    unfold batL
    rw [if_neg (by decide), List.length_map, List.flatMap_map]
    rfl
   have h2 : rs.length ≤ 4 := h2
   rw [e, List.append_assoc]
   have hn := numS_back ((rs.length : Int) + 1) 5 (by omega) (by omega) (by omega) (rs.flatMap rqL ++ t)
   have hi := it_back rq_codec t rs h3 rs.length (Nat.le_refl _)
   rw [it_getRs] at hi
   simp only [List.take_length, List.drop_length, List.flatMap_nil, List.nil_append, Prod.mk.injEq, and_true] at hi
   obtain ⟨i1, i2, i3⟩ := hi
   unfold getB
   rw [hn]
   simp only
   rw [if_neg (by omega), show ((rs.length : Int) + 1 - 1).toNat = rs.length by omega, if_pos i3]
   simp only
   rw [i1, i2, i3]
  ·obtain rfl : rs = [] := h1 rfl
   have hn := numS_back 0 5 (by omega) (by omega) (by omega) t
   have e : batL true (([] : List Rq).map BRq.of) = putL 0 := rfl
   rw [e]
   unfold getB
   rw [hn]
   rfl
 ·have he : (getB r 0).err = 0 := (cod0 (z := false) hc).2
  show ∃ a q, _ ∧ (((getB r 0).q, (getB r 0).rs.map BRq.un), (getB r 0).rest, (getB r 0).err, false) = _ ∧ _
  have hn : (numS r 0 5).2.2 = 0 := by
   by_cases c : (numS r 0 5).2.2 = 0
   ·exact c
   ·have h2 : (numS r 0 5).1 = 0 := numS_zero c
    unfold getB at he
    rw [if_pos h2] at he
    exact absurd he c
  obtain ⟨n, q, k1, k2, k3⟩ := num_form hb hn
  unfold getB at he ⊢
  rw [k2] at he ⊢
  simp only at he ⊢
  by_cases h0 : n = 0
  ·subst h0
   rw [if_pos rfl]
   exact ⟨(true, []), q, ⟨(fun _ => rfl), (by simp), (fun r hr => by cases hr)⟩, rfl, k3⟩
  ·rw [if_neg h0] at he ⊢
   have he : (getRs (n - 1).toNat q 0).2.2 = 0 := he
   have hc2 : cod (itG rqS (q, 0, false) (n - 1).toNat).2 = 0 := by rw [it_getRs]; exact he
   obtain ⟨xs, q', j1, j2, j3, j4⟩ := it_form rq_codec q (by rw [k3] at hb; exact hb.right) _ hc2
   rw [it_getRs] at j3
   simp only [Prod.mk.injEq, and_true] at j3
   obtain ⟨i1, i2, i3⟩ := j3
   refine ⟨(false, xs), q', ⟨(fun e => by cases e), (by show xs.length ≤ 4; omega), j2⟩, ?_, ?_⟩
   ·rw [if_pos he]
    simp only
    rw [i1, i2, i3]
   ·show r = batL false (xs.map BRq.of) ++ q'
    unfold batL
    rw [if_neg (by decide), List.length_map, List.flatMap_map, k3, j4, List.append_assoc, show ((xs.length : Nat) : Int) + 1 = n by omega]
    rfl
theorem ce_codec : Codec ceS (fun c => ctL c.1 c.2) ceOk := (Codec.bind vo_codec (ls_codec 64 (by decide) si_codec)).as rfl (fun _ => rfl) (fun _ => Iff.rfl)
theorem he_codec : Codec heS hpL hpOk := (Codec.map (fun (c : (Bool × List Rq) × (Vt × List Sg)) => (⟨c.1.1, c.1.2, c.2.1, c.2.2⟩ : Hp)) (fun h => ((h.q, h.rs), (h.vt, h.sg))) (fun _ => rfl) (Codec.bind ba_codec ce_codec)).as rfl (fun _ => rfl) (fun a => ⟨fun h => ⟨h, rfl⟩, fun h => h.1⟩)
theorem ch_codec : Codec chS cpL cpOk := (Codec.map (fun (c : Int × (Int × (Int × List Hp))) => (⟨c.1, c.2.1, c.2.2.1, c.2.2.2⟩ : Cp)) (fun c => (c.e, (c.l, (c.v, c.he)))) (fun _ => rfl) (Codec.bind (nu_codec 1048576 (by decide)) (Codec.bind (nu_codec 64 (by decide)) (Codec.bind (nu_codec 1099511627776 (by decide)) (ls_codec 4 (by decide) he_codec))))).as rfl (fun _ => rfl) (fun a => ⟨fun h => ⟨h, rfl⟩, fun h => h.1⟩)
theorem mg1_codec : Codec mg1 body1 kok1 := (Codec.map onlyP1 (fun m => (m.e, (m.s, (m.q, m.rs)))) (fun _ => rfl) (Codec.bind (nu_codec 1048576 (by decide)) (Codec.bind (nu_codec 1099511627776 (by decide)) ba_codec))).as rfl (fun _ => rfl) (fun _ => Iff.rfl)
theorem mg2_codec : Codec mg2 body2 kok2 := (Codec.map onlyP2 (fun m => m.vt) (fun _ => rfl) vo_codec).as rfl (fun _ => rfl) (fun _ => Iff.rfl)
theorem mg3_codec : Codec mg3 body3 kok3 := (Codec.map onlyP3 (fun m => ⟨m.ce, m.cl, m.cv, m.he⟩) (fun _ => rfl) ch_codec).as rfl (fun _ => rfl) (fun _ => Iff.rfl)
theorem mg4_codec : Codec mg4 body4 kok4 := (Codec.map onlyP4 (fun m => (m.e, (m.l, (m.v, m.ne)))) (fun _ => rfl) (Codec.bind (nu_codec 1048576 (by decide)) (Codec.bind (nu_codec 64 (by decide)) (Codec.bind (nu_codec 1099511627776 (by decide)) (ls_codec 64 (by decide) en_codec))))).as rfl (fun _ => rfl) (fun _ => Iff.rfl)
theorem mg5_codec : Codec mg5 body5 kok5 := (Codec.map onlyP5 (fun m => (m.e, m.d)) (fun _ => rfl) (Codec.bind (nu_codec 1048576 (by decide)) (pad_codec 32 32 rfl))).as rfl (fun _ => rfl) (fun _ => Iff.rfl)
theorem mg6_codec : Codec mg6 body6 kok6 := (Codec.map onlyP6 (fun m => (m.e, m.s)) (fun _ => rfl) (Codec.bind (nu_codec 1048576 (by decide)) (nu_codec 1099511627776 (by decide)))).as rfl (fun _ => rfl) (fun _ => Iff.rfl)
theorem mg7_codec : Codec mg7 body7 kok7 := (Codec.map onlyP7 (fun m => ((m.q, m.rs), (m.ct, m.cs))) (fun _ => rfl) (Codec.bind ba_codec ce_codec)).as rfl (fun _ => rfl) (fun _ => Iff.rfl)
theorem mg8_codec : Codec mg8 body8 kok8 := (Codec.map onlyP8 (fun m => (m.st, m.sg)) (fun _ => rfl) (Codec.bind (tx_codec 4194304 (by decide)) (ls_codec 64 (by decide) si_codec))).as rfl (fun _ => rfl) (fun _ => Iff.rfl)
theorem done0 (q : List Int) : faE (q, 0, false) = if q.length = 0 then 0 else 12 := rfl
theorem mgS_back {m : Mp} (h : m.good) (q : List Int) : mgS (m.bytes ++ q, 0, false) = (m, q, 0, false) := by
 have hk : 1 ≤ m.k ∧ m.k ≤ 8 := by
  rcases h with h | h | h | h | h | h | h | h <;> (have := h.1; omega)
 have kb := (ki_codec 8 (by decide)).back m.k
 unfold mgS Mp.bytes
 rw [List.append_assoc, kb _ hk]
 simp only
 rcases h with ⟨h, k⟩ | ⟨h, k⟩ | ⟨h, k⟩ | ⟨h, k⟩ | ⟨h, k⟩ | ⟨h, k⟩ | ⟨h, k⟩ | ⟨h, k⟩
 ·rw [h]
  exact mg1_codec.back m q k
 ·rw [h]
  exact mg2_codec.back m q k
 ·rw [h]
  exact mg3_codec.back m q k
 ·rw [h]
  exact mg4_codec.back m q k
 ·rw [h]
  exact mg5_codec.back m q k
 ·rw [h]
  exact mg6_codec.back m q k
 ·rw [h]
  exact mg7_codec.back m q k
 ·rw [h]
  exact mg8_codec.back m q k
theorem dec_more {m : Mp} (h : m.good) (q : List Int) : decS (m.bytes ++ q) = if q.length = 0 then (m, 0) else (Mp.none, 12) := by
 unfold decS
 rw [mgS_back h q, done0]
 by_cases c : q.length = 0
 ·rw [if_pos c, if_pos rfl, if_pos c]
 ·rw [if_neg c, if_neg (by decide), if_neg c]
theorem dec_back {m : Mp} (h : m.good) : decS m.bytes = (m, 0) := by
 have := dec_more h []
 rw [List.append_nil] at this
 exact this
theorem dec_form {zs : List Int} (hb : Bs zs) (h : (decS zs).2 = 0) : (decS zs).1.good ∧ zs = (decS zs).1.bytes := by
 have hf : faE (mgS (zs, 0, false)).2 = 0 := by
  by_cases c : faE (mgS (zs, 0, false)).2 = 0
  ·exact c
  ·unfold decS at h
   rw [if_neg c] at h
   exact h
 have hd : decS zs = ((mgS (zs, 0, false)).1, 0) := by
  unfold decS
  rw [if_pos hf]
 rw [hd]
 simp only
 have hc : cod (mgS (zs, 0, false)).2 = 0 := by
  generalize (mgS (zs, 0, false)).2 = s at hf
  obtain ⟨r, e, z⟩ := s
  cases z
  ·show e = 0
   have hf : doneE r e = 0 := hf
   unfold doneE at hf
   by_cases c : e = 0
   ·exact c
   ·rw [if_neg c] at hf; exact hf
  ·exact absurd hf (show (130 : Int) ≠ 0 by decide)
 have hr : (mgS (zs, 0, false)).2.1 = [] := by
  generalize (mgS (zs, 0, false)).2 = s at hf hc
  obtain ⟨r, e, z⟩ := s
  obtain ⟨rfl, rfl⟩ := cod0 hc
  rw [done0] at hf
  by_cases c : r.length = 0
  ·exact List.eq_nil_of_length_eq_zero c
  ·rw [if_neg c] at hf; exact absurd hf (by decide)
 have hbad : ∀ k s, cod s ≠ 0 → cod (mgF k s).2 = cod s := fun k s hs => by
  unfold mgF
  by_cases n1 : k = 1
  ·rw [if_pos n1]; exact mg1_codec.bad s hs
  rw [if_neg n1]
  by_cases n2 : k = 2
  ·rw [if_pos n2]; exact mg2_codec.bad s hs
  rw [if_neg n2]
  by_cases n3 : k = 3
  ·rw [if_pos n3]; exact mg3_codec.bad s hs
  rw [if_neg n3]
  by_cases n4 : k = 4
  ·rw [if_pos n4]; exact mg4_codec.bad s hs
  rw [if_neg n4]
  by_cases n5 : k = 5
  ·rw [if_pos n5]; exact mg5_codec.bad s hs
  rw [if_neg n5]
  by_cases n6 : k = 6
  ·rw [if_pos n6]; exact mg6_codec.bad s hs
  rw [if_neg n6]
  by_cases n7 : k = 7
  ·rw [if_pos n7]; exact mg7_codec.bad s hs
  rw [if_neg n7]
  by_cases n8 : k = 8
  ·rw [if_pos n8]; exact mg8_codec.bad s hs
  rw [if_neg n8]
 unfold mgS at hc hr ⊢
 have ck : cod (kiS 8 (zs, 0, false)).2 = 0 := by
  by_cases c : cod (kiS 8 (zs, 0, false)).2 = 0
  ·exact c
  ·exact absurd ((hbad _ _ c).symm.trans hc) c
 obtain ⟨k, q, k1, k2, k3⟩ := (ki_codec 8 (by decide)).form zs hb ck
 rw [k2] at hc hr ⊢
 simp only at hc hr ⊢
 have hbq : Bs q := by rw [k3] at hb; exact hb.right
 unfold mgF at hc hr ⊢
 by_cases n1 : k = 1
 ·rw [if_pos n1] at hc hr ⊢
  obtain ⟨m, q', j1, j2, j3⟩ := mg1_codec.form q hbq hc
  rw [j2] at hr ⊢
  simp only at hr ⊢
  have hmk : m.k = 1 := by rw [← j1.2]; rfl
  refine ⟨.inl ⟨hmk, j1⟩, ?_⟩
  have eb : m.bytes = putL 1 ++ body1 m := by unfold Mp.bytes; rw [hmk]; rfl
  rw [eb, k3, j3, hr, List.append_nil, n1]
 rw [if_neg n1] at hc hr ⊢
 by_cases n2 : k = 2
 ·rw [if_pos n2] at hc hr ⊢
  obtain ⟨m, q', j1, j2, j3⟩ := mg2_codec.form q hbq hc
  rw [j2] at hr ⊢
  simp only at hr ⊢
  have hmk : m.k = 2 := by rw [← j1.2]; rfl
  refine ⟨.inr (.inl ⟨hmk, j1⟩), ?_⟩
  have eb : m.bytes = putL 2 ++ body2 m := by unfold Mp.bytes; rw [hmk]; rfl
  rw [eb, k3, j3, hr, List.append_nil, n2]
 rw [if_neg n2] at hc hr ⊢
 by_cases n3 : k = 3
 ·rw [if_pos n3] at hc hr ⊢
  obtain ⟨m, q', j1, j2, j3⟩ := mg3_codec.form q hbq hc
  rw [j2] at hr ⊢
  simp only at hr ⊢
  have hmk : m.k = 3 := by rw [← j1.2]; rfl
  refine ⟨.inr (.inr (.inl ⟨hmk, j1⟩)), ?_⟩
  have eb : m.bytes = putL 3 ++ body3 m := by unfold Mp.bytes; rw [hmk]; rfl
  rw [eb, k3, j3, hr, List.append_nil, n3]
 rw [if_neg n3] at hc hr ⊢
 by_cases n4 : k = 4
 ·rw [if_pos n4] at hc hr ⊢
  obtain ⟨m, q', j1, j2, j3⟩ := mg4_codec.form q hbq hc
  rw [j2] at hr ⊢
  simp only at hr ⊢
  have hmk : m.k = 4 := by rw [← j1.2]; rfl
  refine ⟨.inr (.inr (.inr (.inl ⟨hmk, j1⟩))), ?_⟩
  have eb : m.bytes = putL 4 ++ body4 m := by unfold Mp.bytes; rw [hmk]; rfl
  rw [eb, k3, j3, hr, List.append_nil, n4]
 rw [if_neg n4] at hc hr ⊢
 by_cases n5 : k = 5
 ·rw [if_pos n5] at hc hr ⊢
  obtain ⟨m, q', j1, j2, j3⟩ := mg5_codec.form q hbq hc
  rw [j2] at hr ⊢
  simp only at hr ⊢
  have hmk : m.k = 5 := by rw [← j1.2]; rfl
  refine ⟨.inr (.inr (.inr (.inr (.inl ⟨hmk, j1⟩)))), ?_⟩
  have eb : m.bytes = putL 5 ++ body5 m := by unfold Mp.bytes; rw [hmk]; rfl
  rw [eb, k3, j3, hr, List.append_nil, n5]
 rw [if_neg n5] at hc hr ⊢
 by_cases n6 : k = 6
 ·rw [if_pos n6] at hc hr ⊢
  obtain ⟨m, q', j1, j2, j3⟩ := mg6_codec.form q hbq hc
  rw [j2] at hr ⊢
  simp only at hr ⊢
  have hmk : m.k = 6 := by rw [← j1.2]; rfl
  refine ⟨.inr (.inr (.inr (.inr (.inr (.inl ⟨hmk, j1⟩))))), ?_⟩
  have eb : m.bytes = putL 6 ++ body6 m := by unfold Mp.bytes; rw [hmk]; rfl
  rw [eb, k3, j3, hr, List.append_nil, n6]
 rw [if_neg n6] at hc hr ⊢
 by_cases n7 : k = 7
 ·rw [if_pos n7] at hc hr ⊢
  obtain ⟨m, q', j1, j2, j3⟩ := mg7_codec.form q hbq hc
  rw [j2] at hr ⊢
  simp only at hr ⊢
  have hmk : m.k = 7 := by rw [← j1.2]; rfl
  refine ⟨.inr (.inr (.inr (.inr (.inr (.inr (.inl ⟨hmk, j1⟩)))))), ?_⟩
  have eb : m.bytes = putL 7 ++ body7 m := by unfold Mp.bytes; rw [hmk]; rfl
  rw [eb, k3, j3, hr, List.append_nil, n7]
 rw [if_neg n7] at hc hr ⊢
 by_cases n8 : k = 8
 ·rw [if_pos n8] at hc hr ⊢
  obtain ⟨m, q', j1, j2, j3⟩ := mg8_codec.form q hbq hc
  rw [j2] at hr ⊢
  simp only at hr ⊢
  have hmk : m.k = 8 := by rw [← j1.2]; rfl
  refine ⟨.inr (.inr (.inr (.inr (.inr (.inr (.inr (⟨hmk, j1⟩))))))), ?_⟩
  have eb : m.bytes = putL 8 ++ body8 m := by unfold Mp.bytes; rw [hmk]; rfl
  rw [eb, k3, j3, hr, List.append_nil, n8]
 rw [if_neg n8] at hc hr ⊢
 omega
theorem done_0 {r : List Int} {e : Int} (h : doneE r e = 0) : e = 0 ∧ r = [] := by
 unfold doneE at h
 split at h
 ·rename_i he
  split at h
  ·rename_i hl
   exact ⟨he, List.eq_nil_of_length_eq_zero hl⟩
  ·cases h
 ·rename_i he
  exact absurd h he
def raS (s : Rst) : (Int × (Int × (Bool × List Rq))) × Rst := (((nuS 1099511627776 s).1, ((nuS 1099511627776 (nuS 1099511627776 s).2).1, (baS (nuS 1099511627776 (nuS 1099511627776 s).2).2).1)), (baS (nuS 1099511627776 (nuS 1099511627776 s).2).2).2)
def raL (c : Int × (Int × (Bool × List Rq))) : List Int := putL c.1 ++ (putL c.2.1 ++ baL c.2.2)
theorem ra_codec : Codec raS raL (fun c => (0 ≤ c.1 ∧ c.1 ≤ 1099511627776) ∧ ((0 ≤ c.2.1 ∧ c.2.1 ≤ 1099511627776) ∧ baOk c.2.2)) :=
 (Codec.bind (nu_codec 1099511627776 (by decide)) (Codec.bind (nu_codec 1099511627776 (by decide)) ba_codec)).as rfl (fun _ => rfl) (fun _ => Iff.rfl)
def rvS (s : Rst) : (Int × Int) × Rst := (((nuS 64 s).1, (nuS 1099511627776 (nuS 64 s).2).1), (nuS 1099511627776 (nuS 64 s).2).2)
theorem rv_codec : Codec rvS (fun c => putL c.1 ++ putL c.2) (fun c => (0 ≤ c.1 ∧ c.1 ≤ 64) ∧ (0 ≤ c.2 ∧ c.2 ≤ 1099511627776)) :=
 (Codec.bind (nu_codec 64 (by decide)) (nu_codec 1099511627776 (by decide))).as rfl (fun _ => rfl) (fun _ => Iff.rfl)
theorem krA_eq (r : List Int) (e : Int) : krA (r, e) = (({ Rp.zero 1 with s := (raS (r, e, false)).1.1, v := (raS (r, e, false)).1.2.1, q := (raS (r, e, false)).1.2.2.1, rs := (raS (r, e, false)).1.2.2.2 }, ⟨#[]⟩), (raS (r, e, false)).2.1, (raS (r, e, false)).2.2.1) := rfl
theorem krV_eq (r : List Int) (e : Int) : krV (r, e) = (({ Rp.zero 3 with l := (rvS (r, e, false)).1.1, v := (rvS (r, e, false)).1.2 }, ⟨#[]⟩), (rvS (r, e, false)).2.1, (rvS (r, e, false)).2.2.1) := rfl
theorem krT_eq (k : Int) (r : List Int) (e : Int) : krT k (r, e) = ((Rp.zero k, (txS 4194304 (r, e, false)).1), (txS 4194304 (r, e, false)).2.1, (txS 4194304 (r, e, false)).2.2.1) := rfl
theorem raS_z (r : List Int) (e : Int) : (raS (r, e, false)).2.2.2 = false := rfl
theorem rvS_z (r : List Int) (e : Int) : (rvS (r, e, false)).2.2.2 = false := rfl
theorem txS_z (r : List Int) (e : Int) : (txS 4194304 (r, e, false)).2.2.2 = false := rfl
theorem cod_f {s : Rst} (hz : s.2.2 = false) (h : s.2.1 = 0) : cod s = 0 := by
 unfold cod
 rw [hz]
 simpa using h
theorem kr_kind {k : Int} (h : 0 ≤ k ∧ k ≤ 5) (q : List Int) : xnuS 5 (putL k ++ q, 0) = (k, q, 0) := numS_back k 5 h.1 (by omega) h.2 q
theorem Rc.pure_told {r : Rc} {w : World} (h : r.ct.ok) (am : r.At w) (hg : r.good = true) : r.told.pure.good ∧ (0 ≤ r.v ∧ r.v ≤ 1099511627776) ∧ (1 ≤ r.k ∧ r.k ≤ 5) ∧ r.pure = r.bare.pure := by
 unfold Rc.good at hg
 rw [Bool.and_eq_true] at hg
 have hp := good_pure (Rc.told_ok h) (Rc.told_at am) hg.2
 obtain ⟨hk, hb⟩ := Rc.told_bare hp
 exact ⟨hp, of_decide_eq_true hg.1, hk, hb⟩
theorem kdec_back {r : Rc} {w : World} (h : r.ct.ok) (am : r.At w) (hg : r.good = true) (hl : r.told.bytes.length ≤ 40000) : kdec r.bytes = (r.pure, 0) := by
 obtain ⟨hp, hv, hk, hb⟩ := Rc.pure_told h am hg
 obtain ⟨hby, hbs⟩ := Rc.told_bs h am hg
 have hkk := Rc.told_k r
 rw [kdec_fin]
 rcases mkK_cases r.k with ⟨e, m⟩ | ⟨e, m⟩ | ⟨e, m⟩ | ⟨e, m⟩ | ⟨e, m⟩ | ⟨m, n⟩
 ·rw [m] at hkk
  rcases hp with hp | hp | hp | hp | hp | hp | hp | hp <;> (first | (have := hp.1; omega) | skip)
  have hs : 0 ≤ r.s ∧ r.s ≤ 1099511627776 := hp.2.1.2.1
  have hba : baOk (r.q, r.rs.xs) := hp.2.1.2.2
  have eb : r.bytes = putL r.k ++ (raL (r.s, (r.v, (r.q, r.rs.xs))) ++ []) := by
   unfold Rc.bytes raL baL
   rw [if_pos e]
   simp [List.append_assoc]
  have hr := ra_codec.back (r.s, (r.v, (r.q, r.rs.xs))) [] ⟨hs, hv, hba⟩
  have hq : krS (r.bytes, 0) = ((r.pure, ⟨#[]⟩), [], 0) := by
   rw [eb]
   unfold krS
   rw [kr_kind (by omega)]
   simp only
   rw [if_pos e, krA_eq, hr]
   have e2 : r.pure = { Rp.zero 1 with s := r.s, v := r.v, q := r.q, rs := r.rs.xs } := by rw [hb, Rc.bare1 e, e]; rfl
   rw [e2]
  rw [hq, kfin_own rfl (.inl e)]
 ·rw [m] at hkk
  rcases hp with hp | hp | hp | hp | hp | hp | hp | hp <;> (first | (have := hp.1; omega) | skip)
  have hs : 0 ≤ r.l ∧ r.l ≤ 64 := hp.2.1.2.1
  have eb : r.bytes = putL r.k ++ ((putL r.l ++ putL r.v) ++ []) := by
   unfold Rc.bytes
   rw [if_neg (by omega), if_pos e]
   simp [List.append_assoc]
  have hr := rv_codec.back (r.l, r.v) [] ⟨hs, hv⟩
  have hq : krS (r.bytes, 0) = ((r.pure, ⟨#[]⟩), [], 0) := by
   rw [eb]
   unfold krS
   rw [kr_kind (by omega)]
   simp only
   rw [if_neg (by omega), if_pos e, krV_eq, hr]
   have e2 : r.pure = { Rp.zero 3 with l := r.l, v := r.v } := by rw [hb, Rc.bare3 e, e]; rfl
   rw [e2]
  rw [hq, kfin_own rfl (.inr e)]
 all_goals first | (exact absurd hk n) | skip
 all_goals
  have h1 : r.k ≠ 1 := by omega
  have h3 : r.k ≠ 3 := by omega
  have eb : r.bytes = putL r.k ++ (textL (strOf r.told.bytes) ++ []) := by
   unfold Rc.bytes
   rw [if_neg h1, if_neg h3]
   simp
  have hsz : ((strOf r.told.bytes).size : Int) ≤ 4194304 := by rw [strOf_len]; omega
  have hr := (tx_codec 4194304 (by decide)).back (strOf r.told.bytes) [] hsz
  have hq : krS (r.bytes, 0) = ((Rp.zero r.k, strOf r.told.bytes), [], 0) := by
   rw [eb]
   unfold krS
   rw [kr_kind (by omega)]
   simp only
   rw [if_neg h1, if_neg h3, if_pos (by omega), krT_eq, hr]
  have hst : strL (strOf r.told.bytes) = r.told.bytes := strL_strOf hbs
  have hd := dec_back hp
  rw [← hby] at hd
  rw [hq, kfin_of rfl (by show ¬ (r.k = 1 ∨ r.k = 3); omega)]
  show ofT r.k (strL (strOf r.told.bytes)) = _
  rw [hst]
  unfold ofT
  rw [hd, if_pos ⟨rfl, hkk⟩]
  show ((⟨r.k, 0, 0, 0, r.q, r.rs.xs, r.ct, r.cs.xs, r.st, r.sg.xs⟩ : Rp), (0 : Int)) = (r.pure, 0)
  have z1 : r.l = 0 := by have := congrArg Rp.l hb; first | (rw [Rc.bare2 e] at this; exact this) | (rw [Rc.bare4 e] at this; exact this) | (rw [Rc.bare5 e] at this; exact this)
  have z2 : r.v = 0 := by have := congrArg Rp.v hb; first | (rw [Rc.bare2 e] at this; exact this) | (rw [Rc.bare4 e] at this; exact this) | (rw [Rc.bare5 e] at this; exact this)
  have z3 : r.s = 0 := by have := congrArg Rp.s hb; first | (rw [Rc.bare2 e] at this; exact this) | (rw [Rc.bare4 e] at this; exact this) | (rw [Rc.bare5 e] at this; exact this)
  unfold Rc.pure
  rw [z1, z2, z3]
theorem kdec_form {zs : List Int} (hb : Bs zs) (h : (kdec zs).2 = 0) {c : Rc} (hc : c.pure = (kdec zs).1) (hl : zs.length ≤ 40000) : c.good = true ∧ c.bytes = zs ∧ c.told.bytes.length ≤ 40000 := by
 rw [kdec_fin] at h hc
 have hx : xnuS 5 (zs, 0) = numS zs 0 5 := rfl
 by_cases he : (numS zs 0 5).2.2 = 0
 rotate_left
 ·exfalso
  have hz : (numS zs 0 5).1 = 0 := numS_zero he
  have hk : krS (zs, 0) = ((Rp.zero (numS zs 0 5).1, ⟨#[]⟩), (numS zs 0 5).2) := by
   unfold krS
   rw [hx, if_neg (by omega), if_neg (by omega), if_neg (by omega)]
  rw [hk] at h
  have hd : doneE (numS zs 0 5).2.1 (numS zs 0 5).2.2 = (numS zs 0 5).2.2 := by unfold doneE; rw [if_neg he]
  rw [kfin_bad hd he] at h
  exact he h
 obtain ⟨k, q, hkb, hn, hz⟩ := num_form hb he
 have hbq : Bs q := by rw [hz] at hb; exact hb.right
 have hkr : krS (zs, 0) = (if k = 1 then krA (q, 0) else if k = 3 then krV (q, 0) else if k = 2 ∨ k = 4 ∨ k = 5 then krT k (q, 0) else ((Rp.zero k, ⟨#[]⟩), (q, 0))) := by
  unfold krS
  rw [hx, hn]
 rw [hkr] at h hc
 clear hkr hn he hx
 by_cases k1 : k = 1
 ·subst k1
  rw [if_pos rfl, krA_eq] at h hc
  by_cases hd : doneE (raS (q, 0, false)).2.1 (raS (q, 0, false)).2.2.1 = 0
  rotate_left
  ·rw [kfin_bad rfl hd] at h
   exact absurd h hd
  rw [kfin_own hd (.inl rfl)] at hc
  obtain ⟨e1, e2⟩ := done_0 hd
  obtain ⟨⟨s, v, b, rs⟩, t, ⟨hs, hv, hba⟩, hf, hq⟩ := ra_codec.form q hbq (cod_f (raS_z q 0) e1)
  rw [hf] at hc e2
  simp only at e2
  subst e2
  have f := fun {α : Type} (g : Rp → α) => congrArg g hc
  have ck : c.k = 1 := f Rp.k
  have cl : c.l = 0 := f Rp.l
  have cv : c.v = v := f Rp.v
  have cs : c.s = s := f Rp.s
  have cq : c.q = b := f Rp.q
  have cr : c.rs.xs = rs := f Rp.rs
  have cc : c.ct = Vt.zero := f Rp.ct
  have cg : c.cs.xs = [] := f Rp.cs
  have ct : c.st = ⟨#[]⟩ := f Rp.st
  have ch : c.sg.xs = [] := f Rp.sg
  have tp : c.told.pure = ⟨1, 0, 0, 0, s, b, rs, Vt.zero, 0, 0, 0, [], [], zeros32, Vt.zero, [], ⟨#[]⟩, []⟩ := by
   rw [Rc.told_pure, ck, if_pos rfl]
   unfold Rp.mp Rc.pure
   rw [cl, cs, cq, cr, cc, cg, ct, ch]
   rfl
  have tg : c.told.pure.good := by rw [tp]; exact .inl ⟨rfl, ⟨⟨show (0 : Int) ≤ 0 by decide, show (0 : Int) ≤ 1048576 by decide⟩, hs, hba⟩, rfl⟩
  have eb : c.bytes = zs := by
   unfold Rc.bytes
   rw [if_pos ck, ck, cs, cv, cq, cr, hz, hq]
   unfold raL baL
   simp [List.append_assoc]
  refine ⟨?_, eb, ?_⟩
  ·unfold Rc.good
   rw [pure_good tg, cv, show inB v 1099511627776 = true from decide_eq_true hv]
   rfl
  ·rw [bytes_pure c.told (Mg.good_k (pure_good tg)), tp]
   have e : (Mp.bytes ⟨1, 0, 0, 0, s, b, rs, Vt.zero, 0, 0, 0, [], [], zeros32, Vt.zero, [], ⟨#[]⟩, []⟩) = putL 1 ++ (putL 0 ++ (putL s ++ baL (b, rs))) := rfl
   rw [e]
   have hl2 : (putL 1 ++ (putL s ++ (putL v ++ baL (b, rs)))).length ≤ 40000 := by rw [hz, hq] at hl; simpa [raL] using hl
   simp only [List.length_append] at hl2 ⊢
   have h0 : (putL 0).length = 1 := rfl
   have hv9 : 1 ≤ (putL v).length := by unfold putL; rw [if_neg (by have := hv.1; simp only at this; omega)]; unfold numB; simp
   omega
 rw [if_neg k1] at h hc
 by_cases k3 : k = 3
 ·subst k3
  rw [if_pos rfl, krV_eq] at h hc
  by_cases hd : doneE (rvS (q, 0, false)).2.1 (rvS (q, 0, false)).2.2.1 = 0
  rotate_left
  ·rw [kfin_bad (s := ((rvS (q, 0, false)).2.1, (rvS (q, 0, false)).2.2.1)) rfl hd] at h
   exact absurd h hd
  rw [kfin_own (s := ((rvS (q, 0, false)).2.1, (rvS (q, 0, false)).2.2.1)) hd (.inr rfl)] at hc
  obtain ⟨e1, e2⟩ := done_0 hd
  obtain ⟨⟨l, v⟩, t, ⟨hs, hv⟩, hf, hq⟩ := rv_codec.form q hbq (cod_f (rvS_z q 0) e1)
  rw [hf] at hc e2
  simp only at e2
  subst e2
  have f := fun {α : Type} (g : Rp → α) => congrArg g hc
  have ck : c.k = 3 := f Rp.k
  have cl : c.l = l := f Rp.l
  have cv : c.v = v := f Rp.v
  have cs : c.s = 0 := f Rp.s
  have cq : c.q = false := f Rp.q
  have cr : c.rs.xs = [] := f Rp.rs
  have cc : c.ct = Vt.zero := f Rp.ct
  have cg : c.cs.xs = [] := f Rp.cs
  have ct : c.st = ⟨#[]⟩ := f Rp.st
  have ch : c.sg.xs = [] := f Rp.sg
  have tp : c.told.pure = ⟨4, 0, l, v, 0, false, [], Vt.zero, 0, 0, 0, [], [], zeros32, Vt.zero, [], ⟨#[]⟩, []⟩ := by
   rw [Rc.told_pure, ck, if_neg (by decide)]
   unfold Rp.mp Rc.pure
   rw [cl, cv, cs, cq, cr, cc, cg, ct, ch]
   rfl
  have tg : c.told.pure.good := by rw [tp]; exact .inr (.inr (.inr (.inl ⟨rfl, ⟨⟨show (0 : Int) ≤ 0 by decide, show (0 : Int) ≤ 1048576 by decide⟩, hs, hv, (show ((([] : List Ev).length : Nat) : Int) ≤ 64 by decide), (fun x hx => by cases hx)⟩, rfl⟩)))
  have eb : c.bytes = zs := by
   unfold Rc.bytes
   rw [if_neg (by omega), if_pos ck, ck, cl, cv, hz, hq]
   simp [List.append_assoc]
  refine ⟨?_, eb, ?_⟩
  ·unfold Rc.good
   rw [pure_good tg, cv, show inB v 1099511627776 = true from decide_eq_true hv]
   rfl
  ·rw [bytes_pure c.told (Mg.good_k (pure_good tg)), tp]
   have e : (Mp.bytes ⟨4, 0, l, v, 0, false, [], Vt.zero, 0, 0, 0, [], [], zeros32, Vt.zero, [], ⟨#[]⟩, []⟩) = putL 4 ++ (putL 0 ++ (putL l ++ (putL v ++ evsL []))) := rfl
   rw [e]
   have p1 := putL_le l (by omega)
   have p2 := putL_le v (by omega)
   have h0 : (putL 0).length = 1 := rfl
   have h4 : (putL 4).length = 2 := rfl
   have h5 : (evsL []).length = 1 := rfl
   simp only [List.length_append]
   omega
 rw [if_neg k3] at h hc
 by_cases kt : k = 2 ∨ k = 4 ∨ k = 5
 rotate_left
 ·exfalso
  have k0 : k = 0 := by omega
  subst k0
  rw [if_neg kt] at h
  by_cases hd : doneE q 0 = 0
  ·rw [kfin_of hd (by decide)] at h
   have := ofT_0
   rw [show (Rp.zero 0).k = 0 from rfl, this] at h
   cases h
  ·rw [kfin_bad rfl hd] at h
   exact hd h
 rw [if_pos kt, krT_eq] at h hc
 by_cases hd : doneE (txS 4194304 (q, 0, false)).2.1 (txS 4194304 (q, 0, false)).2.2.1 = 0
 rotate_left
 ·rw [kfin_bad (s := ((txS 4194304 (q, 0, false)).2.1, (txS 4194304 (q, 0, false)).2.2.1)) rfl hd] at h
  exact absurd h hd
 rw [kfin_of (s := ((txS 4194304 (q, 0, false)).2.1, (txS 4194304 (q, 0, false)).2.2.1)) hd (by show ¬ (k = 1 ∨ k = 3); omega)] at hc h
 obtain ⟨e1, e2⟩ := done_0 hd
 obtain ⟨tx, t, ht, hf, hq⟩ := (tx_codec 4194304 (by decide)).form q hbq (cod_f (txS_z q 0) e1)
 rw [hf] at hc h e2
 simp only at e2 hc h
 subst e2
 have hk0 : (Rp.zero k).k = k := rfl
 rw [hk0] at hc h
 unfold ofT at hc h
 by_cases hm : (decS (strL tx)).2 = 0 ∧ (decS (strL tx)).1.k = mkK k
 rotate_left
 ·rw [if_neg hm] at h
  cases h
 rw [if_pos hm] at hc
 obtain ⟨hm1, hm2⟩ := hm
 have hbt : Bs (strL tx) := fun z hz' => strL_byte tx z hz'
 obtain ⟨mg, mb⟩ := dec_form hbt hm1
 generalize (decS (strL tx)).1 = mp at hc hm2 mg mb
 have f := fun {α : Type} (g : Rp → α) => congrArg g hc
 have ck : c.k = k := f Rp.k
 have cl : c.l = 0 := f Rp.l
 have cv : c.v = 0 := f Rp.v
 have cs : c.s = 0 := f Rp.s
 have cq : c.q = mp.q := f Rp.q
 have cr : c.rs.xs = mp.rs := f Rp.rs
 have cc : c.ct = mp.ct := f Rp.ct
 have cg : c.cs.xs = mp.cs := f Rp.cs
 have ct : c.st = mp.st := f Rp.st
 have ch : c.sg.xs = mp.sg := f Rp.sg
 have hmk : mkK k = 7 ∨ mkK k = 8 := by
  rcases kt with e | e | e
  ·rw [e]; exact .inl rfl
  ·rw [e]; exact .inl rfl
  ·rw [e]; exact .inr rfl
 have tp : c.told.pure = mp := by
  rw [Rc.told_pure, ck, if_neg k1, ← hm2]
  unfold Rp.mp Rc.pure
  rw [cl, cv, cs, cq, cr, cc, cg, ct, ch]
  rcases mg with g | g | g | g | g | g | g | g <;> (first | (have := g.1; omega) | skip)
  ·have o := g.2.2
   rw [← o]
   rfl
  ·have o := g.2.2
   rw [← o]
   rfl
 have tg : c.told.pure.good := by rw [tp]; exact mg
 have tb : c.told.bytes = strL tx := by rw [bytes_pure c.told (Mg.good_k (pure_good tg)), tp, ← mb]
 refine ⟨?_, ?_, ?_⟩
 ·unfold Rc.good
  rw [pure_good tg, cv]
  rfl
 ·unfold Rc.bytes
  rw [if_neg (by omega), if_neg (by omega), ck, tb, hz, hq, strOf_strL]
  simp
 ·rw [tb, strL_length]
  rw [hz, hq] at hl
  unfold textL at hl
  simp only [List.length_append, strL_length] at hl
  omega
end Go.Proofs.YtinndbipomlokaaGreat
