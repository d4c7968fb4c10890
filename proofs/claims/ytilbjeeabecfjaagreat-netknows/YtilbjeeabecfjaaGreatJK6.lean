/- messages, read: kind 8; the program's Decode; claims that grow in a cell; rows that begin anywhere in their block; a net in memory; a net: New, Len, Note, Knows -/
import Derived.Test.YtilbjeeabecfjaaGreatJK0
import Derived.Test.YtilbjeeabecfjaaGreatJK5
import Derived.Test.YtilbjeeabecfjaaGreatJK2
import Derived.Test.YtilbjeeabecfjaaGreatJK1
import Derived.Test.YtilbjeeabecfjaaGreatJK3
import Derived.ArgAppend
import Derived.Maps.AppendAt
import Derived.Deep.MidRow
import Derived.Defers
import Derived.Tactics2
namespace Go.Proofs.YtilbjeeabecfjaaGreat
open Go.RowKit
open Sha Tal
set_option linter.unusedVariables false
set_option linter.unusedSimpArgs false
set_option maxRecDepth 100000 in
set_option maxHeartbeats 1000000 in
theorem rmsgK8 (Q R : Nat) (s : Rst) (w : World) (h : RS w Q R s) (hl : s.1.length ≤ 40000) (hk : (kiS 8 s).1 = 8) : Calls Tryz.prog 46 #[.pointer (some ⟨Q, 0, none⟩)] w fun en w' => ∃ m : Mg, en = .returned (.agg m.ms.cells.toArray) ∧ m.pure = (mg8 (kiS 8 s).2).1 ∧ m.ok ∧ m.At w' ∧ m.Bk (fun b => w.heap.size ≤ b) ∧ RS w' Q R (mg8 (kiS 8 s).2).2 ∧ Kept w R Q w' := by
 have hRw := h.st.1.1
 have hQw := h.mr.lt
 have ck := fun w0 h0 => kindRS Q R 8 s w0 h0
 have l0 := kiS_len 8 s
 unfold mg8
 generalize kiS 8 s = p_ at ck l0 hk ⊢
 obtain ⟨k, s0⟩ := p_
 simp only at ck l0 hk ⊢
 subst hk
 have c_a := fun w0 h0 => textRS Q R 4194304 s0 w0 h0
 have l_a : (txS 4194304 s0).2.1.length ≤ s0.1.length := txS_len _ _
 generalize txS 4194304 s0 = p_ at c_a l_a ⊢
 obtain ⟨v_a, s_a⟩ := p_
 simp only at c_a l_a ⊢
 have c_b := fun w0 h0 => rlistS_any Q R s_a w0 h0 (by omega)
 have l_b : (lsS 64 siS s_a).2.1.length ≤ s_a.1.length := lsS_len siS_len _ _
 generalize lsS 64 siS s_a = p_ at c_b l_b ⊢
 obtain ⟨v_b, s_b⟩ := p_
 simp only at c_b l_b ⊢
 obtain ⟨zc, hzl, hzr⟩ : ∃ z : List Value, z.length = 119 ∧ ∀ w : World, (zeroValue 109).run Tryz.prog w = .ok (.agg z.toArray) w := ⟨_, (Ms.plain_ok 0 0 0 Vt.zero_ok zeros32_len zeros32_byte).len, zeroM⟩
 have hbk := build_kind 8
 have hql := (ms0_ok 8).len
 have hq1 := (ms0_ok 8).one
 have hiq : (Tryz.prog.info? 109).map (·.size) = some (Ms.plain 8 0 0 Vt.zero zeros32).cells.length := by rw [hql]; exact iszM
 have hk0 : ∀ (w' : World) b, w'.rangeAt b 0 (Ms.plain 8 0 0 Vt.zero zeros32).cells → w'.cell? ⟨b, 0, none⟩ = some (.int .i64 8) := fun w' b h => ((ms0_ok 8).at h).k
 obtain ⟨qk, hqk⟩ : ∃ q, Hid ((Ms.plain 8 0 0 Vt.zero zeros32).cells = q) := ⟨_, hide rfl⟩
 simp only [hqk.out] at hbk hql hq1 hiq hk0
 obtain ⟨hB1, hr1, hs1⟩ := boxed_new w zc 109
 have ht1 := there_newN w zc.toArray 109 (n := 119) (by simp [hzl])
 go_enter Tryz.func46, Tryz.ntmps46
 go_upto_region 0 with fail
 try simp only [Act.put]
 refine pl_begin ?_
 refine pl_run (d := some 2) (v := .pointer (some ⟨w.heap.size, 0, none⟩)) (w' := w.alloc (.cells zc.toArray 109)) (by rfl) (ex_alloc rfl (hzr _)) rfl ?_
 simp only [nz]
 refine pl_nil ?_
 obtain ⟨W1, hW1⟩ : ∃ W, w.alloc (.cells zc.toArray 109) = W := ⟨_, rfl⟩
 rw [hW1] at hB1 hr1 hs1 ht1 ⊢
 clear hW1 hr1
 have S1 := h.below hB1
 go_upto_region 1 with fail
 try simp only [Act.put]
 refine pl_begin ?_
 refine pl_t 4 (?_) (by rfl) ?_ rfl ?_
 rotate_left
 ·go_simp
  try with_reducible rfl
 simp only [nz]
 refine pl_call (d := some 5) (by rfl) (by go_simp; first | done | exact ⟨rfl, rfl⟩ | with_reducible rfl) rfl ?_
 refine (ck W1 S1).mono ?_
 rintro _ w2 ⟨rfl, S2, k2⟩
 refine ⟨_, rfl, ?_⟩
 simp only [nz]
 refine pl_t 6 (.agg qk.toArray) (by rfl) (ex_build (parts := [(0, .tmp 5)]) rfl rfl (hbk _)) rfl ?_
 simp only [nz]
 refine pl_run (d := some 3) (v := .pointer (some ⟨w2.heap.size, 0, none⟩)) (w' := w2.alloc (.cells zc.toArray 109)) (by rfl) (ex_alloc rfl (hzr _)) rfl ?_
 simp only [nz]
 refine pl_store (w' := (w2.alloc (.cells zc.toArray 109)).setCells w2.heap.size 0 qk) (by rfl) (ex_put (cs := qk.toArray) rfl rfl rfl (there_newN _ _ _ (by simp [hzl, hql])) (by simpa using hiq) (all_one hq1)) rfl ?_
 refine pl_nil ?_
 obtain ⟨hF1, hF2, hF3, -⟩ := fresh_store w2 zc.toArray 109 qk (by simp [hzl, hql])
 have hF4 := World.there_setCells (there_newN w2 zc.toArray 109 (n := 119) (by simp [hzl])) w2.heap.size 0 qk
 obtain ⟨w3, hw3⟩ : ∃ W, (w2.alloc (.cells zc.toArray 109)).setCells w2.heap.size 0 qk = W := ⟨_, rfl⟩
 rw [hw3] at hF1 hF2 hF3 hF4 ⊢
 clear hw3
 have hc0 := hk0 _ _ hF1
 have k3 : Kept w R Q w3 := (((Kept.refl w R Q).below hB1).trans k2).below hF2
 have z2 := k2.size
 rw [← hqk.out] at hF1
 have V3 : MV w Q R w.heap.size w2.heap.size 119 (Ms.plain 8 0 0 Vt.zero zeros32).cells s0 w3 := ⟨hF1, hF4, there_below (there_blk ht1 (k2.block _ hs1 (by omega) (by omega))) hF2 (by omega), k3, S2.below hF2, by have := hF2.size; omega, by omega, Nat.le_refl _, by have := hB1.size; omega, by omega, hRw, hQw⟩
 have hww : w.heap.size < w2.heap.size := by omega
 clear hF1 hF2 hF4 ht1 hB1 S1 S2 k2 k3 hk0 hbk hql hq1 hiq hqk h ck hzr hzl
 go_upto_region 2 with fail
 try simp only [Act.put]
 refine pl_begin ?_
 refine pl_t 7 (?_) (by rfl) ?_ rfl ?_
 rotate_left
 ·go_simp
  try with_reducible rfl
 simp only [nz]
 refine pl_t 8 (.int .i64 8) (by rfl) (pl_one rfl rfl hc0 Tryz.underlying3 rfl) rfl ?_
 simp only [nz]
 refine pl_nil ?_
 clear hc0
 go_upto_region 20 with fail
 try simp only [Act.put]
 refine pl_begin ?_
 refine pl_t 106 (?_) (by rfl) ?_ rfl ?_
 rotate_left
 ·go_simp
  try with_reducible rfl
 simp only [nz]
 refine pl_t 107 (?_) (by rfl) ?_ rfl ?_
 rotate_left
 ·go_simp
  try with_reducible rfl
 simp only [nz]
 refine pl_t 108 (?_) (by rfl) ?_ rfl ?_
 rotate_left
 ·go_simp
  try with_reducible rfl
 simp only [nz]
 refine pl_t 109 (.pointer (some ⟨R, 0, none⟩)) (by rfl) (pl_one rfl rfl V3.rs.mr.c0 Tryz.underlying142 rfl) rfl ?_
 simp only [nz]
 refine pl_call (d := some 110) (by rfl) (by go_simp; first | done | exact ⟨rfl, rfl⟩ | with_reducible rfl) rfl ?_
 refine (c_a w3 V3.rs).mono ?_
 rintro _ w5 ⟨rfl, S5, k5⟩
 refine ⟨_, rfl, ?_⟩
 simp only [nz]
 refine pl_t 111 (?_) (by rfl) ?_ rfl ?_
 rotate_left
 ·go_simp
  try with_reducible rfl
 simp only [nz]
 have V5 := V3.on k5 S5
 have Va := V5.set 117 [.string v_a] (put_st v_a Vt.zero_ok zeros32_len Vt.zero_ok V5.row (V5.part 117 1 (by decide)))
 refine pl_store (w' := w5.setCells w2.heap.size 117 [.string v_a]) (by rfl) (ex_put1 (n := 119) rfl rfl rfl V5.box (by decide) iszStr rfl rfl) rfl ?_
 refine pl_nil ?_
 obtain ⟨w6, hw6⟩ : ∃ W, w5.setCells w2.heap.size 117 [.string v_a] = W := ⟨_, rfl⟩
 rw [hw6] at Va ⊢
 clear hw6
 clear V5 V3 S5 k5
 go_upto_region 21 with fail
 try simp only [Act.put]
 refine pl_begin ?_
 refine pl_t 112 (?_) (by rfl) ?_ rfl ?_
 rotate_left
 ·go_simp
  try with_reducible rfl
 simp only [nz]
 refine pl_t 113 (?_) (by rfl) ?_ rfl ?_
 rotate_left
 ·go_simp
  try with_reducible rfl
 simp only [nz]
 refine pl_t 114 (?_) (by rfl) ?_ rfl ?_
 rotate_left
 ·go_simp
  try with_reducible rfl
 simp only [nz]
 refine pl_t 115 (.pointer (some ⟨R, 0, none⟩)) (by rfl) (pl_one rfl rfl Va.rs.mr.c0 Tryz.underlying142 rfl) rfl ?_
 simp only [nz]
 refine pl_t 116 (?_) (by rfl) ?_ rfl ?_
 rotate_left
 ·go_simp
  try with_reducible rfl
 simp only [nz]
 refine pl_t 117 (?_) (by rfl) ?_ rfl ?_
 rotate_left
 ·go_simp
  try with_reducible rfl
 simp only [nz]
 refine pl_t 118 (?_) (by rfl) ?_ rfl ?_
 rotate_left
 ·go_simp
  try with_reducible rfl
 simp only [nz]
 refine pl_call (d := some 119) (by rfl) (by go_simp; first | done | exact ⟨rfl, rfl⟩ | with_reducible rfl) rfl ?_
 refine (c_b w6 Va.rs).mono ?_
 rintro _ wd ⟨x, rfl, hx, hA, hB, Sd, kd⟩
 refine ⟨_, rfl, ?_⟩
 simp only [nz]
 refine pl_t 120 (?_) (by rfl) ?_ rfl ?_
 rotate_left
 ·go_simp
  try with_reducible rfl
 simp only [nz]
 have Vd := Va.on kd Sd
 have Ve := Vd.set 118 [x.val] (put_sg x.val Vt.zero_ok zeros32_len Vt.zero_ok Vd.row (Vd.part 118 1 (by decide)))
 have lb := Va.lb
 have la := Va.la
 have na := Va.kept.size
 refine pl_store (w' := wd.setCells w2.heap.size 118 [x.val]) (by rfl) (ex_put1 (n := 119) rfl rfl rfl Vd.box (by decide) iszSgs rfl rfl) rfl ?_
 refine pl_nil ?_
 have hA1 := hA.put (B := w2.heap.size) (o := 118) (vs := [x.val]) hB (fun b hb => by omega)
 obtain ⟨we, hwe⟩ : ∃ W, wd.setCells w2.heap.size 118 [x.val] = W := ⟨_, rfl⟩
 rw [hwe] at Ve hA1 ⊢
 clear hwe
 clear Vd Sd kd Va hA
 have rpc := Ve.row
 have hmo : Mg.ok ⟨8, 0, 0, 0, 0, false, ⟨none, 0, []⟩, Vt.zero, 0, 0, 0, ⟨none, 0, []⟩, ⟨none, 0, []⟩, zeros32, Vt.zero, ⟨none, 0, []⟩, v_a, x⟩ := ⟨Vt.zero_ok, Vt.zero_ok, zeros32_len, zeros32_byte⟩
 have hpl : (Mg.ms ⟨8, 0, 0, 0, 0, false, ⟨none, 0, []⟩, Vt.zero, 0, 0, 0, ⟨none, 0, []⟩, ⟨none, 0, []⟩, zeros32, Vt.zero, ⟨none, 0, []⟩, v_a, x⟩).cells.length = 119 := hmo.ms.len
 have hp1 := hmo.ms.one
 have hip : (Tryz.prog.info? 109).map (·.size) = some (Mg.ms ⟨8, 0, 0, 0, 0, false, ⟨none, 0, []⟩, Vt.zero, 0, 0, 0, ⟨none, 0, []⟩, ⟨none, 0, []⟩, zeros32, Vt.zero, ⟨none, 0, []⟩, v_a, x⟩).cells.length := by rw [hpl]; exact iszM
 have rpc : we.rangeAt w2.heap.size 0 (Mg.ms ⟨8, 0, 0, 0, 0, false, ⟨none, 0, []⟩, Vt.zero, 0, 0, 0, ⟨none, 0, []⟩, ⟨none, 0, []⟩, zeros32, Vt.zero, ⟨none, 0, []⟩, v_a, x⟩).cells := rpc
 obtain ⟨pc, hpc⟩ : ∃ p, Hid ((Mg.ms ⟨8, 0, 0, 0, 0, false, ⟨none, 0, []⟩, Vt.zero, 0, 0, 0, ⟨none, 0, []⟩, ⟨none, 0, []⟩, zeros32, Vt.zero, ⟨none, 0, []⟩, v_a, x⟩).cells = p) := ⟨_, hide rfl⟩
 simp only [hpc.out] at hpl hip hp1 rpc
 go_upto_region 22 with fail
 try simp only [Act.put]
 refine pl_begin ?_
 refine pl_t 121 (.agg pc.toArray) (by rfl) (ex_mid rfl rfl rpc Tryz.underlying109 rfl hip) rfl ?_
 simp only [nz]
 refine pl_store (w' := we.setCells w.heap.size 0 pc) (by rfl) (ex_put (cs := pc.toArray) rfl rfl rfl (by simpa [hpl] using Ve.ans) (by simpa using hip) (all_one hp1)) rfl ?_
 refine pl_nil ?_
 have hlow : Below w.heap.size we (we.setCells w.heap.size 0 pc) := below_sets (Nat.le_refl _) pc 0 _ (Below.refl _ we)
 have hrs := run_loadVar_mid (P := Tryz.prog) (we.setCells w.heap.size 0 pc) w.heap.size 0 109 pc _ (World.rangeAt_setCells_same we w.heap.size 0 pc (by rw [hpl]; exact Ve.ans)) Tryz.underlying109 rfl hip
 have HF : Hid (∃ m : Mg, Ending.returned (.agg pc.toArray) = .returned (.agg m.ms.cells.toArray) ∧ m.pure = (⟨8, 0, 0, 0, 0, false, [], Vt.zero, 0, 0, 0, [], [], zeros32, Vt.zero, [], v_a, v_b⟩ : Mp) ∧ m.ok ∧ m.At (we.setCells w.heap.size 0 pc) ∧ m.Bk (fun b => w.heap.size ≤ b) ∧ RS (we.setCells w.heap.size 0 pc) Q R s_b ∧ Kept w R Q (we.setCells w.heap.size 0 pc)) := hide ⟨⟨8, 0, 0, 0, 0, false, ⟨none, 0, []⟩, Vt.zero, 0, 0, 0, ⟨none, 0, []⟩, ⟨none, 0, []⟩, zeros32, Vt.zero, ⟨none, 0, []⟩, v_a, x⟩, by rw [hpc.out], by rw [← hx]; rfl, hmo, mg0_at RowsAt.none hds_none RowsAt.none RowsAt.none (hA1.put hB (fun b hb => by omega)), ⟨no_bk, no_bk, no_bk2, no_bk, no_bk, hB.mono (fun b hb => by omega)⟩, Ve.rs.low hlow hQw, Ve.kept.low hlow (Nat.le_refl _)⟩
 clear Ve hlow rpc hpc hmo hA1 hB hx
 go_wp2_with fail
 refine bodyPost_ret (v := .agg pc.toArray) ?_ rfl ?_
 ·simp [results, Tryz.results46, Act.put, asAddr, hrs]
 ·exact HF.out
theorem rmsgS (Q R : Nat) (s : Rst) (w : World) (h : RS w Q R s) (hl : s.1.length ≤ 40000) : Calls Tryz.prog 46 #[.pointer (some ⟨Q, 0, none⟩)] w fun en w' => ∃ m : Mg, en = .returned (.agg m.ms.cells.toArray) ∧ m.pure = (mgS s).1 ∧ m.ok ∧ m.At w' ∧ m.Bk (fun b => w.heap.size ≤ b) ∧ RS w' Q R (mgS s).2 ∧ Kept w R Q w' := by
 unfold mgS mgF
 by_cases n1 : (kiS 8 s).1 = 1
 ·rw [if_pos n1]; exact rmsgK1 Q R s w h hl n1
 rw [if_neg n1]
 by_cases n2 : (kiS 8 s).1 = 2
 ·rw [if_pos n2]; exact rmsgK2 Q R s w h hl n2
 rw [if_neg n2]
 by_cases n3 : (kiS 8 s).1 = 3
 ·rw [if_pos n3]; exact rmsgK3 Q R s w h hl n3
 rw [if_neg n3]
 by_cases n4 : (kiS 8 s).1 = 4
 ·rw [if_pos n4]; exact rmsgK4 Q R s w h hl n4
 rw [if_neg n4]
 by_cases n5 : (kiS 8 s).1 = 5
 ·rw [if_pos n5]; exact rmsgK5 Q R s w h hl n5
 rw [if_neg n5]
 by_cases n6 : (kiS 8 s).1 = 6
 ·rw [if_pos n6]; exact rmsgK6 Q R s w h hl n6
 rw [if_neg n6]
 by_cases n7 : (kiS 8 s).1 = 7
 ·rw [if_pos n7]; exact rmsgK7 Q R s w h hl n7
 rw [if_neg n7]
 by_cases n8 : (kiS 8 s).1 = 8
 ·rw [if_pos n8]; exact rmsgK8 Q R s w h hl n8
 rw [if_neg n8]
 exact rmsgK0 Q R s w h hl n1 n2 n3 n4 n5 n6 n7 n8
set_option maxRecDepth 100000 in
set_option maxHeartbeats 2000000 in
theorem newReaderS (s : ByteArray) (hs : s.size ≤ 1099511627) (w : World) : Calls Tryz.prog 45 #[.string s] w fun e w' => ∃ Q R, e = .returned (.pointer (some ⟨Q, 0, none⟩)) ∧ w.heap.size ≤ R ∧ RS w' Q R (strL s, 0, false) ∧ Below w.heap.size w w' := by
 obtain ⟨c, w1, hc, hr, hB⟩ := bytes_of s hs w
 have hl : (strL s).length ≤ 549755813888 := by rw [strL_length]; omega
 have cr := read_any (some ⟨w.heap.size, 0, none⟩) c (strL s) w1 hr hl
 generalize strL s = zs at *
 go_enter Tryz.func45, Tryz.ntmps45
 go_wp2_with fail
 refine cr.mono ?_
 rintro e w2 ⟨R, rfl, hR, hSt, hb2⟩
 have hB2 := hB.trans (hb2.mono hB.size)
 have hB3 : Below w2.heap.size w2 (w2.alloc (.cells #[.pointer (some ⟨R, 0, none⟩), .bool false] 145)) := (Below.refl _ _).alloc (Nat.le_refl _) _
 have hB4 := hB2.trans (hB3.mono hB2.size)
 have hRl := hSt.1.1
 have hSt3 := hSt.below hB3
 have hQ : MrAt (w2.alloc (.cells #[.pointer (some ⟨R, 0, none⟩), .bool false] 145)) w2.heap.size R false :=
  ⟨by simp, hRl, World.cell?_alloc_at _ _ _ _ rfl, World.cell?_alloc_at _ _ _ _ rfl, World.frozen?_alloc_at _ _ _ _ rfl⟩
 have hQt := there_newN w2 #[.pointer (some ⟨R, 0, none⟩), .bool false] 145 (n := 2) rfl
 have hRw : w.heap.size ≤ R := by have := hB.size; omega
 clear cr hc hr hSt hB3 hB2 hb2 hB
 go_wp2_with fail
 go_ret
 exact ⟨_, R, rfl, hRw, ⟨hSt3, hQ, hQt⟩, hB4⟩
def faE (s : Rst) : Int := if s.2.2 = true then 130 else doneE s.1 s.2.1
set_option maxRecDepth 100000 in
set_option maxHeartbeats 1000000 in
theorem faultS (Q R : Nat) (s : Rst) (w : World) (h : RS w Q R s) : Calls Tryz.prog 47 #[.pointer (some ⟨Q, 0, none⟩)] w fun en w' => en = .returned (.int .i64 (faE s)) ∧ w' = w := by
 obtain ⟨rest, e, z⟩ := s
 unfold faE
 cases z
 ·exact fault_ok Q R rest e w h.st h.mr
 ·have c0 := h.mr.c0
  have c1 := h.mr.c1
  simp only at c0 c1
  clear h
  go_enter Tryz.func47, Tryz.ntmps47
  go_wp2_with fail
  go_ret
  exact ⟨rfl, rfl⟩
def Mp.none : Mp := ⟨0, 0, 0, 0, 0, false, [], Vt.zero, 0, 0, 0, [], [], zeros32, Vt.zero, [], ⟨#[]⟩, []⟩
def decS (zs : List Int) : Mp × Int := if faE (mgS (zs, 0, false)).2 = 0 then ((mgS (zs, 0, false)).1, 0) else (Mp.none, faE (mgS (zs, 0, false)).2)
def Mg.none : Mg := ⟨0, 0, 0, 0, 0, false, ⟨Option.none, 0, []⟩, Vt.zero, 0, 0, 0, ⟨Option.none, 0, []⟩, ⟨Option.none, 0, []⟩, zeros32, Vt.zero, ⟨Option.none, 0, []⟩, ⟨#[]⟩, ⟨Option.none, 0, []⟩⟩
theorem Mg.none_ok : Mg.none.ok := ⟨Vt.zero_ok, Vt.zero_ok, zeros32_len, zeros32_byte⟩
theorem Mg.none_at (w : World) : Mg.none.At w := mg0_at RowsAt.none hds_none RowsAt.none RowsAt.none RowsAt.none
theorem Mg.At.put {m : Mg} {W : World} {n o : Nat} {vs : List Value} (h : m.At W) (k : Mg.Bk m (fun b => n < b)) : m.At (W.setCells n o vs) := by
 obtain ⟨k1, k2, k2', k3, k4, k5⟩ := k
 have f : ∀ b, n < b → b ≠ n := fun b hb => by omega
 exact ⟨h.rs.put k1 f, h.he.put k2 k2' f, h.ne.put k3 f, h.cs.put k4 f, h.sg.put k5 f⟩
theorem build_none (w : World) : (Instr.build 109 #[]).run Tryz.prog w = .ok (.agg Mg.none.ms.cells.toArray) w := build_msg #[] _ w rfl
set_option maxRecDepth 100000 in
set_option maxHeartbeats 1000000 in
theorem decode_any (sb : ByteArray) (hs : sb.size ≤ 40000) (w : World) : Calls Tryz.prog 36 #[.string sb] w fun en w' => ∃ m : Mg, en = .returned (.tuple #[.agg m.ms.cells.toArray, .int .i64 (decS (strL sb)).2]) ∧ m.pure = (decS (strL sb)).1 ∧ m.ok ∧ m.At w' ∧ m.Bk (fun b => w.heap.size ≤ b) ∧ Below w.heap.size w w' := by
 obtain ⟨zc, hzc, hzl, hz1, hzr, hb0⟩ : ∃ z : List Value, Hid (z = Mg.none.ms.cells) ∧ z.length = 119 ∧ (∀ v ∈ z, v.oneCell' = true) ∧ (∀ w : World, (zeroValue 109).run Tryz.prog w = .ok (.agg z.toArray) w) ∧ ∀ w : World, (Instr.build 109 #[]).run Tryz.prog w = .ok (.agg z.toArray) w := ⟨_, hide rfl, Mg.none_ok.ms.len, Mg.none_ok.ms.one, zeroM, build_none⟩
 have hiz : (Tryz.prog.info? 109).map (·.size) = some zc.length := by rw [hzl]; exact iszM
 have cn := fun w0 => newReaderS sb (by omega) w0
 have cr := fun Q R w0 h0 => rmsgS Q R (strL sb, 0, false) w0 h0 (by show (strL sb).length ≤ 40000; rw [strL_length]; exact hs)
 have hs' : (sb.size : Int) ≤ 4194304 := by omega
 unfold decS
 generalize strL sb = zs at cn cr ⊢
 generalize mgS (zs, 0, false) = p_ at cr ⊢
 obtain ⟨mp, t⟩ := p_
 simp only at cr ⊢
 have cf := fun Q R w0 h0 => faultS Q R t w0 h0
 generalize faE t = f at cf ⊢
 obtain ⟨hB1, hr1, hs1⟩ := boxed_new w zc 109
 have ht1 := there_newN w zc.toArray 109 (n := 119) (by simp [hzl])
 go_enter Tryz.func36, Tryz.ntmps36
 go_upto_region 0 with fail
 try simp only [Act.put]
 refine pl_begin ?_
 refine pl_run (d := some 2) (v := .pointer (some ⟨w.heap.size, 0, none⟩)) (w' := w.alloc (.cells zc.toArray 109)) (by rfl) (ex_alloc rfl (hzr _)) rfl ?_
 simp only [nz]
 refine pl_t 3 (?_) (by rfl) ?_ rfl ?_
 rotate_left
 ·go_simp
  try with_reducible rfl
 simp only [nz]
 refine pl_nil ?_
 obtain ⟨W1, hW1⟩ : ∃ W, w.alloc (.cells zc.toArray 109) = W := ⟨_, rfl⟩
 rw [hW1] at hB1 hr1 hs1 ht1 ⊢
 clear hW1 hr1
 go_upto_region 3 with fail
 try simp only [Act.put]
 refine pl_begin ?_
 refine pl_t 11 (?_) (by rfl) ?_ rfl ?_
 rotate_left
 ·go_simp
  try with_reducible rfl
 simp only [nz]
 refine pl_call (d := some 12) (by rfl) (by go_simp; first | done | exact ⟨rfl, rfl⟩ | with_reducible rfl) rfl ?_
 refine (cn W1).mono ?_
 rintro _ w2 ⟨Q, R, rfl, hRw, S2, hb2⟩
 refine ⟨_, rfl, ?_⟩
 simp only [nz]
 refine pl_t 4 (?_) (by rfl) ?_ rfl ?_
 rotate_left
 ·go_simp
  try with_reducible rfl
 simp only [nz]
 refine pl_nil ?_
 have hT2 := there_below ht1 hb2 hs1
 have hRQ := S2.mr.ne
 have hB2 := hB1.trans (hb2.mono hB1.size)
 have z2 := hb2.size
 clear cn
 go_upto_region 4 with fail
 try simp only [Act.put]
 refine pl_begin ?_
 refine pl_t 13 (?_) (by rfl) ?_ rfl ?_
 rotate_left
 ·go_simp
  try with_reducible rfl
 simp only [nz]
 refine pl_call (d := some 14) (by rfl) (by go_simp; first | done | exact ⟨rfl, rfl⟩ | with_reducible rfl) rfl ?_
 refine (cr Q R w2 S2).mono ?_
 rintro _ w3 ⟨m, rfl, hp, hmo, hA, hB, S3, k3⟩
 refine ⟨_, rfl, ?_⟩
 simp only [nz]
 have hql := hmo.ms.len
 have hq1 := hmo.ms.one
 have hiq : (Tryz.prog.info? 109).map (·.size) = some m.ms.cells.length := by rw [hql]; exact iszM
 obtain ⟨q, hqq⟩ : ∃ q, Hid (m.ms.cells = q) := ⟨_, hide rfl⟩
 simp only [hqq.out] at hql hq1 hiq ⊢
 refine pl_run (d := some 5) (v := .pointer (some ⟨w3.heap.size, 0, none⟩)) (w' := w3.alloc (.cells zc.toArray 109)) (by rfl) (ex_alloc rfl (hzr _)) rfl ?_
 simp only [nz]
 refine pl_store (w' := (w3.alloc (.cells zc.toArray 109)).setCells w3.heap.size 0 q) (by rfl) (ex_put (cs := q.toArray) rfl rfl rfl (there_newN _ _ _ (by simp [hzl, hql])) (by simpa using hiq) (all_one hq1)) rfl ?_
 refine pl_nil ?_
 obtain ⟨r4, hF2, hF3, -⟩ := fresh_store w3 zc.toArray 109 q (by simp [hzl, hql])
 have hT3 := there_blk hT2 (k3.block w.heap.size (by omega) (by omega) (by omega))
 have hB3 : Below w.heap.size w w3 := k3.to hB2 (by omega) (by omega)
 have z3 := k3.size
 obtain ⟨w4, hw4⟩ : ∃ W, (w3.alloc (.cells zc.toArray 109)).setCells w3.heap.size 0 q = W := ⟨_, rfl⟩
 rw [hw4] at r4 hF2 hF3 ⊢
 clear hw4
 have S4 := S3.below hF2
 have hT4 := there_below hT3 hF2 (by omega)
 have hB4 := hB3.trans (hF2.mono hB3.size)
 have hA4 := hA.below hF2
 have cf := cf Q R
 have hBk : m.Bk (fun b => w.heap.size < b) := ⟨hB.1.mono (fun b hb => by omega), hB.2.1.mono (fun b hb => by omega), fun y hy => (hB.2.2.1 y hy).mono (fun b hb => by omega), hB.2.2.2.1.mono (fun b hb => by omega), hB.2.2.2.2.1.mono (fun b hb => by omega), hB.2.2.2.2.2.mono (fun b hb => by omega)⟩
 have hBk0 : m.Bk (fun b => w.heap.size ≤ b) := ⟨hB.1.mono (fun b hb => by omega), hB.2.1.mono (fun b hb => by omega), fun y hy => (hB.2.2.1 y hy).mono (fun b hb => by omega), hB.2.2.2.1.mono (fun b hb => by omega), hB.2.2.2.2.1.mono (fun b hb => by omega), hB.2.2.2.2.2.mono (fun b hb => by omega)⟩
 have B9 := fun vs => below_sets (Nat.le_refl w.heap.size) vs 0 _ hB4
 have A9 := fun vs => Mg.At.put (o := 0) (vs := vs) hA4 hBk
 have HM := hide (show m.pure = mp ∧ m.ok ∧ m.Bk (fun b => w.heap.size ≤ b) from ⟨hp, hmo, hBk0⟩)
 clear hF2 hA hB hBk hBk0 hT3 hB3 S3 k3 hT2 hB2 hp hmo hA4 cr S2 hb2
 go_upto_region 5 with fail
 try simp only [Act.put]
 refine pl_begin ?_
 refine pl_t 15 (?_) (by rfl) ?_ rfl ?_
 rotate_left
 ·go_simp
  try with_reducible rfl
 simp only [nz]
 refine pl_call (d := some 16) (by rfl) (by go_simp; first | done | exact ⟨rfl, rfl⟩ | with_reducible rfl) rfl ?_
 refine (cf w4 S4).mono ?_
 rintro _ w5 ⟨rfl, hx⟩
 obtain rfl := hx.symm
 clear hx
 refine ⟨_, rfl, ?_⟩
 simp only [nz]
 refine pl_t 6 (?_) (by rfl) ?_ rfl ?_
 rotate_left
 ·go_simp
  try with_reducible rfl
 simp only [nz]
 refine pl_nil ?_
 clear cf S4
 by_cases hf : f = 0
 ·subst hf
  go_upto_region 8 with fail
  try simp only [Act.put]
  refine pl_begin ?_
  refine pl_t 21 (.agg q.toArray) (by rfl) (ex_mid rfl rfl r4 Tryz.underlying109 rfl hiq) rfl ?_
  simp only [nz]
  refine pl_store (w' := w4.setCells w.heap.size 0 q) (by rfl) (ex_put (cs := q.toArray) rfl rfl rfl (by simpa [hql] using hT4) (by simpa using hiq) (all_one hq1)) rfl ?_
  refine pl_t 3 (?_) (by rfl) ?_ rfl ?_
  rotate_left
  ·go_simp
   try with_reducible rfl
  simp only [nz]
  refine pl_nil ?_
  have hrs := run_loadVar_mid (P := Tryz.prog) (w4.setCells w.heap.size 0 q) w.heap.size 0 109 q _ (World.rangeAt_setCells_same w4 w.heap.size 0 q (by rw [hql]; exact hT4)) Tryz.underlying109 rfl hiq
  have HF : Hid (∃ g : Mg, Ending.returned (.tuple #[.agg q.toArray, .int .i64 0]) = .returned (.tuple #[.agg g.ms.cells.toArray, .int .i64 0]) ∧ g.pure = mp ∧ g.ok ∧ g.At (w4.setCells w.heap.size 0 q) ∧ g.Bk (fun b => w.heap.size ≤ b) ∧ Below w.heap.size w (w4.setCells w.heap.size 0 q)) := hide ⟨m, by rw [hqq.out], HM.out.1, HM.out.2.1, A9 q, HM.out.2.2, B9 q⟩
  clear HM A9 B9 r4 hT4 hB4 hqq
  go_wp2_with fail
  refine bodyPost_ret (results_ct rfl _ _ _ rfl hrs) rfl ?_
  exact HF.out
 ·have hfb : (f != 0) = true := by simpa using hf
  go_upto_region 7 with fail
  try simp only [Act.put]
  refine pl_begin ?_
  refine pl_t 19 (.agg zc.toArray) (by rfl) (ex_build (parts := []) rfl rfl (hb0 _)) rfl ?_
  simp only [nz]
  refine pl_t 20 (?_) (by rfl) ?_ rfl ?_
  rotate_left
  ·go_simp
   try with_reducible rfl
  simp only [nz]
  refine pl_store (w' := w4.setCells w.heap.size 0 zc) (by rfl) (ex_put (cs := zc.toArray) rfl rfl rfl (by simpa [hzl] using hT4) (by simpa using hiz) (all_one hz1)) rfl ?_
  refine pl_t 3 (?_) (by rfl) ?_ rfl ?_
  rotate_left
  ·go_simp
   try with_reducible rfl
  simp only [nz]
  refine pl_nil ?_
  have hrs := run_loadVar_mid (P := Tryz.prog) (w4.setCells w.heap.size 0 zc) w.heap.size 0 109 zc _ (World.rangeAt_setCells_same w4 w.heap.size 0 zc (by rw [hzl]; exact hT4)) Tryz.underlying109 rfl hiz
  have HF : Hid (∃ g : Mg, Ending.returned (.tuple #[.agg zc.toArray, .int .i64 f]) = .returned (.tuple #[.agg g.ms.cells.toArray, .int .i64 f]) ∧ g.pure = Mp.none ∧ g.ok ∧ g.At (w4.setCells w.heap.size 0 zc) ∧ g.Bk (fun b => w.heap.size ≤ b) ∧ Below w.heap.size w (w4.setCells w.heap.size 0 zc)) := hide ⟨Mg.none, by rw [hzc.out], rfl, Mg.none_ok, Mg.none_at _, ⟨no_bk, no_bk, no_bk2, no_bk, no_bk, no_bk⟩, B9 zc⟩
  clear HM A9 B9 r4 hT4 hB4 hqq hzc
  go_wp2_with fail
  refine bodyPost_ret (results_ct rfl _ _ _ rfl hrs) rfl ?_
  first | exact HF.out | (rw [if_neg hf]; exact HF.out) | (simp only [if_neg hf]; exact HF.out)
def infoCl0 : List Value := [Value.int .i64 0, .string ⟨#[]⟩] ++ v8 (List.replicate 16 0)
theorem infoCl : (Tryz.prog.info? 36).map (fun i => (i.zero, i.size, i.bytes)) = some (some (.agg infoCl0.toArray), 18, 40) := by kernel_rfl
theorem iszCls : (Tryz.prog.info? 63).map (·.size) = some 1 := by kernel_rfl
theorem zeroClE (w : World) : (zeroValue 36).run Tryz.prog w = .ok (.agg ([Value.int .i64 0] ++ ([Value.string ⟨#[]⟩] ++ v8 (List.replicate 16 0))).toArray) w := by kernel_rfl
set_option maxRecDepth 100000 in
theorem build_cl (n : Int) (b : ByteArray) (t : List Value) (ht : t.length = 16) (w : World) : (Instr.build 36 #[(0, .int .i64 n), (1, .string b), (2, .agg t.toArray)]).run Tryz.prog w = .ok (.agg (.int .i64 n :: .string b :: t).toArray) w :=
 build_fill (zs := [Value.int .i64 0] ++ ([Value.string ⟨#[]⟩] ++ v8 (List.replicate 16 0))) (pl := #[(0, 1), (1, 1), (2, 16)]) (zeroClE w) (by kernel_rfl) (by kernel_rfl) _ _ (fill_three (c1 := [.int .i64 n]) (c2 := [.string b]) rfl rfl rfl rfl rfl rfl rfl rfl ht rfl rfl rfl)
theorem ex_app2 {P : Program} {o : Oper} {a : Act} {w : World} {s x : Operand} {t e : TypeId} {i : TypeInfo} {z : Value} {B cb k : Nat} {v : Value} {n : Nat} {xs u : List Value} (ho : o.op = .call { callee := .builtin .append, args := #[s, x], argTypes := #[t, t] }) (hv : a.eval s = v) (hx : a.eval x = .slice (some ⟨cb, 0, none⟩) 1 1)
    (ht : P.underlying t = some (.slice e)) (hi : P.info? e = some i) (hz : i.zero = some z) (hs : i.size = k) (hb : i.bytes ≤ 1000) (hty : o.type = t)
    (hown : w.ownsRow B e k v n xs) (hB : B ≤ w.heap.size) (hr : w.rangeAt cb 0 u) (hu : u.length = k) (h1 : ∀ y ∈ u, y.oneCell' = true) (hn : n ≤ 1000000000) (hzk : z.cells.size = k) :
    ∃ v' w', (execOp a.eval o).run P w = .ok (.value v') w' ∧ (w'.ownsRow B e k v' (n + 1) (xs ++ u) ∧ w.grownBy w' v.ownBlock ∧ ∀ g, v'.ownBlock = some g → v.ownBlock = some g ∨ w.heap.size ≤ g) := by
  have hsrc : Src P k t (.slice (some ⟨cb, 0, none⟩) 1 1) 1 u w := Src.ofSlice _ ht ⟨cb, 0, none⟩ 1 1 _ (by simpa using hu) (fun j y hy => by have := hr j y hy; rw [Addr.add_mid]; exact this) h1
  obtain ⟨v', w', hrun, ho2, hg, hap⟩ := run_append_own_src2 (P := P) w B t t o.type e i _ k i.bytes ht hi hz hs rfl (by rw [hzk]) v n xs hown _ 1 u hsrc (by unfold maxLen; omega) (Nat.le_trans (Nat.mul_le_mul (show n + 1 ≤ 1000000001 by omega) hb) (by decide)) hB
  exact ⟨v', w', exec_append1 ho hv hx hrun, ho2, hg, fun g hg' => (hap g hg').imp id (fun e => by omega)⟩
theorem own_blk {w w' : World} {B k n : Nat} {t : TypeId} {v : Value} {xs : List Value} (h : w.ownsRow B t k v n xs) (hb : ∀ g, v.ownBlock = some g → w'.heap[g]? = w.heap[g]?) : w'.ownsRow B t k v n xs := by
 refine ⟨h.1, ?_⟩
 rcases h.2 with hn | ⟨g, cap, cur, rfl, hb1, hgg, rest⟩
 ·exact .inl hn
 ·refine .inr ⟨g, cap, cur, rfl, hb1, ?_, rest⟩
  rw [hb g rfl]
  exact hgg
theorem own_cellC {w : World} {B k n : Nat} {t : TypeId} {v : Value} {xs : List Value} (h : w.ownsRow B t k v n xs) : v.cells = #[v] ∧ v.oneCell' = true := by
 rcases h.2 with ⟨rfl, _⟩ | ⟨g, cap, cur, rfl, _⟩ <;> exact ⟨rfl, rfl⟩
structure OutC (w : World) (O : Nat) (v : Value) (cs : List Ev) : Prop where
 lt : O < w.heap.size
 c0 : w.cell? ⟨O, 0, none⟩ = some v
 th : w.there O 0 1
 own : w.ownsRow (O + 1) 36 18 v cs.length (cs.flatMap Ev.cells)
 ok : ∀ c ∈ cs, c.ok
theorem OutC.on {w w' : World} {O : Nat} {v : Value} {cs : List Ev} (h : OutC w O v cs) (hs : w.heap.size ≤ w'.heap.size) (hO : w'.heap[O]? = w.heap[O]?) (hv : ∀ g, v.ownBlock = some g → w'.heap[g]? = w.heap[g]?) : OutC w' O v cs :=
 ⟨Nat.lt_of_lt_of_le h.lt hs, (cell_block hO).1.trans h.c0, there_blk h.th hO, own_blk h.own hv, h.ok⟩
theorem OutC.below {w w' : World} {O : Nat} {v : Value} {cs : List Ev} (h : OutC w O v cs) (hb : Below w.heap.size w w') : OutC w' O v cs :=
 h.on hb.size (hb.block O h.lt) (fun g hg => hb.block g (h.own.lt g hg).2)
structure Grow (w w' : World) (O : Nat) (v v' : Value) : Prop where
 os : w'.os = w.os
 tape : w'.tape = w.tape
 output : w'.output = w.output
 size : w.heap.size ≤ w'.heap.size
 block : ∀ i, i < w.heap.size → i ≠ O → v.ownBlock ≠ some i → w'.heap[i]? = w.heap[i]?
 own : ∀ g, v'.ownBlock = some g → v.ownBlock = some g ∨ w.heap.size ≤ g
theorem Grow.refl (w : World) (O : Nat) (v : Value) : Grow w w O v v := ⟨rfl, rfl, rfl, Nat.le_refl _, fun _ _ _ _ => rfl, fun _ h => .inl h⟩
theorem Grow.of {w w' : World} (hb : Below w.heap.size w w') (O : Nat) (v : Value) : Grow w w' O v v := ⟨hb.os, hb.tape, hb.output, hb.size, fun i hi _ _ => hb.block i hi, fun _ h => .inl h⟩
theorem Grow.trans {a b c : World} {O : Nat} {v v' v'' : Value} (h : Grow a b O v v') (k : Grow b c O v' v'') : Grow a c O v v'' where
 os := k.os.trans h.os
 tape := k.tape.trans h.tape
 output := k.output.trans h.output
 size := Nat.le_trans h.size k.size
 block := fun i hi h1 h2 => (k.block i (Nat.lt_of_lt_of_le hi h.size) h1 (fun e => by
  rcases h.own i e with e | e
  ·exact h2 e
  ·omega)).trans (h.block i hi h1 h2)
 own := fun g hg => by
  rcases k.own g hg with e | e
  ·exact h.own g e
  ·exact .inr (Nat.le_trans h.size e)
def Clr (O : Nat) (v : Value) (b : Nat) : Prop := b ≠ O ∧ v.ownBlock ≠ some b
theorem Grow.keep {w w' : World} {O : Nat} {v v' : Value} (h : Grow w w' O v v') {b : Nat} (hb : b < w.heap.size) (hc : Clr O v b) : w'.heap[b]? = w.heap[b]? ∧ Clr O v' b := by
 refine ⟨h.block b hb hc.1 hc.2, hc.1, fun e => ?_⟩
 rcases h.own b e with e | e
 ·exact hc.2 e
 ·omega
theorem Grow.low {w w' : World} {O B : Nat} {v v' : Value} (h : Grow w w' O v v') (hO : B ≤ O) (hB : B ≤ w.heap.size) (hv : ∀ g, v.ownBlock = some g → O + 1 ≤ g) : Below B w w' :=
 ⟨h.os, h.tape, h.output, h.size, fun i hi => h.block i (by omega) (by omega) (fun e => by have := hv i e; omega)⟩
theorem Sl.At.grow {α : Type} {E : El α} {w w' : World} {O : Nat} {v v' : Value} {x : Sl α} (h : x.At E w) (k : Grow w w' O v v') (hb : x.Bk (Clr O v)) : x.At E w' :=
 h.on k.size hb (fun b hP hlt => k.block b hlt hP.1 hP.2)
theorem Sl.Bk.grow {α : Type} {E : El α} {w w' : World} {O : Nat} {v v' : Value} {x : Sl α} (h : x.At E w) (k : Grow w w' O v v') (hb : x.Bk (Clr O v)) : x.Bk (Clr O v') := fun b h1 h2 => by
 rcases h.2.2 with q | ⟨c, off, e, hlt, _⟩
 ·exact absurd q h1
 ·have hc := hb b h1 h2
  rw [e] at h2
  cases h2
  exact (k.keep hlt hc).2
set_option maxRecDepth 100000 in
set_option maxHeartbeats 1000000 in
theorem cadd_any (O : Nat) (v : Value) (cs : List Ev) (e : Ev) (w : World) (h : OutC w O v cs) (he : e.ok) (hn : cs.length ≤ 1000000000) :
  Calls Tryz.prog 37 #[.int .i64 e.n, .string e.s, .agg (v8 e.t).toArray, .pointer (some ⟨O, 0, none⟩)] w fun en w' => en = .returned (.tuple #[]) ∧ ∃ v', OutC w' O v' (cs ++ [e]) ∧ Grow w w' O v v' := by
 obtain ⟨i1, hi1, hiz, his, hib⟩ := info_parts infoCl
 have hzk : (Value.agg (infoCl0).toArray).cells.size = 18 := by decide
 have it16 : (Tryz.prog.info? 30).map (·.size) = some (v8 e.t).length := by rw [v8_length, he.tl]; exact iszT
 have hbc := fun w0 => build_cl e.n e.s (v8 e.t) (by rw [v8_length, he.tl]) w0
 obtain ⟨B1, r1, s1⟩ := boxed_new w (v8 e.t) 30
 have h1 := h.below B1
 have hul : e.cells.length = 18 := EvE.len e he
 have hone : ∀ y ∈ e.cells, y.oneCell' = true := EvE.one e
 have hflat : (cs ++ [e]).flatMap Ev.cells = cs.flatMap Ev.cells ++ e.cells := by simp
 have hok : ∀ c ∈ cs ++ [e], c.ok := fun c hc => by
  rcases List.mem_append.1 hc with hc | hc
  ·exact h.ok c hc
  ·rw [List.mem_singleton.1 hc]; exact he
 have hlen : (cs ++ [e]).length = cs.length + 1 := by simp
 obtain ⟨u, hu⟩ : ∃ u, Hid (e.cells = u) := ⟨_, hide rfl⟩
 have hbc : ∀ w0, (Instr.build 36 #[(0, .int .i64 e.n), (1, .string e.s), (2, .agg (v8 e.t).toArray)]).run Tryz.prog w0 = .ok (.agg u.toArray) w0 := fun w0 => by rw [← hu.out]; exact hbc w0
 rw [hu.out] at hul hone hflat
 obtain ⟨tg, htg⟩ : ∃ t, v8 e.t = t := ⟨_, rfl⟩
 rw [htg] at it16 B1 r1 s1 h1
 simp only [htg] at hbc ⊢
 clear htg
 obtain ⟨id, hid⟩ : ∃ x, e.n = x := ⟨_, rfl⟩
 obtain ⟨bd, hbd⟩ : ∃ x, e.s = x := ⟨_, rfl⟩
 simp only [hid, hbd] at hbc ⊢
 clear hid hbd
 go_enter Tryz.func37, Tryz.ntmps37
 go_upto_region 1 with fail
 obtain ⟨W, hW⟩ : ∃ W, w.alloc (.cells tg.toArray 30) = W := ⟨_, rfl⟩
 rw [hW] at B1 r1 s1 h1 ⊢
 clear hW
 have B2 : Below W.heap.size W (W.alloc (.cells u.toArray 36)) := (Below.refl _ _).alloc (Nat.le_refl _) _
 have r2 : (W.alloc (.cells u.toArray 36)).rangeAt W.heap.size 0 u := by simpa using range_new W u.toArray 36
 have h2 := h1.below B2
 try simp only [Act.put]
 refine pl_begin ?_
 refine pl_t 7 (v) (by rfl) (pl_one rfl rfl h1.c0 Tryz.underlying63 rfl) rfl ?_
 simp only [nz]
 refine pl_t 8 (?_) (by rfl) ?_ rfl ?_
 rotate_left
 ·go_simp
  try with_reducible rfl
 simp only [nz]
 refine pl_t 9 (?_) (by rfl) ?_ rfl ?_
 rotate_left
 ·go_simp
  try with_reducible rfl
 simp only [nz]
 refine pl_t 10 (.agg tg.toArray) (by rfl) (ex_mid rfl rfl r1 Tryz.underlying30 rfl it16) rfl ?_
 simp only [nz]
 refine pl_t 11 (.agg u.toArray) (by rfl) (ex_build (parts := [(0, .tmp 8), (1, .tmp 9), (2, .tmp 10)]) (vs := [(0, .int .i64 id), (1, .string bd), (2, .agg tg.toArray)]) rfl (by first | with_reducible rfl | rfl | simp [Act.eval]) (hbc _)) rfl ?_
 simp only [nz]
 refine pl_run (d := some 12) (v := .slice (some ⟨W.heap.size, 0, none⟩) 1 1) (w' := W.alloc (.cells u.toArray 36)) (by rfl) (exec_bs1 rfl rfl (run_bs1 63 36 i1 _ u Tryz.underlying63 hi1 hiz (by rw [his, hul]) (by omega) (by omega) _)) rfl ?_
 simp only [nz]
 obtain ⟨W2, hW2⟩ : ∃ X, W.alloc (.cells u.toArray 36) = X := ⟨_, rfl⟩
 rw [hW2] at B2 r2 h2 ⊢
 clear hW2
 refine pl_runX (d := some 13) (by rfl) rfl (ex_app2 rfl rfl rfl Tryz.underlying63 hi1 hiz his (by rw [hib]; decide) rfl h2.own (by have := h2.lt; omega) r2 hul hone hn hzk) ?_
 rintro v6 w6 ⟨o6, g6, gb6⟩
 simp only [nz]
 have hv6 := own_cellC o6
 have hX : w6.heap[O]? = W2.heap[O]? := g6.block O h2.lt (fun q => by have := (h2.own.lt O q.symm).1; omega)
 have th6 := there_blk h2.th hX
 refine pl_store (w' := w6.setCells O 0 [v6]) (by rfl) (ex_put1 (n := 1) rfl rfl rfl th6 (by decide) iszCls hv6.1 hv6.2) rfl ?_
 refine pl_nil ?_
 have hoth : ∀ i, i ≠ O → (w6.setCells O 0 [v6]).heap[i]? = w6.heap[i]? := fun i hi => blk_sets hi
 have r7 : (w6.setCells O 0 [v6]).rangeAt O 0 [v6] := World.rangeAt_setCells_same w6 O 0 [v6] th6
 have HO : Hid (OutC (w6.setCells O 0 [v6]) O v6 (cs ++ [e])) := hide ⟨by rw [size_sets]; exact Nat.lt_of_lt_of_le h2.lt g6.size, by simpa using r7 0 _ rfl, World.there_setCells th6 _ _ _, by
  rw [hlen, hflat]
  exact own_blk o6 (fun g hg => hoth g (fun q => by have := (o6.lt g hg).1; omega)), hok⟩
 have HG : Hid (Grow w (w6.setCells O 0 [v6]) O v v6) := hide ⟨(gb_setsR w6 O [v6] 0).os.trans (g6.os.trans (B2.os.trans B1.os)), (gb_setsR w6 O [v6] 0).tape.trans (g6.tape.trans (B2.tape.trans B1.tape)), (gb_setsR w6 O [v6] 0).output.trans (g6.output.trans (B2.output.trans B1.output)), by rw [size_sets]; exact Nat.le_trans B1.size (Nat.le_trans B2.size g6.size), fun i hi h3 h4 => by
  rw [hoth i h3, g6.block i (Nat.lt_of_lt_of_le hi (Nat.le_trans B1.size B2.size)) (fun q => h4 q.symm), B2.block i (Nat.lt_of_lt_of_le hi B1.size), B1.block i hi], fun g hg => (gb6 g hg).imp (fun q => q) (fun q => Nat.le_trans (Nat.le_trans B1.size B2.size) q)⟩
 clear r7 hoth th6 hX hv6 gb6 g6 o6 r2 h2 B2 h1 r1 B1 h hbc
 go_wp2_with fail
 go_end0
 exact ⟨rfl, v6, HO.out, HG.out⟩
def RowQ (w : World) (B : Nat) (e : TypeId) (k : Nat) (v : Value) (n : Nat) (xs : List Value) : Prop :=
 xs.length = n * k ∧ ((v = .slice none 0 0 ∧ n = 0) ∨ ∃ g off cap, v = .slice (some ⟨g, off, none⟩) n cap ∧ B ≤ g ∧ g < w.heap.size ∧ n ≤ cap ∧ cap ≤ maxLen ∧ w.rangeAt g off xs ∧ w.there g off (cap * k))
theorem there_blkO {w w' : World} {b o n : Nat} (h : w.there b o n) (hb : w'.heap[b]? = w.heap[b]?) : w'.there b o n := fun j hj => by
 obtain ⟨h1, h2⟩ := h j hj
 have e1 : w'.cell? ⟨b, o + j, none⟩ = w.cell? ⟨b, o + j, none⟩ := by simp only [World.cell?, hb]
 have e2 : w'.frozen? ⟨b, o + j, none⟩ = w.frozen? ⟨b, o + j, none⟩ := by simp only [World.frozen?, hb]
 exact ⟨by rw [e1]; exact h1, by rw [e2]; exact h2⟩
theorem blk_lt {w w' : World} {g : Nat} (h : w'.heap[g]? = w.heap[g]?) (hg : g < w.heap.size) : g < w'.heap.size := by
 rw [Array.getElem?_eq_getElem hg] at h
 exact (Array.getElem?_eq_some_iff.1 h).1
theorem RowQ.at {w w' : World} {B : Nat} {e : TypeId} {k : Nat} {v : Value} {n : Nat} {xs : List Value} (h : RowQ w B e k v n xs) (hb : ∀ g, v.ownBlock = some g → w'.heap[g]? = w.heap[g]?) : RowQ w' B e k v n xs := by
 refine ⟨h.1, ?_⟩
 rcases h.2 with h1 | ⟨g, off, cap, rfl, h2, h3, h4, h5, h6, h7⟩
 ·exact .inl h1
 ·have hg := hb g rfl
  exact .inr ⟨g, off, cap, rfl, h2, blk_lt hg h3, h4, h5, range_at h6 hg, there_blkO h7 hg⟩
theorem RowQ.lt {w : World} {B : Nat} {e : TypeId} {k : Nat} {v : Value} {n : Nat} {xs : List Value} (h : RowQ w B e k v n xs) {g : Nat} (hg : v.ownBlock = some g) : B ≤ g ∧ g < w.heap.size := by
 rcases h.2 with ⟨rfl, _⟩ | ⟨g', off, cap, rfl, h2, h3, _⟩
 ·simp [Value.ownBlock] at hg
 ·simp [Value.ownBlock] at hg
  subst hg
  exact ⟨h2, h3⟩
theorem RowQ.slice {w : World} {B : Nat} {e : TypeId} {k : Nat} {v : Value} {n : Nat} {xs : List Value} (h : RowQ w B e k v n xs) : ∃ a cap, v = .slice a n cap := by
 rcases h.2 with ⟨h2, h3⟩ | ⟨g, off, cap, h2, _⟩
 ·exact ⟨none, 0, by rw [h2, h3]⟩
 ·exact ⟨_, cap, h2⟩
theorem RowQ.cellC {w : World} {B : Nat} {e : TypeId} {k : Nat} {v : Value} {n : Nat} {xs : List Value} (h : RowQ w B e k v n xs) : v.cells = #[v] ∧ v.oneCell' = true := by
 rcases h.2 with ⟨rfl, _⟩ | ⟨g, off, cap, rfl, _⟩ <;> exact ⟨rfl, rfl⟩
theorem RowQ.of_own {w : World} {B C : Nat} {e : TypeId} {k : Nat} {v : Value} {n : Nat} {xs : List Value} (h : w.ownsRow B e k v n xs) (hB : C ≤ B) : RowQ w C e k v n xs := by
 refine ⟨h.1, ?_⟩
 have hc := fun g hg => h.cells (g := g) hg
 rcases h.2 with h1 | ⟨g, cap, cur, rfl, h2, h3, h4, h5, h6, h7⟩
 ·exact .inl h1
 ·refine .inr ⟨g, 0, cap, rfl, Nat.le_trans hB h2, (Array.getElem?_eq_some_iff.1 h3).1, h4, h5, fun j u hu => ?_, fun j hj => ?_⟩
  ·have := hc g rfl j u hu
   simpa [Addr.add_lit] using this
  ·rw [Nat.zero_add]
   have hj' : j < cur.size := by rw [h6]; exact hj
   exact ⟨by simp [World.cell?, h3, hj'], by simp [World.frozen?, h3]⟩
theorem rowq_append {P : Program} (w : World) (B : Nat) (t ty e : TypeId) (i : TypeInfo) (z : Value) (k bytes : Nat) (ht : P.underlying t = some (.slice e)) (hi : P.info? e = some i) (hz : i.zero = some z) (hs : i.size = k) (hby : i.bytes = bytes) (hzk : z.cells.size = k) (hk : 0 < k)
  (v : Value) (n : Nat) (xs : List Value) (hown : RowQ w B e k v n xs) (cb : Nat) (u : List Value) (hr : w.rangeAt cb 0 u) (hu : u.length = k) (h1 : ∀ y ∈ u, y.oneCell' = true) (h63 : n + 1 ≤ maxLen) (hbytes : (n + 1) * bytes ≤ 140737488355328) (hB : B ≤ w.heap.size) :
  ∃ v' w', (Builtin.append_ #[t, t] ty #[v, .slice (some ⟨cb, 0, none⟩) 1 1]).run P w = .ok v' w' ∧ RowQ w' B e k v' (n + 1) (xs ++ u) ∧ w.grownBy w' v.ownBlock ∧ ∀ g, v'.ownBlock = some g → v.ownBlock = some g ∨ w.heap.size ≤ g := by
 have hnews : ∀ j y, u[j]? = some y → w.cell? ((⟨cb, 0, none⟩ : Addr).add j) = some y := fun j y hy => by
  have := hr j y hy
  simpa [Addr.add_lit] using this
 have hl : u.length = 1 * i.size := by rw [hu, hs, Nat.one_mul]
 rcases hown.2 with ⟨rfl, rfl⟩ | ⟨g, off, cap, rfl, h2, h3, h4, h5, h6, h7⟩
 ·have hx : xs = [] := List.eq_nil_of_length_eq_zero (by simpa using hown.1)
  subst hx
  obtain ⟨v', w', hrun, ho, hg, -, hat⟩ := run_append_own_at (P := P) w w.heap.size t ty e i z k bytes ht hi hz hs hby hzk hk (.slice none 0 0) 0 [] (World.ownsRow_nil w _ _ _) ⟨cb, 0, none⟩ 1 1 u (by rw [hu, Nat.one_mul]) hnews h1 h63 hbytes (Nat.le_refl _)
  exact ⟨v', w', hrun, RowQ.of_own ho hB, hg, fun g hg' => .inr (ho.lt g hg').1⟩
 ·by_cases hroom : n + 1 ≤ cap
  ·have hkk : n * k + k ≤ cap * k := by rw [← Nat.succ_mul]; exact Nat.mul_le_mul_right k hroom
   have hrun := run_append_room_cells (P := P) w t ty e i ht hi g off n cap ⟨cb, 0, none⟩ 1 1 u hl hnews h1 hroom
    (fun j hj => by have := (h7 (n * k + j) (by rw [hu] at hj; omega)).1; rw [hs, Nat.add_assoc]; exact this)
    (fun j hj => by have := (h7 (n * k + j) (by rw [hu] at hj; omega)).2; rw [hs, Nat.add_assoc]; exact this)
   rw [hs] at hrun
   have hth : w.there g (off + n * k) u.length := fun j hj => by
    have := h7 (n * k + j) (by rw [hu] at hj; omega)
    rw [Nat.add_assoc]
    exact this
   have r1 : (w.setCells g (off + n * k) u).rangeAt g off xs := World.rangeAt_setCells_apart h6 g (off + n * k) u (.inr (.inl (by rw [hown.1]; exact Nat.le_refl _)))
   have r2 : (w.setCells g (off + n * k) u).rangeAt g (off + n * k) u := World.rangeAt_setCells_same w g (off + n * k) u hth
   refine ⟨_, _, hrun, ⟨by rw [List.length_append, hown.1, hu, Nat.succ_mul], .inr ⟨g, off, cap, rfl, h2, by rw [size_sets]; exact h3, hroom, h5, fun j y hy => ?_, World.there_setCells h7 g (off + n * k) u⟩⟩, gb_setsR w g u (off + n * k), fun g' hg' => .inl hg'⟩
   by_cases hj : j < xs.length
   ·rw [List.getElem?_append_left hj] at hy
    exact r1 j y hy
   ·rw [List.getElem?_append_right (by omega)] at hy
    have := r2 (j - xs.length) y hy
    rw [hown.1] at this
    have e1 : off + n * k + (j - n * k) = off + j := by rw [hown.1] at hj; omega
    rw [e1] at this
    exact this
  ·obtain ⟨v', w', hrun, ho, hg⟩ := run_append_arg_grows (P := P) w t ty e i z k bytes ht hi hz hs hby hzk hk ⟨g, off, none⟩ n cap xs hown.1 (fun j y hy => by have := h6 j y hy; simpa [Addr.add_lit] using this) ⟨cb, 0, none⟩ 1 1 u (by rw [hu, Nat.one_mul]) hnews (by omega) h63 hbytes
   exact ⟨v', w', hrun, RowQ.of_own ho hB, ⟨hg.os, hg.tape, hg.output, hg.size, fun b hb _ => hg.block b hb (by simp)⟩, fun g' hg' => .inr (ho.lt g' hg').1⟩
theorem ex_appQ {P : Program} {o : Oper} {a : Act} {w : World} {s x : Operand} {t e : TypeId} {i : TypeInfo} {z : Value} {B cb k : Nat} {v : Value} {n : Nat} {xs u : List Value} (ho : o.op = .call { callee := .builtin .append, args := #[s, x], argTypes := #[t, t] }) (hv : a.eval s = v) (hx : a.eval x = .slice (some ⟨cb, 0, none⟩) 1 1)
    (ht : P.underlying t = some (.slice e)) (hi : P.info? e = some i) (hz : i.zero = some z) (hs : i.size = k) (hb : i.bytes ≤ 1000) (hty : o.type = t)
    (hown : RowQ w B e k v n xs) (hB : B ≤ w.heap.size) (hr : w.rangeAt cb 0 u) (hu : u.length = k) (h1 : ∀ y ∈ u, y.oneCell' = true) (hn : n ≤ 1000000000) (hzk : z.cells.size = k) (hk : 0 < k) :
    ∃ v' w', (execOp a.eval o).run P w = .ok (.value v') w' ∧ (RowQ w' B e k v' (n + 1) (xs ++ u) ∧ w.grownBy w' v.ownBlock ∧ ∀ g, v'.ownBlock = some g → v.ownBlock = some g ∨ w.heap.size ≤ g) := by
  obtain ⟨v', w', hrun, h2, h3, h4⟩ := rowq_append (P := P) w B t o.type e i z k i.bytes ht hi hz hs rfl hzk hk v n xs hown cb u hr hu h1 (by unfold maxLen; omega) (Nat.le_trans (Nat.mul_le_mul (show n + 1 ≤ 1000000001 by omega) hb) (by decide)) hB
  exact ⟨v', w', exec_append1 ho hv hx hrun, h2, h3, h4⟩
def unitV : Value := .agg #[]
structure Nd where
 p : Nat
 v1 : Value
 v6 : Value
 m2 : Nat
 m3 : Nat
 m7 : Nat
def Nd.own (P : Nd) (b : Nat) : Prop := b = P.p ∨ b = P.m2 ∨ b = P.m3 ∨ b = P.m7 ∨ P.v1.ownBlock = some b ∨ P.v6.ownBlock = some b
structure Nt where
 nodes : Int
 way : List Pk
 on : List Pk
 kn : List Ev
 past : List Ev
 th : List Ev
 sent : Int
 taken : Int
def netL (P : Nd) (s : Nt) (l : Int) : List Value := [.int .i64 s.nodes, P.v1, .map (some P.m2), .map (some P.m3), .int .i32 l, .int .u32 0, P.v6, .map (some P.m7), .int .i64 s.sent, .int .i64 s.taken]
structure NetAt (w : World) (B K : Nat) (P : Nd) (s : Nt) (l : Int) : Prop where
 c : w.rangeAt P.p 0 (netL P s l)
 t : w.there P.p 0 10
 o1 : RowQ w B 44 19 P.v1 s.way.length (s.way.flatMap Pk.cells)
 o6 : w.ownsRow B 32 18 P.v6 s.past.length (s.past.flatMap Ev.cells)
 g2 : SetAt 44 unitV w P.m2 K (fun k => ∃ x ∈ s.on, k = klP x)
 g3 : SetAt 36 unitV w P.m3 K (fun k => ∃ x ∈ s.kn, k = klE x)
 g7 : SetAt 32 unitV w P.m7 K (fun k => ∃ x ∈ s.th, k = klE x)
 lt : P.p < w.heap.size
 bp : B ≤ P.p
 b2 : B ≤ P.m2
 b3 : B ≤ P.m3
 b7 : B ≤ P.m7
 n2 : P.m2 ≠ P.p
 n3 : P.m3 ≠ P.p
 n7 : P.m7 ≠ P.p
 n23 : P.m2 ≠ P.m3
 n27 : P.m2 ≠ P.m7
 n37 : P.m3 ≠ P.m7
 r1 : ∀ g, P.v1.ownBlock = some g → g ≠ P.p ∧ g ≠ P.m2 ∧ g ≠ P.m3 ∧ g ≠ P.m7 ∧ P.v6.ownBlock ≠ some g
 r6 : ∀ g, P.v6.ownBlock = some g → g ≠ P.p ∧ g ≠ P.m2 ∧ g ≠ P.m3 ∧ g ≠ P.m7 ∧ P.v1.ownBlock ≠ some g
 kw : ∀ x ∈ s.way, x.ok
 ko : ∀ x ∈ s.on, x.ok
 kk : ∀ x ∈ s.kn, x.ok
 kp : ∀ x ∈ s.past, x.ok
 kt : ∀ x ∈ s.th, x.ok
theorem cells_blk {w w' : World} {b n : Nat} (h : w.there b 0 n) (hb : w'.heap[b]? = w.heap[b]?) : w'.there b 0 n := fun j hj => by
 obtain ⟨h1, h2⟩ := h j hj
 have e1 : w'.cell? ⟨b, 0 + j, none⟩ = w.cell? ⟨b, 0 + j, none⟩ := by simp only [World.cell?, hb]
 have e2 : w'.frozen? ⟨b, 0 + j, none⟩ = w.frozen? ⟨b, 0 + j, none⟩ := by simp only [World.frozen?, hb]
 exact ⟨by rw [e1]; exact h1, by rw [e2]; exact h2⟩
theorem NetAt.on {w w' : World} {B K : Nat} {P : Nd} {s : Nt} {l : Int} (h : NetAt w B K P s l) (hs : w.heap.size ≤ w'.heap.size) (hb : ∀ b, P.own b → w'.heap[b]? = w.heap[b]?) : NetAt w' B K P s l where
 c := range_at h.c (hb _ (.inl rfl))
 t := cells_blk h.t (hb _ (.inl rfl))
 o1 := h.o1.at fun g hg => hb g (.inr (.inr (.inr (.inr (.inl hg)))))
 o6 := owns_at h.o6 fun g hg => hb g (.inr (.inr (.inr (.inr (.inr hg)))))
 g2 := h.g2.at (hb _ (.inr (.inl rfl)))
 g3 := h.g3.at (hb _ (.inr (.inr (.inl rfl))))
 g7 := h.g7.at (hb _ (.inr (.inr (.inr (.inl rfl)))))
 lt := Nat.lt_of_lt_of_le h.lt hs
 bp := h.bp
 b2 := h.b2
 b3 := h.b3
 b7 := h.b7
 n2 := h.n2
 n3 := h.n3
 n7 := h.n7
 n23 := h.n23
 n27 := h.n27
 n37 := h.n37
 r1 := h.r1
 r6 := h.r6
 kw := h.kw
 ko := h.ko
 kk := h.kk
 kp := h.kp
 kt := h.kt
theorem NetAt.own_lt {w : World} {B K : Nat} {P : Nd} {s : Nt} {l : Int} (h : NetAt w B K P s l) {b : Nat} (hb : P.own b) : b < w.heap.size := by
 rcases hb with rfl | rfl | rfl | rfl | hg | hg
 ·exact h.lt
 ·exact h.g2.lt
 ·exact h.g3.lt
 ·exact h.g7.lt
 ·exact (h.o1.lt hg).2
 ·exact owns_lt h.o6 hg
theorem NetAt.own_ge {w : World} {B K : Nat} {P : Nd} {s : Nt} {l : Int} (h : NetAt w B K P s l) {b : Nat} (hb : P.own b) : B ≤ b := by
 rcases hb with rfl | rfl | rfl | rfl | hg | hg
 ·exact h.bp
 ·exact h.b2
 ·exact h.b3
 ·exact h.b7
 ·exact (h.o1.lt hg).1
 ·exact (h.o6.lt b hg).1
theorem NetAt.below {w w' : World} {B K : Nat} {P : Nd} {s : Nt} {l : Int} (h : NetAt w B K P s l) (hb : Below w.heap.size w w') : NetAt w' B K P s l :=
 h.on hb.size fun b hb' => hb.block b (h.own_lt hb')
theorem SetAt.mono {t : TypeId} {u : Value} {w : World} {b n m : Nat} {p : Lit → Prop} (h : SetAt t u w b n p) (hm : n ≤ m) : SetAt t u w b m p := by
 obtain ⟨D, h1, h2⟩ := h
 exact ⟨D, h1.mono hm, h2⟩
theorem NetAt.cell {w : World} {B K : Nat} {P : Nd} {s s' : Nt} {l l' : Int} (h : NetAt w B K P s l) (o : Nat) (v : Value) (hl : (netL P s l).set o v = netL P s' l') (e1 : s'.way = s.way) (e2 : s'.on = s.on) (e3 : s'.kn = s.kn) (e4 : s'.past = s.past) (e5 : s'.th = s.th) : NetAt (w.setCell ⟨P.p, o, none⟩ v) B K P s' l' := by
 have hb : ∀ b, b ≠ P.p → (w.setCell ⟨P.p, o, none⟩ v).heap[b]? = w.heap[b]? := fun b hb => Below.heap_setCell w ⟨P.p, o, none⟩ v b hb
 have hc := range_set h.c o v
 rw [Nat.zero_add, hl] at hc
 obtain ⟨c, t, o1, o6, g2, g3, g7, lt, bp, b2, b3, b7, n2, n3, n7, n23, n27, n37, r1, r6, kw, ko, kk, kp, kt⟩ := h
 exact ⟨hc, there_set t ⟨P.p, o, none⟩ v, by rw [e1]; exact o1.at fun g hg => hb g (r1 g hg).1, by rw [e4]; exact owns_at o6 fun g hg => hb g (r6 g hg).1, by rw [e2]; exact g2.at (hb _ n2), by rw [e3]; exact g3.at (hb _ n3), by rw [e5]; exact g7.at (hb _ n7), by simpa using lt, bp, b2, b3, b7, n2, n3, n7, n23, n27, n37, r1, r6, by rw [e1]; exact kw, by rw [e2]; exact ko, by rw [e3]; exact kk, by rw [e4]; exact kp, by rw [e5]; exact kt⟩
theorem Off.cell {P : Nd} (w : World) (o : Nat) (v : Value) : Off P.own w (w.setCell ⟨P.p, o, none⟩ v) := Off.of_setCell w ⟨P.p, o, none⟩ v (.inl rfl)
theorem NetAt.addWay {w w1 : World} {B K : Nat} {P : Nd} {s : Nt} {l : Int} (h : NetAt w B K P s l) (x : Pk) (hx : x.ok) {v' : Value} (ho : RowQ w1 B 44 19 v' (s.way.length + 1) (s.way.flatMap Pk.cells ++ x.cells)) (hg : w.grownBy w1 P.v1.ownBlock) (hap : ∀ g, v'.ownBlock = some g → P.v1.ownBlock = some g ∨ w.heap.size ≤ g) :
  NetAt (w1.setCell ⟨P.p, 1, none⟩ v') B K ⟨P.p, v', P.v6, P.m2, P.m3, P.m7⟩ ⟨s.nodes, s.way ++ [x], s.on, s.kn, s.past, s.th, s.sent, s.taken⟩ l := by
 have hk : ∀ b, b < w.heap.size → P.v1.ownBlock ≠ some b → w1.heap[b]? = w.heap[b]? := fun b h1 h2 => hg.block b h1 (fun e => h2 e.symm)
 obtain ⟨c, t, o1, o6, g2, g3, g7, lt, bp, b2, b3, b7, n2, n3, n7, n23, n27, n37, r1, r6, kw, ko, kk, kp, kt⟩ := h
 have hp := hk P.p lt (fun e => (r1 _ e).1 rfl)
 have hb : ∀ b, b ≠ P.p → (w1.setCell ⟨P.p, 1, none⟩ v').heap[b]? = w1.heap[b]? := fun b hb => Below.heap_setCell w1 ⟨P.p, 1, none⟩ v' b hb
 have hc := range_set (range_at c hp) 1 v'
 rw [Nat.zero_add] at hc
 have ne' : ∀ g, v'.ownBlock = some g → g ≠ P.p ∧ g ≠ P.m2 ∧ g ≠ P.m3 ∧ g ≠ P.m7 ∧ P.v6.ownBlock ≠ some g := fun g hv => by
  rcases hap g hv with h1 | h1
  ·exact r1 g h1
  ·exact ⟨by omega, by have := g2.lt; omega, by have := g3.lt; omega, by have := g7.lt; omega, fun e => by have := owns_lt o6 e; omega⟩
 have h2 : P.v1.ownBlock ≠ some P.m2 := fun e => (r1 _ e).2.1 rfl
 have h3 : P.v1.ownBlock ≠ some P.m3 := fun e => (r1 _ e).2.2.1 rfl
 have h7 : P.v1.ownBlock ≠ some P.m7 := fun e => (r1 _ e).2.2.2.1 rfl
 refine ⟨hc, there_set (cells_blk t hp) ⟨P.p, 1, none⟩ v', ?_, owns_at (owns_at o6 fun g hv => hk g (owns_lt o6 hv) (r6 g hv).2.2.2.2) (fun g hv => hb g (r6 g hv).1), (g2.at (hk _ g2.lt h2)).at (hb _ n2), (g3.at (hk _ g3.lt h3)).at (hb _ n3), (g7.at (hk _ g7.lt h7)).at (hb _ n7), ?_, bp, b2, b3, b7, n2, n3, n7, n23, n27, n37, ne', fun g hv => ⟨(r6 g hv).1, (r6 g hv).2.1, (r6 g hv).2.2.1, (r6 g hv).2.2.2.1, fun e => (ne' g e).2.2.2.2 hv⟩, ?_, ko, kk, kp, kt⟩
 ·have e : (s.way ++ [x]).flatMap Pk.cells = s.way.flatMap Pk.cells ++ x.cells := by simp
  show RowQ _ B 44 19 v' (s.way ++ [x]).length ((s.way ++ [x]).flatMap Pk.cells)
  rw [e, List.length_append]
  exact ho.at fun g hv => hb g (ne' g hv).1
 ·have := hg.size
  show P.p < _
  simp
  omega
 ·intro y hy
  rcases List.mem_append.1 hy with hy | hy
  ·exact kw y hy
  ·obtain rfl := List.mem_singleton.1 hy
   exact hx
theorem NetAt.addPast {w w1 : World} {B K : Nat} {P : Nd} {s : Nt} {l : Int} (h : NetAt w B K P s l) (x : Ev) (hx : x.ok) {v' : Value} (ho : w1.ownsRow B 32 18 v' (s.past.length + 1) (s.past.flatMap Ev.cells ++ x.cells)) (hg : w.grownBy w1 P.v6.ownBlock) (hap : ∀ g, v'.ownBlock = some g → P.v6.ownBlock = some g ∨ w.heap.size ≤ g) :
  NetAt (w1.setCell ⟨P.p, 6, none⟩ v') B K ⟨P.p, P.v1, v', P.m2, P.m3, P.m7⟩ ⟨s.nodes, s.way, s.on, s.kn, s.past ++ [x], s.th, s.sent, s.taken⟩ l := by
 have hk : ∀ b, b < w.heap.size → P.v6.ownBlock ≠ some b → w1.heap[b]? = w.heap[b]? := fun b h1 h2 => hg.block b h1 (fun e => h2 e.symm)
 obtain ⟨c, t, o1, o6, g2, g3, g7, lt, bp, b2, b3, b7, n2, n3, n7, n23, n27, n37, r1, r6, kw, ko, kk, kp, kt⟩ := h
 have hp := hk P.p lt (fun e => (r6 _ e).1 rfl)
 have hb : ∀ b, b ≠ P.p → (w1.setCell ⟨P.p, 6, none⟩ v').heap[b]? = w1.heap[b]? := fun b hb => Below.heap_setCell w1 ⟨P.p, 6, none⟩ v' b hb
 have hc := range_set (range_at c hp) 6 v'
 rw [Nat.zero_add] at hc
 have ne' : ∀ g, v'.ownBlock = some g → g ≠ P.p ∧ g ≠ P.m2 ∧ g ≠ P.m3 ∧ g ≠ P.m7 ∧ P.v1.ownBlock ≠ some g := fun g hv => by
  rcases hap g hv with h1 | h1
  ·exact r6 g h1
  ·exact ⟨by omega, by have := g2.lt; omega, by have := g3.lt; omega, by have := g7.lt; omega, fun e => by have := (o1.lt e).2; omega⟩
 have h2 : P.v6.ownBlock ≠ some P.m2 := fun e => (r6 _ e).2.1 rfl
 have h3 : P.v6.ownBlock ≠ some P.m3 := fun e => (r6 _ e).2.2.1 rfl
 have h7 : P.v6.ownBlock ≠ some P.m7 := fun e => (r6 _ e).2.2.2.1 rfl
 refine ⟨hc, there_set (cells_blk t hp) ⟨P.p, 6, none⟩ v', (o1.at fun g hv => hk g (o1.lt hv).2 (r1 g hv).2.2.2.2).at (fun g hv => hb g (r1 g hv).1), ?_, (g2.at (hk _ g2.lt h2)).at (hb _ n2), (g3.at (hk _ g3.lt h3)).at (hb _ n3), (g7.at (hk _ g7.lt h7)).at (hb _ n7), ?_, bp, b2, b3, b7, n2, n3, n7, n23, n27, n37, fun g hv => ⟨(r1 g hv).1, (r1 g hv).2.1, (r1 g hv).2.2.1, (r1 g hv).2.2.2.1, fun e => (ne' g e).2.2.2.2 hv⟩, ne', kw, ko, kk, ?_, kt⟩
 ·have e : (s.past ++ [x]).flatMap Ev.cells = s.past.flatMap Ev.cells ++ x.cells := by simp
  show World.ownsRow _ B 32 18 v' (s.past ++ [x]).length ((s.past ++ [x]).flatMap Ev.cells)
  rw [e, List.length_append]
  exact owns_at ho fun g hv => hb g (ne' g hv).1
 ·have := hg.size
  show P.p < _
  simp
  omega
 ·intro y hy
  rcases List.mem_append.1 hy with hy | hy
  ·exact kp y hy
  ·obtain rfl := List.mem_singleton.1 hy
   exact hx
theorem NetAt.addOn {w w1 : World} {B K : Nat} {P : Nd} {s : Nt} {l : Int} (h : NetAt w B K P s l) (x : Pk) (hx : x.ok) (hm : SetAt 44 unitV w1 P.m2 (K + 1) (fun k => k = klP x ∨ ∃ y ∈ s.on, k = klP y)) (hg : w.grownBy w1 (some P.m2)) :
  NetAt w1 B (K + 1) P ⟨s.nodes, s.way, s.on ++ [x], s.kn, s.past, s.th, s.sent, s.taken⟩ l := by
 have hk : ∀ b, b < w.heap.size → b ≠ P.m2 → w1.heap[b]? = w.heap[b]? := fun b h1 h2 => hg.block b h1 (fun e => h2 (Option.some.inj e))
 obtain ⟨c, t, o1, o6, g2, g3, g7, lt, bp, b2, b3, b7, n2, n3, n7, n23, n27, n37, r1, r6, kw, ko, kk, kp, kt⟩ := h
 have hp := hk P.p lt n2.symm
 refine ⟨range_at c hp, cells_blk t hp, o1.at fun g hv => hk g ((o1.lt hv).2) (r1 g hv).2.1, owns_at o6 fun g hv => hk g (owns_lt o6 hv) (r6 g hv).2.1, hm.same fun k => ?_, (g3.at (hk _ g3.lt n23.symm)).mono (by omega), (g7.at (hk _ g7.lt n27.symm)).mono (by omega), Nat.lt_of_lt_of_le lt hg.size, bp, b2, b3, b7, n2, n3, n7, n23, n27, n37, r1, r6, kw, ?_, kk, kp, kt⟩
 ·constructor
  ·rintro (rfl | ⟨y, hy, rfl⟩)
   ·exact ⟨x, by simp, rfl⟩
   ·exact ⟨y, by simp [hy], rfl⟩
  ·rintro ⟨y, hy, rfl⟩
   rcases List.mem_append.1 hy with hy | hy
   ·exact .inr ⟨y, hy, rfl⟩
   ·obtain rfl := List.mem_singleton.1 hy
    exact .inl rfl
 ·intro y hy
  rcases List.mem_append.1 hy with hy | hy
  ·exact ko y hy
  ·obtain rfl := List.mem_singleton.1 hy
   exact hx
theorem NetAt.addKn {w w1 : World} {B K : Nat} {P : Nd} {s : Nt} {l : Int} (h : NetAt w B K P s l) (x : Ev) (hx : x.ok) (hm : SetAt 36 unitV w1 P.m3 (K + 1) (fun k => k = klE x ∨ ∃ y ∈ s.kn, k = klE y)) (hg : w.grownBy w1 (some P.m3)) :
  NetAt w1 B (K + 1) P ⟨s.nodes, s.way, s.on, s.kn ++ [x], s.past, s.th, s.sent, s.taken⟩ l := by
 have hk : ∀ b, b < w.heap.size → b ≠ P.m3 → w1.heap[b]? = w.heap[b]? := fun b h1 h2 => hg.block b h1 (fun e => h2 (Option.some.inj e))
 obtain ⟨c, t, o1, o6, g2, g3, g7, lt, bp, b2, b3, b7, n2, n3, n7, n23, n27, n37, r1, r6, kw, ko, kk, kp, kt⟩ := h
 have hp := hk P.p lt n3.symm
 refine ⟨range_at c hp, cells_blk t hp, o1.at fun g hv => hk g ((o1.lt hv).2) (r1 g hv).2.2.1, owns_at o6 fun g hv => hk g (owns_lt o6 hv) (r6 g hv).2.2.1, (g2.at (hk _ g2.lt n23)).mono (by omega), hm.same fun k => ?_, (g7.at (hk _ g7.lt n37.symm)).mono (by omega), Nat.lt_of_lt_of_le lt hg.size, bp, b2, b3, b7, n2, n3, n7, n23, n27, n37, r1, r6, kw, ko, ?_, kp, kt⟩
 ·constructor
  ·rintro (rfl | ⟨y, hy, rfl⟩)
   ·exact ⟨x, by simp, rfl⟩
   ·exact ⟨y, by simp [hy], rfl⟩
  ·rintro ⟨y, hy, rfl⟩
   rcases List.mem_append.1 hy with hy | hy
   ·exact .inr ⟨y, hy, rfl⟩
   ·obtain rfl := List.mem_singleton.1 hy
    exact .inl rfl
 ·intro y hy
  rcases List.mem_append.1 hy with hy | hy
  ·exact kk y hy
  ·obtain rfl := List.mem_singleton.1 hy
   exact hx
theorem NetAt.addTh {w w1 : World} {B K : Nat} {P : Nd} {s : Nt} {l : Int} (h : NetAt w B K P s l) (x : Ev) (hx : x.ok) (hm : SetAt 32 unitV w1 P.m7 (K + 1) (fun k => k = klE x ∨ ∃ y ∈ s.th, k = klE y)) (hg : w.grownBy w1 (some P.m7)) :
  NetAt w1 B (K + 1) P ⟨s.nodes, s.way, s.on, s.kn, s.past, s.th ++ [x], s.sent, s.taken⟩ l := by
 have hk : ∀ b, b < w.heap.size → b ≠ P.m7 → w1.heap[b]? = w.heap[b]? := fun b h1 h2 => hg.block b h1 (fun e => h2 (Option.some.inj e))
 obtain ⟨c, t, o1, o6, g2, g3, g7, lt, bp, b2, b3, b7, n2, n3, n7, n23, n27, n37, r1, r6, kw, ko, kk, kp, kt⟩ := h
 have hp := hk P.p lt n7.symm
 refine ⟨range_at c hp, cells_blk t hp, o1.at fun g hv => hk g ((o1.lt hv).2) (r1 g hv).2.2.2.1, owns_at o6 fun g hv => hk g (owns_lt o6 hv) (r6 g hv).2.2.2.1, (g2.at (hk _ g2.lt n27)).mono (by omega), (g3.at (hk _ g3.lt n37)).mono (by omega), hm.same fun k => ?_, Nat.lt_of_lt_of_le lt hg.size, bp, b2, b3, b7, n2, n3, n7, n23, n27, n37, r1, r6, kw, ko, kk, kp, ?_⟩
 ·constructor
  ·rintro (rfl | ⟨y, hy, rfl⟩)
   ·exact ⟨x, by simp, rfl⟩
   ·exact ⟨y, by simp [hy], rfl⟩
  ·rintro ⟨y, hy, rfl⟩
   rcases List.mem_append.1 hy with hy | hy
   ·exact .inr ⟨y, hy, rfl⟩
   ·obtain rfl := List.mem_singleton.1 hy
    exact .inl rfl
 ·intro y hy
  rcases List.mem_append.1 hy with hy | hy
  ·exact kt y hy
  ·obtain rfl := List.mem_singleton.1 hy
   exact hx
theorem ex_box {P : Program} {o : Oper} {a : Act} {w : World} {t : TypeId} {x : Operand} {u : Array Value} (ho : o.op = .box t x) (hx : a.eval x = .agg u) : (execOp a.eval o).run P w = .ok (.value (.pointer (some ⟨w.heap.size, 0, none⟩))) (w.alloc (.cells u t)) := by
 unfold execOp
 simp [ho, hx, Instr.box, newVar, newRow, Value.cells]
theorem ex_mm {P : Program} {o : Oper} {a : Act} {w : World} {t : TypeId} (ho : o.op = .makeMap t none) : (execOp a.eval o).run P w = .ok (.value (.map (some w.heap.size))) (w.alloc (.map #[] 0)) := by
 unfold execOp
 simp only [ho]
 rfl
theorem ex_look {P : Program} {o : Oper} {a : Act} {w : World} {t : TypeId} {m x : Operand} {c : Bool} {mv kv v : Value} (ho : o.op = .lookup t m x c) (hm : a.eval m = mv) (hx : a.eval x = kv) (hr : (Instr.lookup t mv kv c).run P w = .ok v w) : (execOp a.eval o).run P w = .ok (.value v) w := by
 unfold execOp
 simp only [ho, hm, hx, Sem.run_bind, hr, Result.andThen_ok, Sem.run_pure]
theorem ex_mapUp {P : Program} {o : Oper} {a : Act} {w w' : World} {t : TypeId} {m x y : Operand} {mv kv u : Value} (ho : o.op = .mapUpdate t m x y) (hm : a.eval m = mv) (hx : a.eval x = kv) (hy : a.eval y = u) (hr : (Instr.mapUpdate t mv kv u).run P w = .ok () w') : (execOp a.eval o).run P w = .ok .skip w' := by
 unfold execOp
 simp only [ho, hm, hx, hy, Sem.run_bind, hr, Result.andThen_ok, Sem.run_pure]
theorem zeroUnit (w : World) : (zeroValue 70).run Tryz.prog w = .ok unitV w := by kernel_rfl
theorem zeroUnitE (w : World) : (zeroValue 70).run Tryz.prog w = .ok (.agg ([] : List Value).toArray) w := by kernel_rfl
theorem buildUnit (w : World) : (Instr.build 70 #[]).run Tryz.prog w = .ok unitV w := by kernel_rfl
theorem buildHist (m : Nat) (w : World) : (Instr.build 79 #[(2, .map (some m))]).run Tryz.prog w = .ok (.agg #[.int .i32 0, .int .u32 0, .slice none 0 0, .map (some m)]) w := by kernel_rfl
theorem buildNet (n : Int) (m2 m3 m7 : Nat) (w : World) : (Instr.build 85 #[(0, .int .i64 n), (2, .map (some m2)), (3, .map (some m3)), (4, .agg #[.int .i32 0, .int .u32 0, .slice none 0 0, .map (some m7)])]).run Tryz.prog w = .ok (.agg #[.int .i64 n, .slice none 0 0, .map (some m2), .map (some m3), .int .i32 0, .int .u32 0, .slice none 0 0, .map (some m7), .int .i64 0, .int .i64 0]) w := by kernel_rfl
set_option maxRecDepth 100000 in
set_option maxHeartbeats 2000000 in
theorem nmade_any (N : Nat) (n : Int) (w : World) (c0 : w.cell? ⟨N, 0, none⟩ = some (.int .i64 n)) : Calls Tryz.prog 27 #[.pointer (some ⟨N, 0, none⟩)] w fun e w' => e = .returned (.bool (decide (0 < n))) ∧ w' = w := by
 go_enter Tryz.func27, Tryz.ntmps27
 go_wp2_with fail
 go_ret
 exact ⟨by simp, rfl⟩
set_option maxRecDepth 100000 in
set_option maxHeartbeats 2000000 in
theorem good4 (w : World) : Calls Tryz.prog 25 #[.int .i64 4] w fun e w' => e = .returned (.bool true) ∧ w' = w := by
 go_enter Tryz.func25, Tryz.ntmps25
 go_wp2_with fail
 go_ret
 exact ⟨rfl, rfl⟩
theorem NetAt.c0 {w : World} {B K : Nat} {P : Nd} {s : Nt} {l : Int} (h : NetAt w B K P s l) : w.cell? ⟨P.p, 0, none⟩ = some (.int .i64 s.nodes) := h.c 0 _ rfl
set_option maxRecDepth 100000 in
set_option maxHeartbeats 2000000 in
theorem nnew_any (n : Int) (w : World) (cg : ∀ w0, Calls Tryz.prog 25 #[.int .i64 n] w0 fun e w' => e = .returned (.bool true) ∧ w' = w0) : Calls Tryz.prog 7 #[.int .i64 n] w fun e w' => ∃ P : Nd, e = .returned (.pointer (some ⟨P.p, 0, none⟩)) ∧ NetAt w' w.heap.size 0 P ⟨n, [], [], [], [], [], 0, 0⟩ 0 ∧ Below w.heap.size w w' := by
 go_enter Tryz.func7, Tryz.ntmps7
 go_upto_region 1 with fail
 try simp only [Act.put]
 refine pl_begin ?_
 refine pl_t 3 (?_) (by rfl) ?_ rfl ?_
 rotate_left
 ·go_simp
  try with_reducible rfl
 simp only [nz]
 refine pl_call (d := some 4) (by rfl) (by go_simp; first | done | exact ⟨rfl, rfl⟩ | with_reducible rfl) rfl ?_
 refine (cg w).mono ?_
 rintro _ w1 ⟨rfl, hw1⟩
 refine ⟨_, rfl, ?_⟩
 simp only [nz]
 obtain rfl := hw1.symm
 refine pl_t 5 (?_) (by rfl) ?_ rfl ?_
 rotate_left
 ·go_simp
  try with_reducible rfl
 simp only [nz]
 refine pl_nil ?_
 go_upto_region 3 with fail
 try simp only [Act.put]
 refine pl_begin ?_
 refine pl_t 6 (?_) (by rfl) ?_ rfl ?_
 rotate_left
 ·go_simp
  try with_reducible rfl
 simp only [nz]
 refine pl_run (d := some 7) (v := .map (some w.heap.size)) (w' := w.alloc (.map #[] 0)) (by rfl) (ex_mm rfl) rfl ?_
 simp only [nz]
 refine pl_run (d := some 8) (v := .map (some (w.alloc (.map #[] 0)).heap.size)) (w' := (w.alloc (.map #[] 0)).alloc (.map #[] 0)) (by rfl) (ex_mm rfl) rfl ?_
 simp only [nz]
 refine pl_run (d := some 9) (v := .map (some ((w.alloc (.map #[] 0)).alloc (.map #[] 0)).heap.size)) (w' := ((w.alloc (.map #[] 0)).alloc (.map #[] 0)).alloc (.map #[] 0)) (by rfl) (ex_mm rfl) rfl ?_
 simp only [nz]
 have hz : (w.alloc (.map #[] 0)).heap.size = w.heap.size + 1 := by simp
 have hz2 : ((w.alloc (.map #[] 0)).alloc (.map #[] 0)).heap.size = w.heap.size + 2 := by simp
 have hz3 : (((w.alloc (.map #[] 0)).alloc (.map #[] 0)).alloc (.map #[] 0)).heap.size = w.heap.size + 3 := by simp
 simp only [hz, hz2]
 have a1 := SetAt.made 44 unitV w
 have a2 := SetAt.made 36 unitV (w.alloc (.map #[] 0))
 have a3 := SetAt.made 32 unitV ((w.alloc (.map #[] 0)).alloc (.map #[] 0))
 rw [hz] at a2
 rw [hz2] at a3
 have bl : ∀ (W : World) (o : Obj), Below W.heap.size W (W.alloc o) := fun W o => (Below.refl _ _).alloc (Nat.le_refl _) _
 have b1 := bl w (.map #[] 0)
 have b2 := bl (w.alloc (.map #[] 0)) (.map #[] 0)
 have b3 := bl ((w.alloc (.map #[] 0)).alloc (.map #[] 0)) (.map #[] 0)
 have a1 := (a1.at (b2.block _ (by omega))).at (b3.block _ (by omega))
 have a2 := a2.at (b3.block _ (by omega))
 have hB : Below w.heap.size w (((w.alloc (.map #[] 0)).alloc (.map #[] 0)).alloc (.map #[] 0)) := (b1.trans (b2.mono (by omega))).trans (b3.mono (by omega))
 clear b1 b2 b3
 obtain ⟨W, hW⟩ : ∃ W, ((w.alloc (.map #[] 0)).alloc (.map #[] 0)).alloc (.map #[] 0) = W := ⟨_, rfl⟩
 rw [hW] at a1 a2 a3 hz3 hB ⊢
 have HZ3 := hide hz3
 clear hW hz hz2 hz3
 refine pl_t 10 (.agg #[.int .i32 0, .int .u32 0, .slice none 0 0, .map (some (w.heap.size + 2))]) (by rfl) (ex_build (parts := [(2, .tmp 9)]) rfl rfl (buildHist _ _)) rfl ?_
 simp only [nz]
 refine pl_t 11 (.agg #[.int .i64 n, .slice none 0 0, .map (some w.heap.size), .map (some (w.heap.size + 1)), .int .i32 0, .int .u32 0, .slice none 0 0, .map (some (w.heap.size + 2)), .int .i64 0, .int .i64 0]) (by rfl) (ex_build (parts := [(0, .tmp 6), (2, .tmp 7), (3, .tmp 8), (4, .tmp 10)]) rfl rfl (buildNet _ _ _ _ _)) rfl ?_
 simp only [nz]
 refine pl_run (d := some 12) (v := .pointer (some ⟨W.heap.size, 0, none⟩)) (w' := W.alloc (.cells #[.int .i64 n, .slice none 0 0, .map (some w.heap.size), .map (some (w.heap.size + 1)), .int .i32 0, .int .u32 0, .slice none 0 0, .map (some (w.heap.size + 2)), .int .i64 0, .int .i64 0] 85)) (by rfl) (ex_box rfl rfl) rfl ?_
 simp only [nz]
 refine pl_t 2 (?_) (by rfl) ?_ rfl ?_
 rotate_left
 ·go_simp
  try with_reducible rfl
 simp only [nz]
 refine pl_nil ?_
 have hz3 := HZ3.out
 obtain ⟨hb, hr, hs⟩ := boxed_new W (netL ⟨W.heap.size, .slice none 0 0, .slice none 0 0, w.heap.size, w.heap.size + 1, w.heap.size + 2⟩ ⟨n, [], [], [], [], [], 0, 0⟩ 0) 85
 have ht := there_newN W (netL ⟨W.heap.size, .slice none 0 0, .slice none 0 0, w.heap.size, w.heap.size + 1, w.heap.size + 2⟩ ⟨n, [], [], [], [], [], 0, 0⟩ 0).toArray 85 (n := 10) rfl
 have HA : Hid (NetAt (W.alloc (.cells (netL ⟨W.heap.size, .slice none 0 0, .slice none 0 0, w.heap.size, w.heap.size + 1, w.heap.size + 2⟩ ⟨n, [], [], [], [], [], 0, 0⟩ 0).toArray 85)) w.heap.size 0 ⟨W.heap.size, .slice none 0 0, .slice none 0 0, w.heap.size, w.heap.size + 1, w.heap.size + 2⟩ ⟨n, [], [], [], [], [], 0, 0⟩ 0) := hide
  ⟨hr, ht, ⟨rfl, .inl ⟨rfl, rfl⟩⟩, ⟨rfl, .inl ⟨rfl, rfl⟩⟩, (a1.at (hb.block _ (by omega))).same (by simp), (a2.at (hb.block _ (by omega))).same (by simp), (a3.at (hb.block _ (by omega))).same (by simp), hs, by show w.heap.size ≤ W.heap.size; omega, Nat.le_refl _, by show w.heap.size ≤ w.heap.size + 1; omega, by show w.heap.size ≤ w.heap.size + 2; omega, by show w.heap.size ≠ W.heap.size; omega, by show w.heap.size + 1 ≠ W.heap.size; omega, by show w.heap.size + 2 ≠ W.heap.size; omega, by show w.heap.size ≠ w.heap.size + 1; omega, by show w.heap.size ≠ w.heap.size + 2; omega, by show w.heap.size + 1 ≠ w.heap.size + 2; omega, (fun g hg => by cases hg), (fun g hg => by cases hg), by simp, by simp, by simp, by simp, by simp⟩
 have HB := hide (hB.trans (hb.mono hB.size))
 clear hb hr hs ht a1 a2 a3 hB hz3
 go_wp2_with fail
 go_ret
 exact ⟨_, rfl, HA.out, HB.out⟩
set_option maxRecDepth 100000 in
set_option maxHeartbeats 2000000 in
theorem nlen_any (B K : Nat) (P : Nd) (s : Nt) (l : Int) (w : World) (h : NetAt w B K P s l) (hn : 0 < s.nodes) : Calls Tryz.prog 21 #[.pointer (some ⟨P.p, 0, none⟩)] w fun e w' => e = .returned (.int .i64 (s.way.length : Int)) ∧ w' = w := by
 have cm := nmade_any P.p s.nodes w h.c0
 rw [decide_eq_true hn] at cm
 have h1 : w.cell? ⟨P.p, 1, none⟩ = some P.v1 := h.c 1 _ rfl
 obtain ⟨a, cap, hv⟩ := h.o1.slice
 rw [hv] at h1
 clear h hv hn
 go_enter Tryz.func21, Tryz.ntmps21
 go_wp2_with fail
 refine cm.mono ?_
 rintro e w' ⟨rfl, hw⟩
 obtain rfl := hw.symm
 clear cm
 go_wp2_with fail
 go_ret
 exact ⟨rfl, rfl⟩
structure XS (w : World) (X A B n : Nat) (q : List Value) (W : World) : Prop where
 row : W.rangeAt B 0 q
 box : W.there B 0 n
 ans : W.there A 0 n
 grown : w.grownBy W (some X)
 la : A < W.heap.size
 lb : B < W.heap.size
 na : w.heap.size ≤ A
 nb : w.heap.size ≤ B
 ne : A ≠ B
 lx : X < w.heap.size
theorem XS.gb {w W W' : World} {X A B n : Nat} {q : List Value} (h : XS w X A B n q W) (g : W.grownBy W' (some X)) : XS w X A B n q W' := by
 have h1 := h.na
 have h2 := h.nb
 have h3 := h.lx
 exact ⟨range_gbR h.row g h.lb (by omega), there_gbR h.box g h.lb (by omega), there_gbR h.ans g h.la (by omega), gb_trans h.grown g, Nat.lt_of_lt_of_le h.la g.size, Nat.lt_of_lt_of_le h.lb g.size, h1, h2, h.ne, h3⟩
theorem XS.st {w W : World} {D X A B n o : Nat} {q vs : List Value} {zs : List Int} {e : Int} (h : XS w X A B n q W) (hs : RSt D W X zs e) : RSt D (W.setCells B o vs) X zs e :=
 hs.gb (gb_setsR W B vs o) (.inr (by have := h.nb; have := h.lx; omega))
theorem RSt.bad {D X : Nat} {w : World} {zs : List Int} {e : Int} (h : RSt D w X zs e) (e' : Int) (he : e' ≠ 0) : RSt D (w.setCells X 2 [.int .i64 e']) X zs e' := by
 obtain ⟨a, p, hR, _⟩ := h
 exact ⟨a, p, hR.set2 e', fun h => absurd h he⟩
def kdE (rest : List Int) (e most : Int) : Int := if (numS rest e most).2.2 == 0 then (if (numS rest e most).1 == 0 then 130 else (numS rest e most).2.2) else (numS rest e most).2.2
def xvtS (rest : List Int) (e : Int) : Vt × List Int × Int :=
 let x0 := numS rest e 2
 let x1 := numS x0.2.1 (kdE rest e 2) 1048576
 let x2 := numS x1.2.1 x1.2.2 1099511627776
 let x3 := numS x2.2.1 x2.2.2 1099511627776
 let x4 := rawS x3.2.1 x3.2.2 32
 (⟨x0.1, x1.1, x2.1, x3.1, padN 32 x4.1⟩, x4.2.1, x4.2.2)
theorem RSt.lt {D : Nat} {w : World} {R : Nat} {rest : List Int} {e : Int} (h : RSt D w R rest e) : R < w.heap.size := by
 obtain ⟨zs, p, hR, _⟩ := h
 exact hR.1
theorem rst_low {D : Nat} {w w' : World} {R B : Nat} {rest : List Int} {e : Int} (h : RSt D w R rest e) (hb : Below B w w') (hR : R < B) : RSt D w' R rest e := by
 have key : ∀ b, b < B → w'.heap[b]? = w.heap[b]? := fun b hbb => hb.block b hbb
 obtain ⟨zs, p, ⟨h0, ⟨a, cap, g1, g2, g3, g4, g5⟩, h2, h3, f0, f1, f2⟩, hd⟩ := h
 have cR := fun o => @cell_block w w' R o (key R hR)
 refine ⟨zs, p, ⟨Nat.lt_of_lt_of_le h0 hb.size, ⟨a, cap, by rw [(cR 0).1]; exact g1, g2, g3, ⟨g4.1, g4.2.1, ?_⟩, g5⟩, by rw [(cR 1).1]; exact h2, by rw [(cR 2).1]; exact h3, by rw [(cR 0).2]; exact f0, by rw [(cR 1).2]; exact f1, by rw [(cR 2).2]; exact f2⟩, hd⟩
 rcases g4.2.2 with g | ⟨b, off, rfl, g6, g7⟩
 ·exact .inl g
 ·have hbR := (g5 _ rfl).2
  exact .inr ⟨b, off, rfl, Nat.lt_of_lt_of_le g6 hb.size, fun j v hv => by rw [(@cell_block w w' b (off + j) (key b (by simp at hbR; omega))).1]; exact g7 j v hv⟩
abbrev Xst := List Int × Int
structure XR (w : World) (D X : Nat) (s : Xst) : Prop where
 st : RSt D w X s.1 s.2
 lx : X < w.heap.size
 ld : D ≤ X
theorem RSt.bs {D X : Nat} {w : World} {rest : List Int} {e : Int} (h : RSt D w X rest e) : e = 0 → Bs rest := fun he => by
 obtain ⟨zs, p, ⟨_, ⟨a, cap, _, _, _, hr, _⟩, _⟩, h2⟩ := h
 rw [← h2 he]
 exact Bs.sub (fun z hz => hr.2.1 z hz) _
theorem XR.gb {w w' : World} {D X : Nat} {s s' : Xst} (h : XR w D X s) (hg : w.grownBy w' (some X)) (hs : RSt D w' X s'.1 s'.2) : XR w' D X s' := ⟨hs, Nat.lt_of_lt_of_le h.lx hg.size, h.ld⟩
theorem XR.low {w w' : World} {D X n : Nat} {s : Xst} (h : XR w D X s) (hb : Below n w w') (hX : X < n) : XR w' D X s := ⟨rst_low h.st hb hX, Nat.lt_of_lt_of_le h.lx hb.size, h.ld⟩
theorem XR.below {w w' : World} {D X : Nat} {s : Xst} (h : XR w D X s) (hb : Below w.heap.size w w') : XR w' D X s := h.low hb h.lx
def xnuS (most : Int) (s : Xst) : Int × Xst := numS s.1 s.2 most
def xtgS (s : Xst) : List Int × Xst := (padN 16 (rawS s.1 s.2 16).1, (rawS s.1 s.2 16).2)
def xsiS (s : Xst) : Sg × Xst := (⟨(xnuS 64 s).1, (xtgS (xnuS 64 s).2).1⟩, (xtgS (xnuS 64 s).2).2)
def xvoS (s : Xst) : Vt × Xst := xvtS s.1 s.2
def xbaS (s : Xst) : (Bool × List Rq) × Xst := (((getB s.1 s.2).q, (getB s.1 s.2).rs.map BRq.un), (getB s.1 s.2).rest, (getB s.1 s.2).err)
def xitG {α : Type} (one : Xst → α × Xst) (s : Xst) : Nat → List α × Xst
  | 0 => ([], s)
  | k + 1 => if (xitG one s k).2.2 = 0 then ((xitG one s k).1 ++ [(one (xitG one s k).2).1], (one (xitG one s k).2).2) else xitG one s k
def xlsS {α : Type} (most : Int) (one : Xst → α × Xst) (s : Xst) : List α × Xst := xitG one (xnuS most s).2 (xnuS most s).1.toNat
theorem hs_forkL {P : Program} {ops : Array Oper} {Q : Exit → Act → World → Prop} {l : List Nat} {S : World → Prop} {fuel : Nat} {listed : Array Bool} {a : Act} {w : World} (hr : Region.ready .any ops listed = l) (hl : l ≠ [])
  (h : ∀ i ∈ l, StepS P ops Q S fuel listed i a w) : HeldS P ops Q S (fuel + 1) listed a w := by
 subst hr
 refine wpAnyH_all rfl ?_ ?_
 ·exact hl
 ·intro k hk
  exact h k hk
theorem hs_runX {P : Program} {ops : Array Oper} {Q : Exit → Act → World → Prop} {i : Nat} {S : World → Prop} {oi : Oper} {d : Option Nat} {R : Value → World → Prop} {fuel : Nat} {listed : Array Bool} {a : Act} {w : World} (hi : ops[i]? = some oi)
  (hr : Region.ready .any ops listed = [i]) (hw : Region.wanted oi (yielded ops a.tmps) = true) (hdst : oi.dst = d) (hy : ∃ v w', (execOp a.eval oi).run P w = .ok (.value v) w' ∧ R v w')
  (h : ∀ v w', R v w' → S w' ∧ HeldS P ops Q S fuel (listed.setIfInBounds i true) (a.put d v) w') : HeldS P ops Q S (fuel + 1) listed a w := by
 obtain ⟨v, w', h1, h2⟩ := hy
 obtain ⟨h4, h5⟩ := h v w' h2
 exact hs_run hi hr hw h1 hdst h4 h5
def xceS (s : Xst) : (Vt × List Sg) × Xst := (((xvoS s).1, (xlsS 64 xsiS (xvoS s).2).1), (xlsS 64 xsiS (xvoS s).2).2)
theorem isz_en : (Tryz.prog.info? 32).map (·.size) = some 18 := by kernel_rfl
theorem isz_cl : (Tryz.prog.info? 36).map (·.size) = some 18 := by kernel_rfl
theorem isz_pk : (Tryz.prog.info? 44).map (·.size) = some 19 := by kernel_rfl
theorem Off.alloc (F : Nat → Prop) (w : World) (o : Obj) : Off F w (w.alloc o) := Off.of_below ((Below.refl _ _).alloc (Nat.le_refl _) _)
set_option maxRecDepth 100000 in
set_option maxHeartbeats 2000000 in
theorem nnote_any (B K : Nat) (P : Nd) (s : Nt) (l : Int) (x : Ev) (w : World) (h : NetAt w B K P s l) (hn : 0 < s.nodes) (hx : x.ok) (hK : K ≤ 1000000000) : Calls Tryz.prog 19 #[.pointer (some ⟨P.p, 0, none⟩), .agg x.cells.toArray] w fun e w' => e = .returned (.int .i64 0) ∧ NetAt w' B (K + 1) P ⟨s.nodes, s.way, s.on, s.kn ++ [x], s.past, s.th, s.sent, s.taken⟩ l ∧ Off (fun b => b = P.m3) w w' := by
 have hxl : x.cells.length = 18 := EvE.len x hx
 have hk := key_cl x hx
 obtain ⟨xq, hxq⟩ : ∃ q, Hid (x.cells = q) := ⟨_, hide rfl⟩
 rw [hxq.out] at hxl hk ⊢
 have ix : (Tryz.prog.info? 36).map (·.size) = some xq.length := by rw [hxl]; exact isz_cl
 obtain ⟨hBk, rX, sX⟩ := boxed_new w xq 36
 have h0 := (h.below hBk).on (w' := (w.alloc (.cells xq.toArray 36)).drew) (Nat.le_refl _) (fun _ _ => rfl)
 have cm := nmade_any P.p s.nodes (w.alloc (.cells xq.toArray 36)) (h.below hBk).c0
 rw [decide_eq_true hn] at cm
 have hXp : P.p ≠ w.heap.size := by have := h.lt; omega
 have hX3 : P.m3 ≠ w.heap.size := by have := h.g3.lt; omega
 have hO : Off (fun b => b = P.m3) w (w.alloc (.cells xq.toArray 36)).drew := (Off.of_below hBk).drew
 have rX8 : (w.alloc (.cells xq.toArray 36)).drew.rangeAt w.heap.size 0 xq := (World.rangeAt_drew _ _ _ _).2 rX
 obtain ⟨W, hW⟩ : ∃ W, w.alloc (.cells xq.toArray 36) = W := ⟨_, rfl⟩
 obtain ⟨X, hX⟩ : ∃ X, w.heap.size = X := ⟨_, rfl⟩
 rw [hX] at hXp hX3 rX8
 rw [hW] at h0 cm hO rX8
 obtain ⟨w8, hw8⟩ : ∃ w8, Hid (W.drew = w8) := ⟨_, hide rfl⟩
 rw [hw8.out] at h0 hO rX8
 have sX8 : X < w8.heap.size := by
  have h1 : w8.heap.size = W.heap.size := by rw [← hw8.out]; rfl
  rw [hW, hX] at sX
  omega
 obtain ⟨w1, hrun, hm, hg⟩ := h0.g3.store lawCl Tryz.underlying69 hk hK
 have hN := h0.addKn x hx hm hg
 have hblk : ∀ b, b < w8.heap.size → b ≠ P.m3 → w1.heap[b]? = w8.heap[b]? := fun b h1 h2 => hg.block b h1 (fun e => h2 (Option.some.inj e))
 have c3 : w8.rangeAt P.p 0 (netL P s l) := h0.c
 have c3' : w1.rangeAt P.p 0 (netL P s l) := range_at c3 (hblk _ h0.lt h0.n3.symm)
 have rX1 : w1.rangeAt X 0 xq := range_at rX8 (hblk X sX8 hX3.symm)
 have HN := hide hN
 have HO : Hid (Off (fun b => b = P.m3) w w1) := hide (hO.trans (Off.of_grown (F := fun b => b = P.m3) hg (fun k hk => by cases hk; rfl)) (fun _ _ q => q))
 clear hN hO hm hg hk h0 h hn hBk rX sX hblk hXp hX3
 go_enter Tryz.func19, Tryz.ntmps19
 go_upto_region 1 with fail
 try simp only [hX, hW]
 clear hW hX
 try simp only [Act.put]
 refine pl_begin ?_
 refine pl_t 5 (?_) (by rfl) ?_ rfl ?_
 rotate_left
 ·go_simp
  try with_reducible rfl
 simp only [nz]
 refine pl_call (d := some 6) (by rfl) (by go_simp; first | done | exact ⟨rfl, rfl⟩ | with_reducible rfl) rfl ?_
 refine (cm).mono ?_
 rintro _ wc ⟨rfl, hwc⟩
 refine ⟨_, rfl, ?_⟩
 simp only [nz]
 obtain rfl := hwc.symm
 refine pl_t 7 (?_) (by rfl) ?_ rfl ?_
 rotate_left
 ·go_simp
  try with_reducible rfl
 simp only [nz]
 refine pl_nil ?_
 clear cm
 go_upto_region 3 with fail
 refine hs_begin (S := fun w' : World => w'.rangeAt P.p 0 (netL P s l) ∧ w'.rangeAt X 0 xq) 7 rfl (by kernel_rfl) ?_
 rw [hw8.out]
 have hS : (fun w' : World => w'.rangeAt P.p 0 (netL P s l) ∧ w'.rangeAt X 0 xq) w8 := ⟨c3, rX8⟩
 clear c3 rX8 hw8
 refine hs_t 0 8 (?_) rfl (by kernel_rfl) (by kernel_rfl) (by kernel_rfl) (by rfl) ?_ hS rfl ?_
 rotate_left
 ·intro w' hw
  go_simp
  try with_reducible rfl
 simp only [nz]
 refine hs_t 1 9 (?_) rfl (by kernel_rfl) (by kernel_rfl) (by kernel_rfl) (by rfl) ?_ hS rfl ?_
 rotate_left
 ·intro w' hw
  go_simp
  try with_reducible rfl
 simp only [nz]
 refine hs_t 2 10 (?_) rfl (by kernel_rfl) (by kernel_rfl) (by kernel_rfl) (by rfl) ?_ hS rfl ?_
 rotate_left
 ·intro w' hw
  go_simp
  try with_reducible rfl
 simp only [nz]
 refine hs_t 3 11 (.map (some P.m3)) rfl (by kernel_rfl) (by kernel_rfl) (by kernel_rfl) (by rfl) (fun w' hw => pl_one rfl rfl (hw.1 3 _ rfl) Tryz.underlying69 rfl) hS rfl ?_
 simp only [nz]
 refine hs_t 4 12 (.agg xq.toArray) rfl (by kernel_rfl) (by kernel_rfl) (by kernel_rfl) (by rfl) (fun w' hw => ex_mid rfl rfl hw.2 Tryz.underlying36 rfl ix) hS rfl ?_
 simp only [nz]
 refine hs_t 5 13 (unitV) rfl (by kernel_rfl) (by kernel_rfl) (by kernel_rfl) (by rfl) (fun w' hw => ex_build (parts := []) (vs := []) rfl rfl (buildUnit _)) hS rfl ?_
 simp only [nz]
 refine hs_store (i := 6) (w' := w1) rfl (by kernel_rfl) (by rfl) (ex_mapUp rfl rfl rfl rfl hrun) rfl ⟨c3', rX1⟩ ?_
 refine hs_done (by kernel_rfl) ?_
 clear hrun hS c3' rX1
 go_wp2_with fail
 go_ret
 exact ⟨rfl, HN.out, HO.out⟩
set_option maxRecDepth 100000 in
set_option maxHeartbeats 2000000 in
theorem nknows_any (B K : Nat) (P : Nd) (s : Nt) (l : Int) (x : Ev) (w : World) (h : NetAt w B K P s l) (hn : 0 < s.nodes) (hx : x.ok) (c : Bool) (hc : c = true ↔ x ∈ s.kn) : Calls Tryz.prog 11 #[.pointer (some ⟨P.p, 0, none⟩), .agg x.cells.toArray] w fun e w' => e = .returned (.bool c) ∧ Below w.heap.size w w' := by
 have hxl : x.cells.length = 18 := EvE.len x hx
 have hk := key_cl x hx
 have hc' : c = true ↔ ∃ y ∈ s.kn, klE x = klE y := hc.trans ⟨fun q => ⟨x, q, rfl⟩, fun ⟨y, hy, e⟩ => by rw [klE_inj hx (h.kk y hy) e]; exact hy⟩
 obtain ⟨xq, hxq⟩ : ∃ q, Hid (x.cells = q) := ⟨_, hide rfl⟩
 rw [hxq.out] at hxl hk ⊢
 have ix : (Tryz.prog.info? 36).map (·.size) = some xq.length := by rw [hxl]; exact isz_cl
 obtain ⟨hBk, rX, sX⟩ := boxed_new w xq 36
 have h0 := (h.below hBk).on (w' := (w.alloc (.cells xq.toArray 36)).drew) (Nat.le_refl _) (fun _ _ => rfl)
 have cm := nmade_any P.p s.nodes (w.alloc (.cells xq.toArray 36)) (h.below hBk).c0
 rw [decide_eq_true hn] at cm
 have hO : Below w.heap.size w (w.alloc (.cells xq.toArray 36)).drew := hBk.drew
 have rX8 : (w.alloc (.cells xq.toArray 36)).drew.rangeAt w.heap.size 0 xq := (World.rangeAt_drew _ _ _ _).2 rX
 obtain ⟨W, hW⟩ : ∃ W, w.alloc (.cells xq.toArray 36) = W := ⟨_, rfl⟩
 rw [hW] at h0 cm hO rX8
 obtain ⟨w8, hw8⟩ : ∃ w8, Hid (W.drew = w8) := ⟨_, hide rfl⟩
 rw [hw8.out] at h0 hO rX8
 have sX8 : w.heap.size < w8.heap.size := by
  have h1 : w8.heap.size = W.heap.size := by rw [← hw8.out]; rfl
  rw [hW] at sX
  omega
 have hlk : ∀ w', Below w8.heap.size w8 w' → (Instr.lookup 69 (.map (some P.m3)) (.agg xq.toArray) true).run Tryz.prog w' = .ok (.tuple #[unitV, .bool c]) w' := fun w' hb => by
  have := (h0.g3.at (hb.block _ h0.g3.lt)).look lawCl Tryz.underlying69 (zeroUnit w') hk c hc'
  simpa using this
 have c3 : ∀ w', Below w8.heap.size w8 w' → w'.cell? ⟨P.p, 3, none⟩ = some (.map (some P.m3)) := fun w' hb => (range_below h0.c hb h0.lt) 3 _ rfl
 obtain ⟨X, hX⟩ : ∃ X, Hid (w.heap.size = X) := ⟨_, hide rfl⟩
 have HO := hide hO
 rw [hX.out] at rX8 sX8
 clear h0 hO hc hc' hk hBk rX sX hn h
 go_enter Tryz.func11, Tryz.ntmps11
 go_upto_region 1 with fail
 try simp only [hW]
 try simp only [hX.out]
 clear hW
 try simp only [Act.put]
 refine pl_begin ?_
 refine pl_t 7 (?_) (by rfl) ?_ rfl ?_
 rotate_left
 ·go_simp
  try with_reducible rfl
 simp only [nz]
 refine pl_call (d := some 8) (by rfl) (by go_simp; first | done | exact ⟨rfl, rfl⟩ | with_reducible rfl) rfl ?_
 refine (cm).mono ?_
 rintro _ wc ⟨rfl, hwc⟩
 refine ⟨_, rfl, ?_⟩
 simp only [nz]
 obtain rfl := hwc.symm
 refine pl_t 9 (?_) (by rfl) ?_ rfl ?_
 rotate_left
 ·go_simp
  try with_reducible rfl
 simp only [nz]
 refine pl_nil ?_
 clear cm
 go_upto_region 3 with fail
 refine hs_begin (S := (Below W.drew.heap.size W.drew)) 12 rfl (by kernel_rfl) ?_
 rw [hw8.out]
 have hS : (Below w8.heap.size w8) w8 := Below.refl _ _
 clear hw8
 refine hs_t 0 11 (?_) rfl (by kernel_rfl) (by kernel_rfl) (by kernel_rfl) (by rfl) ?_ hS rfl ?_
 rotate_left
 ·intro w' hw
  go_simp
  try with_reducible rfl
 simp only [nz]
 refine hs_t 1 12 (?_) rfl (by kernel_rfl) (by kernel_rfl) (by kernel_rfl) (by rfl) ?_ hS rfl ?_
 rotate_left
 ·intro w' hw
  go_simp
  try with_reducible rfl
 simp only [nz]
 refine hs_t 2 13 (?_) rfl (by kernel_rfl) (by kernel_rfl) (by kernel_rfl) (by rfl) ?_ hS rfl ?_
 rotate_left
 ·intro w' hw
  go_simp
  try with_reducible rfl
 simp only [nz]
 refine hs_t 3 14 (.map (some P.m3)) rfl (by kernel_rfl) (by kernel_rfl) (by kernel_rfl) (by rfl) (fun w' hw => pl_one rfl rfl (c3 _ hw) Tryz.underlying69 rfl) hS rfl ?_
 simp only [nz]
 refine hs_t 4 15 (.agg xq.toArray) rfl (by kernel_rfl) (by kernel_rfl) (by kernel_rfl) (by rfl) (fun w' hw => ex_mid rfl rfl (range_below rX8 hw sX8) Tryz.underlying36 rfl ix) hS rfl ?_
 simp only [nz]
 refine hs_t 5 16 (.tuple #[unitV, .bool c]) rfl (by kernel_rfl) (by kernel_rfl) (by kernel_rfl) (by rfl) (fun w' hw => ex_look rfl rfl rfl (hlk _ hw)) hS rfl ?_
 simp only [nz]
 refine hs_t 6 10 (?_) rfl (by kernel_rfl) (by kernel_rfl) (by kernel_rfl) (by rfl) ?_ hS rfl ?_
 rotate_left
 ·intro w' hw
  go_simp
  try with_reducible rfl
 simp only [nz]
 refine hs_t 7 17 (unitV) rfl (by kernel_rfl) (by kernel_rfl) (by kernel_rfl) (by rfl) (fun w' hw => by go_simp) hS rfl ?_
 simp only [nz]
 refine hs_t 8 18 (?_) rfl (by kernel_rfl) (by kernel_rfl) (by kernel_rfl) (by rfl) ?_ hS rfl ?_
 rotate_left
 ·intro w' hw
  go_simp
  try with_reducible rfl
 simp only [nz]
 have hS2 : (Below w8.heap.size w8) (w8.alloc (.cells ([] : List Value).toArray 70)) := (Below.refl _ _).alloc (Nat.le_refl _) _
 refine hs_run (i := 9) (d := some 5) (v := .pointer (some ⟨w8.heap.size, 0, none⟩)) (w' := w8.alloc (.cells ([] : List Value).toArray 70)) rfl (by kernel_rfl) (by rfl) (ex_alloc rfl (zeroUnitE _)) rfl hS2 ?_
 simp only [nz]
 refine hs_store (i := 10) (w' := w8.alloc (.cells ([] : List Value).toArray 70)) rfl (by kernel_rfl) (by rfl) (ex_put (cs := #[]) rfl rfl rfl (fun j hj => by cases hj) (by kernel_rfl) (by simp)) rfl hS2 ?_
 have hS := hS2
 refine hs_t 11 6 (?_) rfl (by kernel_rfl) (by kernel_rfl) (by kernel_rfl) (by rfl) ?_ hS rfl ?_
 rotate_left
 ·intro w' hw
  go_simp
  try with_reducible rfl
 simp only [nz]
 refine hs_done (by kernel_rfl) ?_
 have HB := hide (HO.out.trans (hS2.mono HO.out.size))
 clear hS hS2 hlk c3 rX8 sX8
 go_wp2_with fail
 go_ret
 exact ⟨rfl, HB.out⟩
open Go.MuLone
theorem NetAt.f4 {w : World} {B K : Nat} {P : Nd} {s : Nt} {l : Int} (h : NetAt w B K P s l) : w.frozen? ⟨P.p, 4, none⟩ = false := by
 have := (h.t 4 (by omega)).2
 simpa using this
theorem NetAt.locked {w : World} {B K : Nat} {P : Nd} {s : Nt} {l : Int} (h : NetAt w B K P s l) (l' : Int) : NetAt (w.setCell ⟨P.p, 4, none⟩ (.int .i32 l')) B K P s l' :=
 h.cell 4 _ rfl rfl rfl rfl rfl rfl
theorem own_slice {w : World} {B k n : Nat} {t : TypeId} {v : Value} {xs : List Value} (h : w.ownsRow B t k v n xs) : ∃ a cap, v = .slice a n cap := by
 rcases h.2 with ⟨h2, h3⟩ | ⟨g, cap, cur, h2, _⟩
 ·exact ⟨none, 0, by rw [h2, h3]⟩
 ·exact ⟨_, cap, h2⟩
set_option maxRecDepth 100000 in
set_option maxHeartbeats 2000000 in
theorem hsize_any (B K : Nat) (P : Nd) (s : Nt) (w : World) (h : NetAt w B K P s 0) : Calls Tryz.prog 34 #[.pointer (some ⟨P.p, 4, none⟩)] w fun e w' => e = .returned (.int .i64 (s.past.length : Int)) ∧ w' = (w.setCell ⟨P.p, 4, none⟩ (.int .i32 1)).setCell ⟨P.p, 4, none⟩ (.int .i32 0) := by
 have c4 : w.cell? ⟨P.p, 4, none⟩ = some (.int .i32 0) := h.c 4 _ rfl
 have f4 := h.f4
 have c6 : (w.setCell ⟨P.p, 4, none⟩ (.int .i32 1)).cell? ⟨P.p, 6, none⟩ = some P.v6 := (h.locked 1).c 6 _ rfl
 obtain ⟨a, cap, hv⟩ := own_slice h.o6
 rw [hv] at c6
 clear h hv
 go_enter_defers Tryz.func34, Tryz.ntmps34
 go_wp2_with (go_at_call 40; refine (lock_free muLib ⟨P.p, 4, none⟩ _ c4 f4).mono ?_; rintro e w' ⟨rfl, rfl⟩)
 refine leaves_cons (f := 41) (args := #[.pointer (some ⟨P.p, 4, none⟩)]) (by simp) (by simp [go_sem]) ?_
 refine (unlock_deferred muLib ⟨P.p, 4, none⟩ .returning _ ?_ ?_).mono ?_
 ·exact World.cell?_setCell_same w ⟨P.p, 4, none⟩ (.int .i32 1) c4
 ·simp [f4]
 rintro e u' w'' ⟨rfl, rfl, rfl⟩
 exact ⟨_, results_tmp rfl _ _ _, rfl, rfl⟩
set_option maxRecDepth 100000 in
set_option maxHeartbeats 2000000 in
theorem nsent_any (B K : Nat) (P : Nd) (s : Nt) (w : World) (h : NetAt w B K P s 0) (hn : 0 < s.nodes) : Calls Tryz.prog 22 #[.pointer (some ⟨P.p, 0, none⟩)] w fun e w' => e = .returned (.int .i64 (s.past.length : Int)) ∧ NetAt w' B K P s 0 ∧ Off P.own w w' := by
 have cm := nmade_any P.p s.nodes w h.c0
 rw [decide_eq_true hn] at cm
 have ch := hsize_any B K P s w h
 have HN := hide ((h.locked 1).locked 0)
 have HO : Hid (Off P.own w ((w.setCell ⟨P.p, 4, none⟩ (.int .i32 1)).setCell ⟨P.p, 4, none⟩ (.int .i32 0))) := hide ((Off.cell w 4 _).trans (Off.cell _ 4 _) (fun _ _ q => q))
 clear h hn
 go_enter Tryz.func22, Tryz.ntmps22
 go_wp2_with fail
 refine cm.mono ?_
 rintro e w' ⟨rfl, hw⟩
 obtain rfl := hw.symm
 clear cm
 go_wp2_with fail
 refine ch.mono ?_
 rintro e w' ⟨rfl, hw2⟩
 subst hw2
 clear ch
 go_wp2_with fail
 go_ret
 exact ⟨rfl, HN.out, HO.out⟩
theorem nz_cell {w : World} {B K : Nat} {P : Nd} {s : Nt} {l : Int} (h : NetAt w B K P s l) : w.cell? ⟨P.p, 7, none⟩ = some (.map (some P.m7)) := h.c 7 _ rfl
theorem infoEn : (Tryz.prog.info? 32).map (fun i => (i.zero, i.size, i.bytes)) = some (some (.agg infoEv0.toArray), 18, 40) := by kernel_rfl
theorem isz_ens : (Tryz.prog.info? 51).map (·.size) = some 1 := by kernel_rfl
set_option maxRecDepth 100000 in
set_option maxHeartbeats 4000000 in
theorem hadd_yes (B K : Nat) (P : Nd) (s : Nt) (x : Ev) (w : World) (h : NetAt w B K P s 0) (hx : x.ok) (hi : x ∈ s.th) : Calls Tryz.prog 29 #[.pointer (some ⟨P.p, 4, none⟩), .agg x.cells.toArray] w fun e w' => e = .returned (.bool false) ∧ NetAt w' B K P s 0 ∧ Off P.own w w' := by
 have hxl : x.cells.length = 18 := EvE.len x hx
 have hx1 : ∀ v ∈ x.cells, v.oneCell' = true := EvE.one x
 have hk := key_env x hx
 obtain ⟨c, hc⟩ : ∃ c : Bool, c = true ∧ (c = true ↔ x ∈ s.th) := ⟨true, rfl, fun _ => hi, fun _ => rfl⟩
 obtain ⟨hct, hc⟩ := hc
 have hc' : c = true ↔ ∃ y ∈ s.th, klE x = klE y := hc.trans ⟨fun q => ⟨x, q, rfl⟩, fun ⟨y, hy, e⟩ => by rw [klE_inj hx (h.kt y hy) e]; exact hy⟩
 obtain ⟨xq, hxq⟩ : ∃ q, Hid (x.cells = q) := ⟨_, hide rfl⟩
 rw [hxq.out] at hxl hx1 hk ⊢
 have ix : (Tryz.prog.info? 32).map (·.size) = some xq.length := by rw [hxl]; exact isz_en
 obtain ⟨hBk, rX, sX⟩ := boxed_new w xq 32
 have h0 := h.below hBk
 have hO : Off P.own w (w.alloc (.cells xq.toArray 32)) := Off.of_below hBk
 have nX : ∀ b, P.own b → b ≠ w.heap.size := fun b hb e => by have := h.own_lt hb; omega
 obtain ⟨W, hW⟩ : ∃ W, Hid (w.alloc (.cells xq.toArray 32) = W) := ⟨_, hide rfl⟩
 obtain ⟨X, hX⟩ : ∃ X, Hid (w.heap.size = X) := ⟨_, hide rfl⟩
 rw [hW.out] at rX sX h0 hO
 rw [hX.out] at rX sX nX
 have zw : X ≤ W.heap.size := Nat.le_of_lt sX
 clear hBk
 have c4 : W.cell? ⟨P.p, 4, none⟩ = some (.int .i32 0) := h0.c 4 _ rfl
 have f4 := h0.f4
 have h1 := h0.locked 1
 have rX : (W.setCell ⟨P.p, 4, none⟩ (.int .i32 1)).rangeAt X 0 xq := range_at rX (Below.heap_setCell W ⟨P.p, 4, none⟩ _ X (fun e => nX _ (.inl rfl) e.symm))
 have sX : X < (W.setCell ⟨P.p, 4, none⟩ (.int .i32 1)).heap.size := by simpa using sX
 have hO := hO.trans (Off.cell W 4 (.int .i32 1)) (fun _ _ q => q)
 have HD : NetAt (W.setCell ⟨P.p, 4, none⟩ (.int .i32 1)).drew B K P s 1 := h1.on (Nat.le_refl _) (fun _ _ => rfl)
 have hO := hO.drew
 have rX : (W.setCell ⟨P.p, 4, none⟩ (.int .i32 1)).drew.rangeAt X 0 xq := (World.rangeAt_drew _ _ _ _).2 rX
 have sX : X < (W.setCell ⟨P.p, 4, none⟩ (.int .i32 1)).drew.heap.size := sX
 have hlk : ∀ w', Below (W.setCell ⟨P.p, 4, none⟩ (.int .i32 1)).drew.heap.size (W.setCell ⟨P.p, 4, none⟩ (.int .i32 1)).drew w' → (Instr.lookup 77 (.map (some P.m7)) (.agg xq.toArray) true).run Tryz.prog w' = .ok (.tuple #[unitV, .bool c]) w' := fun w' hb => by
  have := (HD.g7.at (hb.block _ HD.g7.lt)).look lawEv Tryz.underlying77 (zeroUnit w') hk c hc'
  simpa using this
 have c7 : ∀ w', Below (W.setCell ⟨P.p, 4, none⟩ (.int .i32 1)).drew.heap.size (W.setCell ⟨P.p, 4, none⟩ (.int .i32 1)).drew w' → w'.cell? ⟨P.p, 7, none⟩ = some (.map (some P.m7)) := fun w' hb => nz_cell (HD.on hb.size (fun b hq => hb.block b (HD.own_lt hq)))
 have HO := hide hO
 clear h0 hO hc hc' h1 h
 go_enter_defers Tryz.func29, Tryz.ntmps29
 go_upto_region 1 with fail
 try simp only [hW.out, hX.out]
 clear hW
 go_upto_region 3 with (go_at_call 40; refine (lock_free muLib ⟨P.p, 4, none⟩ _ c4 f4).mono ?_; rintro e w' ⟨rfl, rfl⟩)
 obtain ⟨V, hV⟩ : ∃ V, W.setCell ⟨P.p, 4, none⟩ (.int .i32 1) = V := ⟨_, rfl⟩
 rw [hV] at HD rX sX HO ⊢
 simp only [hV] at hlk c7
 clear hV c4 f4 zw
 subst hct
 go_upto_region 3 with fail
 refine hs_begin (S := (Below V.drew.heap.size V.drew)) 12 rfl (by kernel_rfl) ?_
 obtain ⟨w8, hw8⟩ : ∃ w8, V.drew = w8 := ⟨_, rfl⟩
 rw [hw8] at HD rX sX HO ⊢
 simp only [hw8] at hlk c7
 have hS : (Below w8.heap.size w8) w8 := Below.refl _ _
 clear hw8
 refine hs_t 0 15 (?_) rfl (by kernel_rfl) (by kernel_rfl) (by kernel_rfl) (by rfl) ?_ hS rfl ?_
 rotate_left
 ·intro w' hw
  go_simp
  try with_reducible rfl
 simp only [nz]
 refine hs_t 1 16 (?_) rfl (by kernel_rfl) (by kernel_rfl) (by kernel_rfl) (by rfl) ?_ hS rfl ?_
 rotate_left
 ·intro w' hw
  go_simp
  try with_reducible rfl
 simp only [nz]
 refine hs_t 2 17 (?_) rfl (by kernel_rfl) (by kernel_rfl) (by kernel_rfl) (by rfl) ?_ hS rfl ?_
 rotate_left
 ·intro w' hw
  go_simp
  try with_reducible rfl
 simp only [nz]
 refine hs_t 3 18 (.map (some P.m7)) rfl (by kernel_rfl) (by kernel_rfl) (by kernel_rfl) (by rfl) (fun w' hw => pl_one rfl rfl (c7 _ hw) Tryz.underlying77 rfl) hS rfl ?_
 simp only [nz]
 refine hs_t 4 19 (.agg xq.toArray) rfl (by kernel_rfl) (by kernel_rfl) (by kernel_rfl) (by rfl) (fun w' hw => ex_mid rfl rfl (range_below rX hw sX) Tryz.underlying32 rfl ix) hS rfl ?_
 simp only [nz]
 refine hs_t 5 20 (.tuple #[unitV, .bool true]) rfl (by kernel_rfl) (by kernel_rfl) (by kernel_rfl) (by rfl) (fun w' hw => ex_look rfl rfl rfl (hlk _ hw)) hS rfl ?_
 simp only [nz]
 refine hs_t 6 14 (?_) rfl (by kernel_rfl) (by kernel_rfl) (by kernel_rfl) (by rfl) ?_ hS rfl ?_
 rotate_left
 ·intro w' hw
  go_simp
  try with_reducible rfl
 simp only [nz]
 refine hs_t 7 21 (unitV) rfl (by kernel_rfl) (by kernel_rfl) (by kernel_rfl) (by rfl) (fun w' hw => by go_simp) hS rfl ?_
 simp only [nz]
 refine hs_t 8 22 (?_) rfl (by kernel_rfl) (by kernel_rfl) (by kernel_rfl) (by rfl) ?_ hS rfl ?_
 rotate_left
 ·intro w' hw
  go_simp
  try with_reducible rfl
 simp only [nz]
 have hS2 : (Below w8.heap.size w8) (w8.alloc (.cells ([] : List Value).toArray 70)) := (Below.refl _ _).alloc (Nat.le_refl _) _
 refine hs_run (i := 9) (d := some 5) (v := .pointer (some ⟨w8.heap.size, 0, none⟩)) (w' := w8.alloc (.cells ([] : List Value).toArray 70)) rfl (by kernel_rfl) (by rfl) (ex_alloc rfl (zeroUnitE _)) rfl hS2 ?_
 simp only [nz]
 refine hs_store (i := 10) (w' := w8.alloc (.cells ([] : List Value).toArray 70)) rfl (by kernel_rfl) (by rfl) (ex_put (cs := #[]) rfl rfl rfl (fun j hj => by cases hj) (by kernel_rfl) (by simp)) rfl hS2 ?_
 have hS := hS2
 refine hs_t 11 6 (?_) rfl (by kernel_rfl) (by kernel_rfl) (by kernel_rfl) (by rfl) ?_ hS rfl ?_
 rotate_left
 ·intro w' hw
  go_simp
  try with_reducible rfl
 simp only [nz]
 refine hs_done (by kernel_rfl) ?_
 have H9 := hide (HD.below hS)
 have HB := hide (HO.out.trans (Off.of_below (F := P.own) hS) (fun _ _ q => q))
 obtain ⟨w9, hw9⟩ : ∃ w9, w8.alloc (.cells ([] : List Value).toArray 70) = w9 := ⟨_, rfl⟩
 rw [hw9] at H9 HB ⊢
 clear hS hS2 hlk c7 HD rX sX HO hw9
 go_wp2_with fail
 refine leaves_cons (f := 41) (args := #[.pointer (some ⟨P.p, 4, none⟩)]) (by simp) (by simp [go_sem]) ?_
 refine (unlock_deferred muLib ⟨P.p, 4, none⟩ .returning _ (H9.out.c 4 _ rfl) H9.out.f4).mono ?_
 rintro e u' w'' ⟨rfl, rfl, rfl⟩
 exact ⟨_, results_tmp rfl _ _ _, rfl, H9.out.locked 0, HB.out.trans (Off.cell w9 4 _) (fun _ _ q => q)⟩
set_option maxRecDepth 100000 in
set_option maxHeartbeats 4000000 in
theorem hadd_no (B K : Nat) (P : Nd) (s : Nt) (x : Ev) (w : World) (h : NetAt w B K P s 0) (hx : x.ok) (hi : x ∉ s.th) (hK : K ≤ 1000000000) (hn : s.past.length ≤ 1000000000) : Calls Tryz.prog 29 #[.pointer (some ⟨P.p, 4, none⟩), .agg x.cells.toArray] w fun e w' => e = .returned (.bool true) ∧ Off P.own w w' ∧ ∃ v', NetAt w' B (K + 1) ⟨P.p, P.v1, v', P.m2, P.m3, P.m7⟩ ⟨s.nodes, s.way, s.on, s.kn, s.past ++ [x], s.th ++ [x], s.sent, s.taken⟩ 0 ∧ ∀ g, v'.ownBlock = some g → P.v6.ownBlock = some g ∨ w.heap.size ≤ g := by
 have hxl : x.cells.length = 18 := EvE.len x hx
 have hx1 : ∀ v ∈ x.cells, v.oneCell' = true := EvE.one x
 have hk := key_env x hx
 obtain ⟨c, hc⟩ : ∃ c : Bool, c = false ∧ (c = true ↔ x ∈ s.th) := ⟨false, rfl, (fun q => by cases q), fun q => absurd q hi⟩
 obtain ⟨hct, hc⟩ := hc
 have hc' : c = true ↔ ∃ y ∈ s.th, klE x = klE y := hc.trans ⟨fun q => ⟨x, q, rfl⟩, fun ⟨y, hy, e⟩ => by rw [klE_inj hx (h.kt y hy) e]; exact hy⟩
 obtain ⟨i1, hi1, hiz, his, hib⟩ := info_parts infoEn
 have hzk : (Value.agg (infoEv0).toArray).cells.size = 18 := by decide
 obtain ⟨xq, hxq⟩ : ∃ q, Hid (x.cells = q) := ⟨_, hide rfl⟩
 rw [hxq.out] at hxl hx1 hk ⊢
 have ix : (Tryz.prog.info? 32).map (·.size) = some xq.length := by rw [hxl]; exact isz_en
 obtain ⟨hBk, rX, sX⟩ := boxed_new w xq 32
 have h0 := h.below hBk
 have hO : Off P.own w (w.alloc (.cells xq.toArray 32)) := Off.of_below hBk
 have nX : ∀ b, P.own b → b ≠ w.heap.size := fun b hb e => by have := h.own_lt hb; omega
 obtain ⟨W, hW⟩ : ∃ W, Hid (w.alloc (.cells xq.toArray 32) = W) := ⟨_, hide rfl⟩
 obtain ⟨X, hX⟩ : ∃ X, Hid (w.heap.size = X) := ⟨_, hide rfl⟩
 rw [hW.out] at rX sX h0 hO
 rw [hX.out] at rX sX nX
 have zw : X ≤ W.heap.size := Nat.le_of_lt sX
 clear hBk
 have c4 : W.cell? ⟨P.p, 4, none⟩ = some (.int .i32 0) := h0.c 4 _ rfl
 have f4 := h0.f4
 have h1 := h0.locked 1
 have rX : (W.setCell ⟨P.p, 4, none⟩ (.int .i32 1)).rangeAt X 0 xq := range_at rX (Below.heap_setCell W ⟨P.p, 4, none⟩ _ X (fun e => nX _ (.inl rfl) e.symm))
 have sX : X < (W.setCell ⟨P.p, 4, none⟩ (.int .i32 1)).heap.size := by simpa using sX
 have hO := hO.trans (Off.cell W 4 (.int .i32 1)) (fun _ _ q => q)
 have HD : NetAt (W.setCell ⟨P.p, 4, none⟩ (.int .i32 1)).drew B K P s 1 := h1.on (Nat.le_refl _) (fun _ _ => rfl)
 have hO := hO.drew
 have rX : (W.setCell ⟨P.p, 4, none⟩ (.int .i32 1)).drew.rangeAt X 0 xq := (World.rangeAt_drew _ _ _ _).2 rX
 have sX : X < (W.setCell ⟨P.p, 4, none⟩ (.int .i32 1)).drew.heap.size := sX
 have hlk : ∀ w', Below (W.setCell ⟨P.p, 4, none⟩ (.int .i32 1)).drew.heap.size (W.setCell ⟨P.p, 4, none⟩ (.int .i32 1)).drew w' → (Instr.lookup 77 (.map (some P.m7)) (.agg xq.toArray) true).run Tryz.prog w' = .ok (.tuple #[unitV, .bool c]) w' := fun w' hb => by
  have := (HD.g7.at (hb.block _ HD.g7.lt)).look lawEv Tryz.underlying77 (zeroUnit w') hk c hc'
  simpa using this
 have c7 : ∀ w', Below (W.setCell ⟨P.p, 4, none⟩ (.int .i32 1)).drew.heap.size (W.setCell ⟨P.p, 4, none⟩ (.int .i32 1)).drew w' → w'.cell? ⟨P.p, 7, none⟩ = some (.map (some P.m7)) := fun w' hb => nz_cell (HD.on hb.size (fun b hq => hb.block b (HD.own_lt hq)))
 have HO := hide hO
 clear h0 hO hc hc' h1 h
 go_enter_defers Tryz.func29, Tryz.ntmps29
 go_upto_region 1 with fail
 try simp only [hW.out, hX.out]
 clear hW
 go_upto_region 3 with (go_at_call 40; refine (lock_free muLib ⟨P.p, 4, none⟩ _ c4 f4).mono ?_; rintro e w' ⟨rfl, rfl⟩)
 obtain ⟨V, hV⟩ : ∃ V, W.setCell ⟨P.p, 4, none⟩ (.int .i32 1) = V := ⟨_, rfl⟩
 rw [hV] at HD rX sX HO ⊢
 simp only [hV] at hlk c7
 clear hV c4 f4 zw
 subst hct
 go_upto_region 3 with fail
 refine hs_begin (S := (Below V.drew.heap.size V.drew)) 12 rfl (by kernel_rfl) ?_
 obtain ⟨w8, hw8⟩ : ∃ w8, V.drew = w8 := ⟨_, rfl⟩
 rw [hw8] at HD rX sX HO ⊢
 simp only [hw8] at hlk c7
 have hS : (Below w8.heap.size w8) w8 := Below.refl _ _
 clear hw8
 refine hs_t 0 15 (?_) rfl (by kernel_rfl) (by kernel_rfl) (by kernel_rfl) (by rfl) ?_ hS rfl ?_
 rotate_left
 ·intro w' hw
  go_simp
  try with_reducible rfl
 simp only [nz]
 refine hs_t 1 16 (?_) rfl (by kernel_rfl) (by kernel_rfl) (by kernel_rfl) (by rfl) ?_ hS rfl ?_
 rotate_left
 ·intro w' hw
  go_simp
  try with_reducible rfl
 simp only [nz]
 refine hs_t 2 17 (?_) rfl (by kernel_rfl) (by kernel_rfl) (by kernel_rfl) (by rfl) ?_ hS rfl ?_
 rotate_left
 ·intro w' hw
  go_simp
  try with_reducible rfl
 simp only [nz]
 refine hs_t 3 18 (.map (some P.m7)) rfl (by kernel_rfl) (by kernel_rfl) (by kernel_rfl) (by rfl) (fun w' hw => pl_one rfl rfl (c7 _ hw) Tryz.underlying77 rfl) hS rfl ?_
 simp only [nz]
 refine hs_t 4 19 (.agg xq.toArray) rfl (by kernel_rfl) (by kernel_rfl) (by kernel_rfl) (by rfl) (fun w' hw => ex_mid rfl rfl (range_below rX hw sX) Tryz.underlying32 rfl ix) hS rfl ?_
 simp only [nz]
 refine hs_t 5 20 (.tuple #[unitV, .bool false]) rfl (by kernel_rfl) (by kernel_rfl) (by kernel_rfl) (by rfl) (fun w' hw => ex_look rfl rfl rfl (hlk _ hw)) hS rfl ?_
 simp only [nz]
 refine hs_t 6 14 (?_) rfl (by kernel_rfl) (by kernel_rfl) (by kernel_rfl) (by rfl) ?_ hS rfl ?_
 rotate_left
 ·intro w' hw
  go_simp
  try with_reducible rfl
 simp only [nz]
 refine hs_t 7 21 (unitV) rfl (by kernel_rfl) (by kernel_rfl) (by kernel_rfl) (by rfl) (fun w' hw => by go_simp) hS rfl ?_
 simp only [nz]
 refine hs_t 8 22 (?_) rfl (by kernel_rfl) (by kernel_rfl) (by kernel_rfl) (by rfl) ?_ hS rfl ?_
 rotate_left
 ·intro w' hw
  go_simp
  try with_reducible rfl
 simp only [nz]
 have hS2 : (Below w8.heap.size w8) (w8.alloc (.cells ([] : List Value).toArray 70)) := (Below.refl _ _).alloc (Nat.le_refl _) _
 refine hs_run (i := 9) (d := some 5) (v := .pointer (some ⟨w8.heap.size, 0, none⟩)) (w' := w8.alloc (.cells ([] : List Value).toArray 70)) rfl (by kernel_rfl) (by rfl) (ex_alloc rfl (zeroUnitE _)) rfl hS2 ?_
 simp only [nz]
 refine hs_store (i := 10) (w' := w8.alloc (.cells ([] : List Value).toArray 70)) rfl (by kernel_rfl) (by rfl) (ex_put (cs := #[]) rfl rfl rfl (fun j hj => by cases hj) (by kernel_rfl) (by simp)) rfl hS2 ?_
 have hS := hS2
 refine hs_t 11 6 (?_) rfl (by kernel_rfl) (by kernel_rfl) (by kernel_rfl) (by rfl) ?_ hS rfl ?_
 rotate_left
 ·intro w' hw
  go_simp
  try with_reducible rfl
 simp only [nz]
 refine hs_done (by kernel_rfl) ?_
 have H9 := HD.below hS
 have HB := HO.out.trans (Off.of_below (F := P.own) hS) (fun _ _ q => q)
 have rX := range_below rX hS sX
 have sX := Nat.lt_of_lt_of_le sX hS.size
 obtain ⟨w9, hw9⟩ : ∃ w9, w8.alloc (.cells ([] : List Value).toArray 70) = w9 := ⟨_, rfl⟩
 rw [hw9] at H9 HB rX sX ⊢
 clear hS hS2 hlk c7 HD HO hw9
 have H9 : NetAt w9.drew B K P s 1 := H9.on (Nat.le_refl _) (fun _ _ => rfl)
 have HB := HB.drew
 have rX : w9.drew.rangeAt X 0 xq := (World.rangeAt_drew _ _ _ _).2 rX
 have sX : X < w9.drew.heap.size := sX
 go_upto_region 6 with fail
 refine hs_begin (S := fun w' : World => w'.rangeAt P.p 0 (netL P s 1) ∧ w'.rangeAt X 0 xq) 7 rfl (by kernel_rfl) ?_
 obtain ⟨u0, hu0⟩ : ∃ u, w9.drew = u := ⟨_, rfl⟩
 rw [hu0] at H9 HB rX sX ⊢
 clear hu0
 obtain ⟨u1, hrun, hm, hg⟩ := H9.g7.store lawEv Tryz.underlying77 hk hK
 have hN := H9.addTh x hx hm hg
 have hblk : ∀ b, b < u0.heap.size → b ≠ P.m7 → u1.heap[b]? = u0.heap[b]? := fun b h1 h2 => hg.block b h1 (fun e => h2 (Option.some.inj e))
 have cN : u0.rangeAt P.p 0 (netL P s 1) := H9.c
 have cN1 : u1.rangeAt P.p 0 (netL P s 1) := range_at cN (hblk _ H9.lt H9.n7.symm)
 have rX1 : u1.rangeAt X 0 xq := range_at rX (hblk X sX (fun e => nX P.m7 (.inr (.inr (.inr (.inl rfl)))) e.symm))
 have sX1 := Nat.lt_of_lt_of_le sX hg.size
 have HB := HB.trans (Off.of_grown (F := P.own) hg (fun k hk => by cases hk; exact .inr (.inr (.inr (.inl rfl))))) (fun _ _ q => q)
 have hS : (fun w' : World => w'.rangeAt P.p 0 (netL P s 1) ∧ w'.rangeAt X 0 xq) u0 := ⟨cN, rX⟩
 refine hs_t 0 24 (?_) rfl (by kernel_rfl) (by kernel_rfl) (by kernel_rfl) (by rfl) ?_ hS rfl ?_
 rotate_left
 ·intro w' hw
  go_simp
  try with_reducible rfl
 simp only [nz]
 refine hs_t 1 25 (?_) rfl (by kernel_rfl) (by kernel_rfl) (by kernel_rfl) (by rfl) ?_ hS rfl ?_
 rotate_left
 ·intro w' hw
  go_simp
  try with_reducible rfl
 simp only [nz]
 refine hs_t 2 26 (?_) rfl (by kernel_rfl) (by kernel_rfl) (by kernel_rfl) (by rfl) ?_ hS rfl ?_
 rotate_left
 ·intro w' hw
  go_simp
  try with_reducible rfl
 simp only [nz]
 refine hs_t 3 27 (.map (some P.m7)) rfl (by kernel_rfl) (by kernel_rfl) (by kernel_rfl) (by rfl) (fun w' hw => pl_one rfl rfl (hw.1 7 _ rfl) Tryz.underlying77 rfl) hS rfl ?_
 simp only [nz]
 refine hs_t 4 28 (.agg xq.toArray) rfl (by kernel_rfl) (by kernel_rfl) (by kernel_rfl) (by rfl) (fun w' hw => ex_mid rfl rfl hw.2 Tryz.underlying32 rfl ix) hS rfl ?_
 simp only [nz]
 refine hs_t 5 29 (unitV) rfl (by kernel_rfl) (by kernel_rfl) (by kernel_rfl) (by rfl) (fun w' hw => ex_build (parts := []) (vs := []) rfl rfl (buildUnit _)) hS rfl ?_
 simp only [nz]
 refine hs_store (i := 6) (w' := u1) rfl (by kernel_rfl) (by rfl) (ex_mapUp rfl rfl rfl rfl hrun) rfl ⟨cN1, rX1⟩ ?_
 refine hs_done (by kernel_rfl) ?_
 clear hS hrun hm hg hblk cN cN1 H9 rX sX hk
 have hN : NetAt u1.drew B (K + 1) P ⟨s.nodes, s.way, s.on, s.kn, s.past, s.th ++ [x], s.sent, s.taken⟩ 1 := hN.on (Nat.le_refl _) (fun _ _ => rfl)
 have HB := HB.drew
 have rX1 : u1.drew.rangeAt X 0 xq := (World.rangeAt_drew _ _ _ _).2 rX1
 have sX1 : X < u1.drew.heap.size := sX1
 go_upto_region 7 with fail
 refine hs_begin (S := fun w' : World => w'.rangeAt X 0 xq) 11 rfl (by kernel_rfl) ?_
 obtain ⟨u2, hu2⟩ : ∃ u, u1.drew = u := ⟨_, rfl⟩
 rw [hu2] at hN HB rX1 sX1 ⊢
 clear hu2
 have hS : (fun w' : World => w'.rangeAt X 0 xq) u2 := rX1
 have c6 : u2.cell? ⟨P.p, 6, none⟩ = some P.v6 := hN.c 6 _ rfl
 have B2 : Below u2.heap.size u2 (u2.alloc (.cells xq.toArray 32)) := (Below.refl _ _).alloc (Nat.le_refl _) _
 have r2 : (u2.alloc (.cells xq.toArray 32)).rangeAt u2.heap.size 0 xq := by simpa using range_new u2 xq.toArray 32
 have hN2 := hN.below B2
 have rX2 : (fun w' : World => w'.rangeAt X 0 xq) (u2.alloc (.cells xq.toArray 32)) := range_below rX1 B2 sX1
 have bB : B ≤ u2.heap.size := Nat.le_trans hN.bp (Nat.le_of_lt hN.lt)
 refine hs_t 0 30 (?_) rfl (by kernel_rfl) (by kernel_rfl) (by kernel_rfl) (by rfl) ?_ hS rfl ?_
 rotate_left
 ·intro w' hw
  go_simp
  try with_reducible rfl
 simp only [nz]
 refine hs_t 1 31 (?_) rfl (by kernel_rfl) (by kernel_rfl) (by kernel_rfl) (by rfl) ?_ hS rfl ?_
 rotate_left
 ·intro w' hw
  go_simp
  try with_reducible rfl
 simp only [nz]
 refine hs_t 2 32 (?_) rfl (by kernel_rfl) (by kernel_rfl) (by kernel_rfl) (by rfl) ?_ hS rfl ?_
 rotate_left
 ·intro w' hw
  go_simp
  try with_reducible rfl
 simp only [nz]
 refine hs_t 3 33 (?_) rfl (by kernel_rfl) (by kernel_rfl) (by kernel_rfl) (by rfl) ?_ hS rfl ?_
 rotate_left
 ·intro w' hw
  go_simp
  try with_reducible rfl
 simp only [nz]
 refine hs_t 5 35 (.agg xq.toArray) rfl (by kernel_rfl) (by kernel_rfl) (by kernel_rfl) (by rfl) (fun w' hw => ex_mid rfl rfl hw Tryz.underlying32 rfl ix) hS rfl ?_
 simp only [nz]
 refine hs_forkL (l := [4, 6]) (by kernel_rfl) (by simp) ?_
 intro ii hii
 simp only [List.mem_cons, List.not_mem_nil, or_false] at hii
 rcases hii with rfl | rfl
 ·refine st_run (i := 4) (d := some 34) (v := P.v6) (w' := u2) rfl (by rfl) (pl_one rfl rfl c6 Tryz.underlying51 rfl) rfl hS ?_
  simp only [nz]
  refine hs_run (i := 6) (d := some 36) (v := .slice (some ⟨u2.heap.size, 0, none⟩) 1 1) (w' := u2.alloc (.cells xq.toArray 32)) rfl (by kernel_rfl) (by rfl) (exec_bs1 rfl rfl (run_bs1 51 32 i1 _ xq Tryz.underlying51 hi1 hiz (by rw [his, hxl]) (by omega) (by omega) _)) rfl rX2 ?_
  simp only [nz]
  obtain ⟨Y, hY⟩ : ∃ Y, u2.heap.size = Y := ⟨_, rfl⟩
  obtain ⟨u3, hu3⟩ : ∃ u, u2.alloc (.cells xq.toArray 32) = u := ⟨_, rfl⟩
  rw [hu3] at B2 r2 hN2 rX2 ⊢
  have sX2 : X < u3.heap.size := Nat.lt_of_lt_of_le sX1 B2.size
  have bB3 : B ≤ u3.heap.size := Nat.le_trans bB B2.size
  have HB := HB.trans (Off.of_below (F := P.own) B2) (fun _ _ q => q)
  clear hu3
  refine hs_runX (i := 7) (d := some 37) rfl (by kernel_rfl) (by rfl) rfl (ex_app2 rfl rfl rfl Tryz.underlying51 hi1 hiz his (by rw [hib]; decide) rfl hN2.o6 bB3 r2 hxl hx1 hn hzk) ?_
  rintro v6 u4 ⟨o6, g6, gb6⟩
  have hN3 := hN2.addPast x hx (by rw [hxq.out]; exact o6) g6 gb6
  have rX4 : u4.rangeAt X 0 xq := range_at rX2 (g6.block X sX2 (fun e => nX X (.inr (.inr (.inr (.inr (.inr e.symm))))) rfl))
  have t4 : u4.there P.p 0 10 := cells_blk hN2.t (g6.block P.p hN2.lt (fun e => (hN2.r6 _ e.symm).1 rfl))
  have rX5 : (u4.setCell ⟨P.p, 6, none⟩ v6).rangeAt X 0 xq := range_at rX4 (Below.heap_setCell u4 ⟨P.p, 6, none⟩ _ X (fun e => nX _ (.inl rfl) e.symm))
  have hv6 := own_cellC o6
  have HB4 : Off P.own w (u4.setCell ⟨P.p, 6, none⟩ v6) := (HB.trans (Off.of_grown (F := P.own) g6 (fun k hk => .inr (.inr (.inr (.inr (.inr hk)))))) (fun _ _ q => q)).trans (Off.cell u4 6 v6) (fun _ _ q => q)
  have zz : w.heap.size ≤ u3.heap.size := HB.size
  refine ⟨rX4, ?_⟩
  have hS : (fun w' : World => w'.rangeAt X 0 xq) u4 := rX4
  simp only [nz]
  refine hs_t 8 38 (?_) rfl (by kernel_rfl) (by kernel_rfl) (by kernel_rfl) (by rfl) ?_ hS rfl ?_
  rotate_left
  ·intro w' hw
   go_simp
   try with_reducible rfl
  simp only [nz]
  refine hs_t 9 39 (?_) rfl (by kernel_rfl) (by kernel_rfl) (by kernel_rfl) (by rfl) ?_ hS rfl ?_
  rotate_left
  ·intro w' hw
   go_simp
   try with_reducible rfl
  simp only [nz]
  refine hs_store (i := 10) (w' := u4.setCell ⟨P.p, 6, none⟩ v6) rfl (by kernel_rfl) (by rfl) (ex_put1 (n := 10) rfl rfl rfl t4 (by decide) isz_ens hv6.1 hv6.2) rfl rX5 ?_
  refine hs_done (by kernel_rfl) ?_
  have HF := hide hN3
  have HG := hide HB4
  have HE : Hid (∀ g, v6.ownBlock = some g → P.v6.ownBlock = some g ∨ w.heap.size ≤ g) := hide fun g hg => (gb6 g hg).imp (fun q => q) (fun q => Nat.le_trans zz q)
  obtain ⟨u5, hu5⟩ : ∃ u, u4.setCell ⟨P.p, 6, none⟩ v6 = u := ⟨_, rfl⟩
  rw [hu5] at HF HG ⊢
  clear hN3 HB4 gb6 zz hS rX5 rX4 t4 hv6 o6 g6 hN2 hN HB rX2 r2 B2 c6 hu5 hY
  go_wp2_with fail
  refine leaves_cons (f := 41) (args := #[.pointer (some ⟨P.p, 4, none⟩)]) (by simp) (by simp [go_sem]) ?_
  refine (unlock_deferred muLib ⟨P.p, 4, none⟩ .returning _ (HF.out.c 4 _ rfl) HF.out.f4).mono ?_
  rintro e u' w'' ⟨rfl, rfl, rfl⟩
  exact ⟨_, results_tmp rfl _ _ _, rfl, HG.out.trans (Off.cell u5 4 _) (fun _ _ q => q), v6, HF.out.locked 0, HE.out⟩
 ·refine st_run (i := 6) (d := some 36) (v := .slice (some ⟨u2.heap.size, 0, none⟩) 1 1) (w' := u2.alloc (.cells xq.toArray 32)) rfl (by rfl) (exec_bs1 rfl rfl (run_bs1 51 32 i1 _ xq Tryz.underlying51 hi1 hiz (by rw [his, hxl]) (by omega) (by omega) _)) rfl rX2 ?_
  simp only [nz]
  refine hs_run (i := 4) (d := some 34) (v := P.v6) (w' := u2.alloc (.cells xq.toArray 32)) rfl (by kernel_rfl) (by rfl) (pl_one rfl rfl (hN2.c 6 _ rfl) Tryz.underlying51 rfl) rfl rX2 ?_
  simp only [nz]
  obtain ⟨Y, hY⟩ : ∃ Y, u2.heap.size = Y := ⟨_, rfl⟩
  obtain ⟨u3, hu3⟩ : ∃ u, u2.alloc (.cells xq.toArray 32) = u := ⟨_, rfl⟩
  rw [hu3] at B2 r2 hN2 rX2 ⊢
  have sX2 : X < u3.heap.size := Nat.lt_of_lt_of_le sX1 B2.size
  have bB3 : B ≤ u3.heap.size := Nat.le_trans bB B2.size
  have HB := HB.trans (Off.of_below (F := P.own) B2) (fun _ _ q => q)
  clear hu3
  refine hs_runX (i := 7) (d := some 37) rfl (by kernel_rfl) (by rfl) rfl (ex_app2 rfl rfl rfl Tryz.underlying51 hi1 hiz his (by rw [hib]; decide) rfl hN2.o6 bB3 r2 hxl hx1 hn hzk) ?_
  rintro v6 u4 ⟨o6, g6, gb6⟩
  have hN3 := hN2.addPast x hx (by rw [hxq.out]; exact o6) g6 gb6
  have rX4 : u4.rangeAt X 0 xq := range_at rX2 (g6.block X sX2 (fun e => nX X (.inr (.inr (.inr (.inr (.inr e.symm))))) rfl))
  have t4 : u4.there P.p 0 10 := cells_blk hN2.t (g6.block P.p hN2.lt (fun e => (hN2.r6 _ e.symm).1 rfl))
  have rX5 : (u4.setCell ⟨P.p, 6, none⟩ v6).rangeAt X 0 xq := range_at rX4 (Below.heap_setCell u4 ⟨P.p, 6, none⟩ _ X (fun e => nX _ (.inl rfl) e.symm))
  have hv6 := own_cellC o6
  have HB4 : Off P.own w (u4.setCell ⟨P.p, 6, none⟩ v6) := (HB.trans (Off.of_grown (F := P.own) g6 (fun k hk => .inr (.inr (.inr (.inr (.inr hk)))))) (fun _ _ q => q)).trans (Off.cell u4 6 v6) (fun _ _ q => q)
  have zz : w.heap.size ≤ u3.heap.size := HB.size
  refine ⟨rX4, ?_⟩
  have hS : (fun w' : World => w'.rangeAt X 0 xq) u4 := rX4
  simp only [nz]
  refine hs_t 8 38 (?_) rfl (by kernel_rfl) (by kernel_rfl) (by kernel_rfl) (by rfl) ?_ hS rfl ?_
  rotate_left
  ·intro w' hw
   go_simp
   try with_reducible rfl
  simp only [nz]
  refine hs_t 9 39 (?_) rfl (by kernel_rfl) (by kernel_rfl) (by kernel_rfl) (by rfl) ?_ hS rfl ?_
  rotate_left
  ·intro w' hw
   go_simp
   try with_reducible rfl
  simp only [nz]
  refine hs_store (i := 10) (w' := u4.setCell ⟨P.p, 6, none⟩ v6) rfl (by kernel_rfl) (by rfl) (ex_put1 (n := 10) rfl rfl rfl t4 (by decide) isz_ens hv6.1 hv6.2) rfl rX5 ?_
  refine hs_done (by kernel_rfl) ?_
  have HF := hide hN3
  have HG := hide HB4
  have HE : Hid (∀ g, v6.ownBlock = some g → P.v6.ownBlock = some g ∨ w.heap.size ≤ g) := hide fun g hg => (gb6 g hg).imp (fun q => q) (fun q => Nat.le_trans zz q)
  obtain ⟨u5, hu5⟩ : ∃ u, u4.setCell ⟨P.p, 6, none⟩ v6 = u := ⟨_, rfl⟩
  rw [hu5] at HF HG ⊢
  clear hN3 HB4 gb6 zz hS rX5 rX4 t4 hv6 o6 g6 hN2 hN HB rX2 r2 B2 c6 hu5 hY
  go_wp2_with fail
  refine leaves_cons (f := 41) (args := #[.pointer (some ⟨P.p, 4, none⟩)]) (by simp) (by simp [go_sem]) ?_
  refine (unlock_deferred muLib ⟨P.p, 4, none⟩ .returning _ (HF.out.c 4 _ rfl) HF.out.f4).mono ?_
  rintro e u' w'' ⟨rfl, rfl, rfl⟩
  exact ⟨_, results_tmp rfl _ _ _, rfl, HG.out.trans (Off.cell u5 4 _) (fun _ _ q => q), v6, HF.out.locked 0, HE.out⟩
end Go.Proofs.YtilbjeeabecfjaaGreat
