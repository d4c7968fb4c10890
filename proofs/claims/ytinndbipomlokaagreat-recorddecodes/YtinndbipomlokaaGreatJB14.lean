/- records: Decode -/
import Derived.Test.YtinndbipomlokaaGreatJB0
import Derived.Test.YtinndbipomlokaaGreatJB13
namespace Go.Proofs.YtinndbipomlokaaGreat
open Go.RowKit
open Sha Tal
set_option linter.unusedVariables false
set_option linter.unusedSimpArgs false
def ofT (k : Int) (zs : List Int) : Rp × Int := if (decS zs).2 = 0 ∧ (decS zs).1.k = mkK k then (⟨k, 0, 0, 0, (decS zs).1.q, (decS zs).1.rs, (decS zs).1.ct, (decS zs).1.cs, (decS zs).1.st, (decS zs).1.sg⟩, 0) else (Rp.zero 0, 240)
def kdec (zs : List Int) : Rp × Int := if doneE (krS (zs, 0)).2.1 (krS (zs, 0)).2.2 ≠ 0 then (Rp.zero 0, doneE (krS (zs, 0)).2.1 (krS (zs, 0)).2.2) else if (krS (zs, 0)).1.1.k = 1 ∨ (krS (zs, 0)).1.1.k = 3 then ((krS (zs, 0)).1.1, 0) else ofT (krS (zs, 0)).1.1.k (strL (krS (zs, 0)).1.2)
def Rc.Bk (c : Rc) (P : Nat → Prop) : Prop := c.rs.Bk P ∧ c.cs.Bk P ∧ c.sg.Bk P
def DecK (w : World) (p : Rp × Int) (en : Ending) (w' : World) : Prop := ∃ c : Rc, en = .returned (.tuple #[.agg c.cells.toArray, .int .i64 p.2]) ∧ c.pure = p.1 ∧ c.ct.ok ∧ c.At w' ∧ c.Bk (fun b => w.heap.size ≤ b) ∧ Below w.heap.size w w'
theorem nil_bk {α : Type} {P : Nat → Prop} : (⟨none, 0, []⟩ : Sl α).Bk P := fun b h1 _ => absurd rfl h1
theorem Rc.At.put {c : Rc} {W : World} {B o : Nat} {vs : List Value} {P : Nat → Prop} (h : c.At W) (hb : c.Bk P) (hp : ∀ b, P b → b ≠ B) : c.At (W.setCells B o vs) := ⟨h.rs.put hb.1 hp, h.cs.put hb.2.1 hp, h.sg.put hb.2.2 hp⟩
theorem Rc.Bk.mono {c : Rc} {P P' : Nat → Prop} (h : c.Bk P) (hp : ∀ b, P b → P' b) : c.Bk P' := ⟨h.1.mono hp, h.2.1.mono hp, h.2.2.mono hp⟩
theorem build_rn (w : World) : (Instr.build 33 #[]).run Tryz.prog w = .ok (.agg (Rc.zero 0).cells.toArray) w := build_rec #[] _ w rfl
theorem build_rt (c : Rc) (h : c.ct.ok) (h1 : c.l = 0) (h2 : c.v = 0) (h3 : c.s = 0) (w : World) : (Instr.build 33 #[(0, .int .i64 c.k), (4, .agg #[.bool c.q, c.rs.val]), (5, .agg (certL c.ct c.cs).toArray), (6, .string c.st), (7, c.sg.val)]).run Tryz.prog w = .ok (.agg c.cells.toArray) w := by
 refine build_rec _ _ w ?_
 have hZ : (certL Vt.zero ⟨none, 0, []⟩).length = 37 := cert_len Vt.zero_ok
 have e0 : (Rc.zero 0).cells = [] ++ ([Value.int .i64 0] ++ ([.int .i64 0, .int .i64 0, .int .i64 0, .bool false, .slice none 0 0] ++ (certL Vt.zero ⟨none, 0, []⟩ ++ [.string ⟨#[]⟩, .slice none 0 0]))) := rfl
 obtain ⟨Z, hZe⟩ : ∃ Z, certL Vt.zero ⟨none, 0, []⟩ = Z := ⟨_, rfl⟩
 rw [hZe] at hZ e0
 rw [e0, fill_step (off := 0) (n := 1) (vs := [.int .i64 c.k]) rfl rfl rfl rfl rfl]
 have e1 : ([] : List Value) ++ ([Value.int .i64 c.k] ++ ([.int .i64 0, .int .i64 0, .int .i64 0, .bool false, .slice none 0 0] ++ (Z ++ [.string ⟨#[]⟩, .slice none 0 0]))) = [Value.int .i64 c.k, .int .i64 0, .int .i64 0, .int .i64 0] ++ ([.bool false, .slice none 0 0] ++ (Z ++ [.string ⟨#[]⟩, .slice none 0 0])) := rfl
 rw [e1, fill_step (off := 4) (n := 2) (vs := [.bool c.q, c.rs.val]) rfl rfl rfl rfl rfl]
 have e2 : [Value.int .i64 c.k, .int .i64 0, .int .i64 0, .int .i64 0] ++ ([.bool c.q, c.rs.val] ++ (Z ++ [.string ⟨#[]⟩, .slice none 0 0])) = [Value.int .i64 c.k, .int .i64 0, .int .i64 0, .int .i64 0, .bool c.q, c.rs.val] ++ (Z ++ [.string ⟨#[]⟩, .slice none 0 0]) := rfl
 rw [e2, fill_step (off := 6) (n := 37) (vs := certL c.ct c.cs) rfl hZ rfl rfl (cert_len h)]
 have e3 : [Value.int .i64 c.k, .int .i64 0, .int .i64 0, .int .i64 0, .bool c.q, c.rs.val] ++ (certL c.ct c.cs ++ [.string ⟨#[]⟩, .slice none 0 0]) = ([Value.int .i64 c.k, .int .i64 0, .int .i64 0, .int .i64 0, .bool c.q, c.rs.val] ++ certL c.ct c.cs) ++ ([.string ⟨#[]⟩] ++ [.slice none 0 0]) := by simp
 rw [e3, fill_step (off := 43) (n := 1) (vs := [.string c.st]) rfl rfl (by rw [List.length_append, cert_len h]; rfl) rfl rfl]
 have e4 : ([Value.int .i64 c.k, .int .i64 0, .int .i64 0, .int .i64 0, .bool c.q, c.rs.val] ++ certL c.ct c.cs) ++ ([.string c.st] ++ [.slice none 0 0]) = (([Value.int .i64 c.k, .int .i64 0, .int .i64 0, .int .i64 0, .bool c.q, c.rs.val] ++ certL c.ct c.cs) ++ [.string c.st]) ++ ([.slice none 0 0] ++ []) := by simp
 rw [e4, fill_step (off := 44) (n := 1) (vs := [c.sg.val]) rfl rfl (by simp [cert_len h]) rfl rfl]
 simp [Rc.cells, h1, h2, h3, Instr.fill]
theorem textS_tl (r : List Int) (e m : Int) : (textS r e m).1.length ≤ r.length := by
 have h1 := numS_len r e 9223372036854775807
 unfold textS
 split
 ·split
  ·exact Nat.zero_le _
  split
  ·exact Nat.zero_le _
  ·show ((numS r e 9223372036854775807).2.1.take _).length ≤ _
   rw [List.length_take]
   omega
 ·exact Nat.zero_le _
theorem krS_tl (s : Xst) : (krS s).1.2.size ≤ s.1.length := by
 have h1 := xnuS_len 5 s
 unfold krS
 split
 ·exact Nat.zero_le _
 split
 ·exact Nat.zero_le _
 split
 ·show (strOf (textS (xnuS 5 s).2.1 (xnuS 5 s).2.2 4194304).1).size ≤ _
  rw [strOf_size]
  exact Nat.le_trans (textS_tl _ _ _) h1
 ·exact Nat.zero_le _
theorem deck_out {w W : World} {A : Nat} {c : Rc} {n : Int} {p : Rp × Int} {qc : List Value} (hq : c.cells = qc) (hA : A = w.heap.size) (hB : Below w.heap.size w W) (hn : n = p.2) (hp : c.pure = p.1) (ho : c.ct.ok) (ha : c.At W) (hb : c.Bk (fun b => w.heap.size < b)) : DecK w p (.returned (.tuple #[.agg qc.toArray, .int .i64 n])) (W.setCells A 0 qc) := by
 subst hq hn hA
 exact ⟨c, rfl, hp, ho, ha.put hb (fun b h => by omega), hb.mono (fun b h => by omega), below_sets (Nat.le_refl _) _ _ _ hB⟩
set_option maxRecDepth 100000 in
set_option maxHeartbeats 2000000 in
theorem kofText_any (k : Int) (sb : ByteArray) (w : World) (hs : sb.size ≤ 40000) : Calls Tryz.prog 38 #[.int .i64 k, .string sb] w fun en w' => DecK w (ofT k (strL sb)) en w' := by
 obtain ⟨zc, hz0, hzl, hz1, hzr, hbn⟩ : ∃ z : List Value, Hid (z = (Rc.zero 0).cells) ∧ z.length = 45 ∧ (∀ v ∈ z, v.oneCell' = true) ∧ (∀ w : World, (zeroValue 33).run Tryz.prog w = .ok (.agg z.toArray) w) ∧ (∀ w : World, (Instr.build 33 #[]).run Tryz.prog w = .ok (.agg z.toArray) w) := ⟨_, hide rfl, Rc.len Vt.zero_ok, Rc.one (Rc.zero 0), zeroRc, build_rn⟩
 obtain ⟨zm, hzml, hzmr⟩ : ∃ z : List Value, z.length = 119 ∧ ∀ w : World, (zeroValue 63).run Tryz.prog w = .ok (.agg z.toArray) w := ⟨_, (Ms.plain_ok 0 0 0 Vt.zero_ok zeros32_len zeros32_byte).len, zeroM⟩
 have cD := fun w0 => decode_any sb hs w0
 have cM := fun w0 => kmk_any k w0
 obtain ⟨PP, hPP⟩ : ∃ P, Hid (ofT k (strL sb) = P) := ⟨_, hide rfl⟩
 rw [hPP.out]
 have HP1 : Hid (PP = if (decS (strL sb)).2 = 0 ∧ (decS (strL sb)).1.k = mkK k then (⟨k, 0, 0, 0, (decS (strL sb)).1.q, (decS (strL sb)).1.rs, (decS (strL sb)).1.ct, (decS (strL sb)).1.cs, (decS (strL sb)).1.st, (decS (strL sb)).1.sg⟩, 0) else (Rp.zero 0, 240)) := hide (by rw [← hPP.out]; rfl)
 clear hPP
 obtain ⟨D, hD⟩ : ∃ D, decS (strL sb) = D := ⟨_, rfl⟩
 rw [hD] at HP1
 simp only [hD] at cD
 clear hD
 obtain ⟨mp, er⟩ := D
 simp only at cD HP1
 obtain ⟨mk, hmk⟩ : ∃ x, mkK k = x := ⟨_, rfl⟩
 rw [hmk] at HP1
 simp only [hmk] at cM
 obtain ⟨hB1, -, hs1⟩ := boxed_new w zc 33
 have ht1 := there_newN w zc.toArray 33 (n := 45) (by simp [hzl])
 obtain ⟨A, hA⟩ : ∃ X, w.heap.size = X := ⟨_, rfl⟩
 have HAw : Hid (A = w.heap.size) := hide hA.symm
 go_enter Tryz.func38, Tryz.ntmps38
 go_upto_region 0 with fail
 try simp only [Act.put]
 refine pl_begin ?_
 refine pl_run (d := some 4) (v := .pointer (some ⟨w.heap.size, 0, none⟩)) (w' := w.alloc (.cells zc.toArray 33)) (by rfl) (ex_alloc rfl (hzr _)) rfl ?_
 simp only [nz]
 refine pl_t 5 (?_) (by rfl) ?_ rfl ?_
 rotate_left
 ·go_simp
  try with_reducible rfl
 simp only [nz]
 refine pl_nil ?_
 obtain ⟨W1, hW1⟩ : ∃ W, w.alloc (.cells zc.toArray 33) = W := ⟨_, rfl⟩
 rw [hW1] at hB1 hs1 ht1 ⊢
 rw [hA] at hs1 ht1
 simp only [hA]
 clear hW1 hzr
 go_upto_region 1 with fail
 try simp only [Act.put]
 refine pl_begin ?_
 refine pl_t 9 (?_) (by rfl) ?_ rfl ?_
 rotate_left
 ·go_simp
  try with_reducible rfl
 simp only [nz]
 refine pl_call (d := some 10) (by rfl) (by go_simp; first | done | exact ⟨rfl, rfl⟩ | with_reducible rfl) rfl ?_
 refine (cD W1).mono ?_
 rintro _ w3 ⟨m, rfl, hp, hmo, hAt, hBk, hb3⟩
 refine ⟨_, rfl, ?_⟩
 simp only [nz]
 have hql := hmo.ms.len
 have hq1 := hmo.ms.one
 have hiq : (Tryz.prog.info? 63).map (·.size) = some m.ms.cells.length := by rw [hql]; exact iszM
 refine pl_t 8 (?_) (by rfl) ?_ rfl ?_
 rotate_left
 ·go_simp
  try with_reducible rfl
 simp only [nz]
 refine pl_t 11 (?_) (by rfl) ?_ rfl ?_
 rotate_left
 ·go_simp
  try with_reducible rfl
 simp only [nz]
 refine pl_t 12 (?_) (by rfl) ?_ rfl ?_
 rotate_left
 ·go_simp
  try with_reducible rfl
 simp only [nz]
 refine pl_run (d := some 6) (v := .pointer (some ⟨w3.heap.size, 0, none⟩)) (w' := w3.alloc (.cells zm.toArray 63)) (by rfl) (ex_alloc rfl (hzmr _)) rfl ?_
 simp only [nz]
 refine pl_store (w' := (w3.alloc (.cells zm.toArray 63)).setCells w3.heap.size 0 m.ms.cells) (by rfl) (ex_put (cs := m.ms.cells.toArray) rfl rfl rfl (there_newN _ _ _ (by simp [hzml, hql])) (by simpa using hiq) (all_one hq1)) rfl ?_
 refine pl_t 7 (?_) (by rfl) ?_ rfl ?_
 rotate_left
 ·go_simp
  try with_reducible rfl
 simp only [nz]
 refine pl_nil ?_
 obtain ⟨r4, hF2, hF3, -⟩ := fresh_store w3 zm.toArray 63 m.ms.cells (by simp [hzml, hql])
 have hT3 := there_below ht1 hb3 hs1
 have hB3 : Below w.heap.size w w3 := hB1.trans (hb3.mono hB1.size)
 have hs3 := Nat.lt_of_lt_of_le hs1 hb3.size
 have hT4 := there_below hT3 hF2 hs3
 have hB4 := hB3.trans (hF2.mono hB3.size)
 have hA4 := hAt.below hF2
 obtain ⟨X, hX⟩ : ∃ X, w3.heap.size = X := ⟨_, rfl⟩
 rw [hX] at r4 hF3 hs3
 simp only [hX]
 obtain ⟨w4, hw4⟩ : ∃ W, (w3.alloc (.cells zm.toArray 63)).setCells X 0 m.ms.cells = W := ⟨_, rfl⟩
 simp only [hX, hw4] at r4 hF3 hT4 hB4 hA4 ⊢
 have hX4 : X < w4.heap.size := by omega
 have HBk : Hid (m.Bk (fun b => A < b)) := hide ⟨hBk.1.mono (fun b hb => by omega), hBk.2.1.mono (fun b hb => by omega), fun y hy => (hBk.2.2.1 y hy).mono (fun b hb => by omega), hBk.2.2.2.1.mono (fun b hb => by omega), hBk.2.2.2.2.1.mono (fun b hb => by omega), hBk.2.2.2.2.2.mono (fun b hb => by omega)⟩
 have HM := hide hp
 clear hp hF2 hF3 hT3 hB3 hs3 hb3 hAt hBk hB1 hs1 ht1 hw4 hX cD hzml hzmr zm hql hq1 hiq hA
 go_upto_region 2 with fail
 refine hs_begin (S := (Below w4.drew.heap.size w4.drew)) 9 rfl (by kernel_rfl) ?_
 have rX8 := (World.rangeAt_drew _ _ _ _).2 r4
 have B8 := hB4.drew
 have sX8 : X < w4.drew.heap.size := hX4
 have tA8 : w4.drew.there A 0 45 := hT4
 have am8 : m.At w4.drew := hA4.below (Below.refl _ _).drew
 obtain ⟨w8, hw8⟩ : ∃ W, w4.drew = W := ⟨_, rfl⟩
 rw [hw8] at rX8 B8 sX8 tA8 am8 ⊢
 clear hw8 r4 hB4 hX4 hT4 hA4
 have hS : (Below w8.heap.size w8) w8 := Below.refl _ _
 have MA := hmo.ms.at rX8
 have k8 : w8.cell? ⟨X, 0, none⟩ = some (.int .i64 m.k) := MA.k
 by_cases he : er = 0
 rotate_left
 ·have heb : (er != 0) = true := by simpa using he
  have HP : Hid (PP = (Rp.zero 0, 240)) := hide (by rw [HP1.out, if_neg (fun h => he h.1)])
  clear HP1 HM HBk MA k8 he cM
  refine hs_t 0 13 (?_) rfl (by kernel_rfl) (by kernel_rfl) (by kernel_rfl) (by rfl) ?_ hS rfl ?_
  rotate_left
  ·intro w' hw
   go_simp
   try with_reducible rfl
  simp only [nz]
  refine hs_t 1 14 (.bool true) rfl (by kernel_rfl) (by kernel_rfl) (by kernel_rfl) (by rfl) (fun w' hw => by go_simp <;> (try simp [*])) hS rfl ?_
  simp only [nz]
  refine hs_t 2 15 (?_) rfl (by kernel_rfl) (by kernel_rfl) (by kernel_rfl) (by rfl) ?_ hS rfl ?_
  rotate_left
  ·intro w' hw
   go_simp
   try with_reducible rfl
  simp only [nz]
  refine hs_skip (i := 3) (d := some 16) rfl (by kernel_rfl) (by kernel_rfl) (by kernel_rfl) (by rfl) hS rfl ?_
  simp only [nz]
  refine hs_skip (i := 4) (d := some 17) rfl (by kernel_rfl) (by kernel_rfl) (by kernel_rfl) (by rfl) hS rfl ?_
  simp only [nz]
  refine hs_skip (i := 5) (d := some 18) rfl (by kernel_rfl) (by kernel_rfl) (by kernel_rfl) (by rfl) hS rfl ?_
  simp only [nz]
  refine hs_skip (i := 6) (d := some 19) rfl (by kernel_rfl) (by kernel_rfl) (by kernel_rfl) (by rfl) hS rfl ?_
  simp only [nz]
  refine hs_skip (i := 7) (d := some 20) rfl (by kernel_rfl) (by kernel_rfl) (by kernel_rfl) (by rfl) hS rfl ?_
  simp only [nz]
  refine hs_t 8 21 (?_) rfl (by kernel_rfl) (by kernel_rfl) (by kernel_rfl) (by rfl) ?_ hS rfl ?_
  rotate_left
  ·intro w' hw
   go_simp
   try with_reducible rfl
  simp only [nz]
  refine hs_done (by kernel_rfl) ?_
  go_upto_region 3 with fail
  try simp only [Act.put]
  refine pl_begin ?_
  refine pl_t 22 (.agg zc.toArray) (by rfl) (ex_build (parts := []) rfl rfl (hbn _)) rfl ?_
  simp only [nz]
  refine pl_store (w' := w8.setCells A 0 zc) (by rfl) (ex_put (cs := zc.toArray) rfl rfl rfl (by simpa [hzl] using tA8) (by simpa [hzl] using iszRc) (all_one hz1)) rfl ?_
  refine pl_t 5 (?_) (by rfl) ?_ rfl ?_
  rotate_left
  ·go_simp
   try with_reducible rfl
  simp only [nz]
  refine pl_nil ?_
  have hrs := run_loadVar_mid (P := Tryz.prog) (w8.setCells A 0 zc) A 0 33 zc _ (World.rangeAt_setCells_same w8 A 0 zc (by rw [hzl]; exact tA8)) Tryz.underlying33 rfl (by rw [hzl]; exact iszRc)
  have HF : Hid (DecK w PP (.returned (.tuple #[.agg zc.toArray, .int .i64 240])) (w8.setCells A 0 zc)) := hide (by
   rw [HP.out]
   exact deck_out (c := Rc.zero 0) hz0.out.symm HAw.out B8 rfl rfl Vt.zero_ok (Rc.zero_at _ _) ⟨nil_bk, nil_bk, nil_bk⟩)
  clear rX8 B8 sX8 tA8 am8 hS
  go_wp2_with fail
  refine bodyPost_ret (results_ct rfl _ _ _ rfl hrs) rfl ?_
  exact HF.out
 subst he
 by_cases hk : m.k = mk
 rotate_left
 ·have HP : Hid (PP = (Rp.zero 0, 240)) := hide (by rw [HP1.out, if_neg (fun h => hk (by rw [← h.2, ← HM.out]; rfl))])
  have hkb : (m.k != mk) = true := by simpa using hk
  clear HP1 HM HBk MA hk
  refine hs_t 0 13 (?_) rfl (by kernel_rfl) (by kernel_rfl) (by kernel_rfl) (by rfl) ?_ hS rfl ?_
  rotate_left
  ·intro w' hw
   go_simp
   try with_reducible rfl
  simp only [nz]
  refine hs_t 1 14 (.bool false) rfl (by kernel_rfl) (by kernel_rfl) (by kernel_rfl) (by rfl) (fun w' hw => by go_simp <;> (try simp [*])) hS rfl ?_
  simp only [nz]
  refine hs_t 2 15 (?_) rfl (by kernel_rfl) (by kernel_rfl) (by kernel_rfl) (by rfl) ?_ hS rfl ?_
  rotate_left
  ·intro w' hw
   go_simp
   try with_reducible rfl
  simp only [nz]
  refine hs_t 3 16 (?_) rfl (by kernel_rfl) (by kernel_rfl) (by kernel_rfl) (by rfl) ?_ hS rfl ?_
  rotate_left
  ·intro w' hw
   go_simp
   try with_reducible rfl
  simp only [nz]
  refine hs_t 4 17 (.int .i64 m.k) rfl (by kernel_rfl) (by kernel_rfl) (by kernel_rfl) (by rfl) (fun w' hw => pl_one rfl rfl ((hw.cell (p := ⟨X, 0, none⟩) sX8).trans k8) Tryz.underlying3 rfl) hS rfl ?_
  simp only [nz]
  refine hs_t 5 18 (?_) rfl (by kernel_rfl) (by kernel_rfl) (by kernel_rfl) (by rfl) ?_ hS rfl ?_
  rotate_left
  ·intro w' hw
   go_simp
   try with_reducible rfl
  simp only [nz]
  refine hs_call (i := 6) (d := some 19) rfl (by kernel_rfl) (by rfl) (by go_simp; first | done | exact ⟨rfl, rfl⟩ | with_reducible rfl) rfl ?_
  refine (cM w8).mono ?_
  rintro _ w9 ⟨rfl, hx⟩
  obtain rfl := hx.symm
  clear hx
  refine ⟨_, rfl, hS, ?_⟩
  simp only [nz]
  refine hs_t 7 20 (.bool true) rfl (by kernel_rfl) (by kernel_rfl) (by kernel_rfl) (by rfl) (fun w' hw => by go_simp <;> (try simp [*])) hS rfl ?_
  simp only [nz]
  refine hs_t 8 21 (?_) rfl (by kernel_rfl) (by kernel_rfl) (by kernel_rfl) (by rfl) ?_ hS rfl ?_
  rotate_left
  ·intro w' hw
   go_simp
   try with_reducible rfl
  simp only [nz]
  refine hs_done (by kernel_rfl) ?_
  go_upto_region 3 with fail
  try simp only [Act.put]
  refine pl_begin ?_
  refine pl_t 22 (.agg zc.toArray) (by rfl) (ex_build (parts := []) rfl rfl (hbn _)) rfl ?_
  simp only [nz]
  refine pl_store (w' := w8.setCells A 0 zc) (by rfl) (ex_put (cs := zc.toArray) rfl rfl rfl (by simpa [hzl] using tA8) (by simpa [hzl] using iszRc) (all_one hz1)) rfl ?_
  refine pl_t 5 (?_) (by rfl) ?_ rfl ?_
  rotate_left
  ·go_simp
   try with_reducible rfl
  simp only [nz]
  refine pl_nil ?_
  have hrs := run_loadVar_mid (P := Tryz.prog) (w8.setCells A 0 zc) A 0 33 zc _ (World.rangeAt_setCells_same w8 A 0 zc (by rw [hzl]; exact tA8)) Tryz.underlying33 rfl (by rw [hzl]; exact iszRc)
  have HF : Hid (DecK w PP (.returned (.tuple #[.agg zc.toArray, .int .i64 240])) (w8.setCells A 0 zc)) := hide (by
   rw [HP.out]
   exact deck_out (c := Rc.zero 0) hz0.out.symm HAw.out B8 rfl rfl Vt.zero_ok (Rc.zero_at _ _) ⟨nil_bk, nil_bk, nil_bk⟩)
  clear rX8 B8 sX8 tA8 am8 hS
  go_wp2_with fail
  refine bodyPost_ret (results_ct rfl _ _ _ rfl hrs) rfl ?_
  exact HF.out
 ·have HP : Hid (PP = (⟨k, 0, 0, 0, m.q, m.rs.xs, m.ct, m.cs.xs, m.st, m.sg.xs⟩, 0)) := hide (by rw [HP1.out, if_pos ⟨rfl, by rw [← hk, ← HM.out]; rfl⟩, ← HM.out]; rfl)
  have hkb : (m.k != mk) = false := by simpa using hk
  have rB := ms_bat MA
  have rC : w8.rangeAt X 80 (certL m.ct m.cs) := MA.ct
  have rT : w8.cell? ⟨X, 117, none⟩ = some (.string m.st) := MA.st
  have rG : w8.cell? ⟨X, 118, none⟩ = some m.sg.val := MA.sg
  have hic : (Tryz.prog.info? 31).map (·.size) = some (certL m.ct m.cs).length := by rw [cert_len hmo.ct]; exact iszCe
  obtain ⟨C, hC⟩ : ∃ C : Rc, C = ⟨k, 0, 0, 0, m.q, m.rs, m.ct, m.cs, m.st, m.sg⟩ := ⟨_, rfl⟩
  have hco : C.ct.ok := by rw [hC]; exact hmo.ct
  have hbt := build_rt C hco (by rw [hC]) (by rw [hC]) (by rw [hC])
  have hql : C.cells.length = 45 := Rc.len hco
  have hq1 := Rc.one C
  have HCC : Hid (C.pure = ⟨k, 0, 0, 0, m.q, m.rs.xs, m.ct, m.cs.xs, m.st, m.sg.xs⟩ ∧ C.At w8 ∧ C.Bk (fun b => A < b)) := hide (by rw [hC]; exact ⟨rfl, ⟨am8.rs, am8.cs, am8.sg⟩, ⟨HBk.out.1, HBk.out.2.2.2.2.1, HBk.out.2.2.2.2.2⟩⟩)
  simp only [show C.k = k by rw [hC], show C.q = m.q by rw [hC], show C.rs = m.rs by rw [hC], show C.ct = m.ct by rw [hC], show C.cs = m.cs by rw [hC], show C.st = m.st by rw [hC], show C.sg = m.sg by rw [hC]] at hbt
  obtain ⟨qc, hqc⟩ : ∃ q, Hid (C.cells = q) := ⟨_, hide rfl⟩
  simp only [hqc.out] at hbt hql hq1
  clear HP1 HM MA hk HBk hC
  refine hs_t 0 13 (?_) rfl (by kernel_rfl) (by kernel_rfl) (by kernel_rfl) (by rfl) ?_ hS rfl ?_
  rotate_left
  ·intro w' hw
   go_simp
   try with_reducible rfl
  simp only [nz]
  refine hs_t 1 14 (.bool false) rfl (by kernel_rfl) (by kernel_rfl) (by kernel_rfl) (by rfl) (fun w' hw => by go_simp <;> (try simp [*])) hS rfl ?_
  simp only [nz]
  refine hs_t 2 15 (?_) rfl (by kernel_rfl) (by kernel_rfl) (by kernel_rfl) (by rfl) ?_ hS rfl ?_
  rotate_left
  ·intro w' hw
   go_simp
   try with_reducible rfl
  simp only [nz]
  refine hs_t 3 16 (?_) rfl (by kernel_rfl) (by kernel_rfl) (by kernel_rfl) (by rfl) ?_ hS rfl ?_
  rotate_left
  ·intro w' hw
   go_simp
   try with_reducible rfl
  simp only [nz]
  refine hs_t 4 17 (.int .i64 m.k) rfl (by kernel_rfl) (by kernel_rfl) (by kernel_rfl) (by rfl) (fun w' hw => pl_one rfl rfl ((hw.cell (p := ⟨X, 0, none⟩) sX8).trans k8) Tryz.underlying3 rfl) hS rfl ?_
  simp only [nz]
  refine hs_t 5 18 (?_) rfl (by kernel_rfl) (by kernel_rfl) (by kernel_rfl) (by rfl) ?_ hS rfl ?_
  rotate_left
  ·intro w' hw
   go_simp
   try with_reducible rfl
  simp only [nz]
  refine hs_call (i := 6) (d := some 19) rfl (by kernel_rfl) (by rfl) (by go_simp; first | done | exact ⟨rfl, rfl⟩ | with_reducible rfl) rfl ?_
  refine (cM w8).mono ?_
  rintro _ w9 ⟨rfl, hx⟩
  obtain rfl := hx.symm
  clear hx
  refine ⟨_, rfl, hS, ?_⟩
  simp only [nz]
  refine hs_t 7 20 (.bool false) rfl (by kernel_rfl) (by kernel_rfl) (by kernel_rfl) (by rfl) (fun w' hw => by go_simp <;> (try simp [*])) hS rfl ?_
  simp only [nz]
  refine hs_t 8 21 (?_) rfl (by kernel_rfl) (by kernel_rfl) (by kernel_rfl) (by rfl) ?_ hS rfl ?_
  rotate_left
  ·intro w' hw
   go_simp
   try with_reducible rfl
  simp only [nz]
  refine hs_done (by kernel_rfl) ?_
  clear k8
  go_upto_region 4 with fail
  try simp only [Act.put]
  refine pl_begin ?_
  refine pl_t 23 (?_) (by rfl) ?_ rfl ?_
  rotate_left
  ·go_simp
   try with_reducible rfl
  simp only [nz]
  refine pl_t 24 (?_) (by rfl) ?_ rfl ?_
  rotate_left
  ·go_simp
   try with_reducible rfl
  simp only [nz]
  refine pl_t 25 (.agg #[.bool m.q, m.rs.val]) (by rfl) (ex_mid rfl rfl rB Tryz.underlying24 rfl iszBa) rfl ?_
  simp only [nz]
  refine pl_t 26 (?_) (by rfl) ?_ rfl ?_
  rotate_left
  ·go_simp
   try with_reducible rfl
  simp only [nz]
  refine pl_t 27 (.agg (certL m.ct m.cs).toArray) (by rfl) (ex_mid rfl rfl rC Tryz.underlying31 rfl hic) rfl ?_
  simp only [nz]
  refine pl_t 28 (?_) (by rfl) ?_ rfl ?_
  rotate_left
  ·go_simp
   try with_reducible rfl
  simp only [nz]
  refine pl_t 29 (.string m.st) (by rfl) (pl_one rfl rfl rT Tryz.underlying9 rfl) rfl ?_
  simp only [nz]
  refine pl_t 30 (?_) (by rfl) ?_ rfl ?_
  rotate_left
  ·go_simp
   try with_reducible rfl
  simp only [nz]
  refine pl_t 31 (m.sg.val) (by rfl) (pl_one rfl rfl rG Tryz.underlying29 rfl) rfl ?_
  simp only [nz]
  refine pl_t 32 (.agg qc.toArray) (by rfl) (ex_build (parts := [(0, .tmp 23), (4, .tmp 25), (5, .tmp 27), (6, .tmp 29), (7, .tmp 31)]) rfl rfl (hbt _)) rfl ?_
  simp only [nz]
  refine pl_store (w' := w8.setCells A 0 qc) (by rfl) (ex_put (cs := qc.toArray) rfl rfl rfl (by simpa [hql] using tA8) (by simpa [hql] using iszRc) (all_one hq1)) rfl ?_
  refine pl_t 5 (?_) (by rfl) ?_ rfl ?_
  rotate_left
  ·go_simp
   try with_reducible rfl
  simp only [nz]
  refine pl_nil ?_
  have hrs := run_loadVar_mid (P := Tryz.prog) (w8.setCells A 0 qc) A 0 33 qc _ (World.rangeAt_setCells_same w8 A 0 qc (by rw [hql]; exact tA8)) Tryz.underlying33 rfl (by rw [hql]; exact iszRc)
  have HF : Hid (DecK w PP (.returned (.tuple #[.agg qc.toArray, .int .i64 0])) (w8.setCells A 0 qc)) := hide (by
   rw [HP.out]
   exact deck_out (c := C) hqc.out HAw.out B8 rfl HCC.out.1 hco HCC.out.2.1 (by rw [← HAw.out]; exact HCC.out.2.2))
  clear rX8 B8 sX8 tA8 am8 hS rB rC rT rG hbt
  go_wp2_with fail
  refine bodyPost_ret (results_ct rfl _ _ _ rfl hrs) rfl ?_
  exact HF.out
set_option maxRecDepth 100000 in
set_option maxHeartbeats 2000000 in
theorem kdecode_any (a : Option Addr) (cap : Nat) (zs : List Int) (w : World) (h : RowAt w a zs) (hl : zs.length ≤ 40000) : Calls Tryz.prog 15 #[.slice a zs.length cap] w fun en w' => DecK w (kdec zs) en w' := by
 obtain ⟨zc, hz0, hzl, hz1, hzr, hbn⟩ : ∃ z : List Value, Hid (z = (Rc.zero 0).cells) ∧ z.length = 45 ∧ (∀ v ∈ z, v.oneCell' = true) ∧ (∀ w : World, (zeroValue 33).run Tryz.prog w = .ok (.agg z.toArray) w) ∧ (∀ w : World, (Instr.build 33 #[]).run Tryz.prog w = .ok (.agg z.toArray) w) := ⟨_, hide rfl, Rc.len Vt.zero_ok, Rc.one (Rc.zero 0), zeroRc, build_rn⟩
 have cR := fun w0 h0 => read_any a cap zs w0 h0 (by omega)
 have cK := fun R w0 h0 => kread_any R (zs, 0) w0 h0 hl
 have htl := krS_tl (zs, 0)
 unfold kdec
 generalize krS (zs, 0) = p at cK htl ⊢
 obtain ⟨⟨rp, tx⟩, rest, er⟩ := p
 simp only at cK htl ⊢
 have htl2 : tx.size ≤ 40000 := Nat.le_trans htl hl
 have cD := fun R w0 h0 => done_any R rest er w0 h0
 obtain ⟨d, hd⟩ : ∃ d, doneE rest er = d := ⟨_, rfl⟩
 rw [hd]
 simp only [hd] at cD
 clear hd
 have cO := fun w0 => kofText_any rp.k tx w0 htl2
 obtain ⟨oT, hoT⟩ : ∃ o, ofT rp.k (strL tx) = o := ⟨_, rfl⟩
 rw [hoT]
 simp only [hoT] at cO
 obtain ⟨PP, hPP⟩ : ∃ P, Hid ((if d ≠ 0 then (Rp.zero 0, d) else if rp.k = 1 ∨ rp.k = 3 then (rp, 0) else oT) = P) := ⟨_, hide rfl⟩
 rw [hPP.out]
 obtain ⟨hB1, -, hs1⟩ := boxed_new w zc 33
 have ht1 := there_newN w zc.toArray 33 (n := 45) (by simp [hzl])
 have h1 := h.below hB1
 obtain ⟨A, hA⟩ : ∃ X, w.heap.size = X := ⟨_, rfl⟩
 have HAw : Hid (A = w.heap.size) := hide hA.symm
 clear h hoT htl htl2
 go_enter Tryz.func15, Tryz.ntmps15
 go_upto_region 0 with fail
 try simp only [Act.put]
 refine pl_begin ?_
 refine pl_run (d := some 2) (v := .pointer (some ⟨w.heap.size, 0, none⟩)) (w' := w.alloc (.cells zc.toArray 33)) (by rfl) (ex_alloc rfl (hzr _)) rfl ?_
 simp only [nz]
 refine pl_t 3 (?_) (by rfl) ?_ rfl ?_
 rotate_left
 ·go_simp
  try with_reducible rfl
 simp only [nz]
 refine pl_nil ?_
 obtain ⟨W1, hW1⟩ : ∃ W, w.alloc (.cells zc.toArray 33) = W := ⟨_, rfl⟩
 rw [hW1] at hB1 hs1 ht1 h1 ⊢
 rw [hA] at hs1 ht1
 simp only [hA]
 clear hW1
 go_upto_region 1 with fail
 try simp only [Act.put]
 refine pl_begin ?_
 refine pl_t 8 (?_) (by rfl) ?_ rfl ?_
 rotate_left
 ·go_simp
  try with_reducible rfl
 simp only [nz]
 refine pl_call (d := some 9) (by rfl) (by go_simp; first | done | exact ⟨rfl, rfl⟩ | with_reducible rfl) rfl ?_
 refine (cR W1 h1).mono ?_
 rintro _ w2 ⟨R, rfl, hRw, S2, hb2⟩
 refine ⟨_, rfl, ?_⟩
 simp only [nz]
 refine pl_t 4 (?_) (by rfl) ?_ rfl ?_
 rotate_left
 ·go_simp
  try with_reducible rfl
 simp only [nz]
 refine pl_nil ?_
 have hT2 := there_below ht1 hb2 hs1
 have hB2 : Below w.heap.size w w2 := hB1.trans (hb2.mono hB1.size)
 have hs2 := Nat.lt_of_lt_of_le hs1 hb2.size
 have hRA : A < R := by omega
 have hR2 : R < w2.heap.size := S2.1.1
 clear h1 cR
 go_upto_region 2 with fail
 try simp only [Act.put]
 refine pl_begin ?_
 refine pl_t 11 (?_) (by rfl) ?_ rfl ?_
 rotate_left
 ·go_simp
  try with_reducible rfl
 simp only [nz]
 refine pl_call (d := some 12) (by rfl) (by go_simp; first | done | exact ⟨rfl, rfl⟩ | with_reducible rfl) rfl ?_
 refine (cK R w2 S2).mono ?_
 rintro _ w3 ⟨c, rfl, hcp, hco, hca, hcs, hcg, hcb, S3, hg3⟩
 refine ⟨_, rfl, ?_⟩
 simp only [nz]
 have hql : c.cells.length = 45 := Rc.len hco
 have hq1 := Rc.one c
 have hiq : (Tryz.prog.info? 33).map (·.size) = some c.cells.length := by rw [hql]; exact iszRc
 refine pl_t 10 (?_) (by rfl) ?_ rfl ?_
 rotate_left
 ·go_simp
  try with_reducible rfl
 simp only [nz]
 refine pl_t 13 (?_) (by rfl) ?_ rfl ?_
 rotate_left
 ·go_simp
  try with_reducible rfl
 simp only [nz]
 refine pl_t 14 (?_) (by rfl) ?_ rfl ?_
 rotate_left
 ·go_simp
  try with_reducible rfl
 simp only [nz]
 refine pl_run (d := some 5) (v := .pointer (some ⟨w3.heap.size, 0, none⟩)) (w' := w3.alloc (.cells zc.toArray 33)) (by rfl) (ex_alloc rfl (hzr _)) rfl ?_
 simp only [nz]
 refine pl_store (w' := (w3.alloc (.cells zc.toArray 33)).setCells w3.heap.size 0 c.cells) (by rfl) (ex_put (cs := c.cells.toArray) rfl rfl rfl (there_newN _ _ _ (by simp [hzl, hql])) (by simpa using hiq) (all_one hq1)) rfl ?_
 refine pl_t 6 (?_) (by rfl) ?_ rfl ?_
 rotate_left
 ·go_simp
  try with_reducible rfl
 simp only [nz]
 refine pl_nil ?_
 obtain ⟨r4, hF2, hF3, -⟩ := fresh_store w3 zc.toArray 33 c.cells (by simp [hzl, hql])
 have hne : (some A : Option Nat) ≠ some R := by intro q; injection q with q; omega
 have hT3 := there_blk hT2 (hg3.block A hs2 hne)
 have hB3 : Below w.heap.size w w3 := ⟨hg3.os.trans hB2.os, hg3.tape.trans hB2.tape, hg3.output.trans hB2.output, Nat.le_trans hB2.size hg3.size, fun i hi => (hg3.block i (Nat.lt_of_lt_of_le hi hB2.size) (by intro q; injection q with q; omega)).trans (hB2.block i hi)⟩
 have hs3 : A < w3.heap.size := Nat.lt_of_lt_of_le hs2 hg3.size
 have hT4 := there_below hT3 hF2 hs3
 have hB4 := hB3.trans (hF2.mono hB3.size)
 have S4 := S3.below hF2
 have HCC : Hid (c.pure = rp ∧ c.At w3 ∧ c.Bk (fun b => A < b)) := hide ⟨hcp, ⟨hca, by rw [hcs]; exact RowsAt.none, by rw [hcg]; exact RowsAt.none⟩, ⟨hcb.mono (fun b hb => by omega), by rw [hcs]; exact nil_bk, by rw [hcg]; exact nil_bk⟩⟩
 replace HCC : Hid (c.pure = rp ∧ c.At ((w3.alloc (.cells zc.toArray 33)).setCells w3.heap.size 0 c.cells) ∧ c.Bk (fun b => A < b)) := hide ⟨HCC.out.1, ⟨HCC.out.2.1.rs.below hF2, HCC.out.2.1.cs.below hF2, HCC.out.2.1.sg.below hF2⟩, HCC.out.2.2⟩
 obtain ⟨X, hX⟩ : ∃ X, w3.heap.size = X := ⟨_, rfl⟩
 simp only [hX] at r4 hF3 hs3 hT4 hB4 S4 HCC ⊢
 obtain ⟨w4, hw4⟩ : ∃ W, (w3.alloc (.cells zc.toArray 33)).setCells X 0 c.cells = W := ⟨_, rfl⟩
 simp only [hw4] at r4 hF3 hT4 hB4 S4 HCC ⊢
 have hX4 : X < w4.heap.size := by omega
 have hck : c.k = rp.k := congrArg Rp.k HCC.out.1
 clear hF2 hF3 hT3 hB3 hB2 hb2 hcp hca hcs hcg hcb S3 hg3 hw4 hX hne hT2 S2 hB1 hs1 ht1 hs2 hRw cK hzr
 go_upto_region 3 with fail
 try simp only [Act.put]
 refine pl_begin ?_
 refine pl_t 15 (?_) (by rfl) ?_ rfl ?_
 rotate_left
 ·go_simp
  try with_reducible rfl
 simp only [nz]
 refine pl_call (d := some 16) (by rfl) (by go_simp; first | done | exact ⟨rfl, rfl⟩ | with_reducible rfl) rfl ?_
 refine (cD R w4 S4).mono ?_
 rintro _ w5 ⟨rfl, hx⟩
 obtain rfl := hx.symm
 clear hx
 refine ⟨_, rfl, ?_⟩
 simp only [nz]
 refine pl_t 7 (?_) (by rfl) ?_ rfl ?_
 rotate_left
 ·go_simp
  try with_reducible rfl
 simp only [nz]
 refine pl_nil ?_
 clear cD S4
 go_upto_region 4 with fail
 by_cases hd : d = 0
 rotate_left
 ·have hdb : (d != 0) = true := by simpa using hd
  have HP : Hid (PP = (Rp.zero 0, d)) := hide (by rw [← hPP.out, if_pos hd])
  clear hPP hd cO
  try simp only [Act.put]
  refine pl_begin ?_
  refine pl_t 17 (?_) (by rfl) ?_ rfl ?_
  rotate_left
  ·go_simp
   try with_reducible rfl
  simp only [nz]
  refine pl_t 18 (.bool true) (by rfl) (by go_simp <;> (try simp [*])) rfl ?_
  simp only [nz]
  refine pl_nil ?_
  go_upto_region 5 with fail
  try simp only [Act.put]
  refine pl_begin ?_
  refine pl_t 19 (.agg zc.toArray) (by rfl) (ex_build (parts := []) rfl rfl (hbn _)) rfl ?_
  simp only [nz]
  refine pl_t 20 (?_) (by rfl) ?_ rfl ?_
  rotate_left
  ·go_simp
   try with_reducible rfl
  simp only [nz]
  refine pl_store (w' := w4.setCells A 0 zc) (by rfl) (ex_put (cs := zc.toArray) rfl rfl rfl (by simpa [hzl] using hT4) (by simpa [hzl] using iszRc) (all_one hz1)) rfl ?_
  refine pl_t 3 (?_) (by rfl) ?_ rfl ?_
  rotate_left
  ·go_simp
   try with_reducible rfl
  simp only [nz]
  refine pl_nil ?_
  have hrs := run_loadVar_mid (P := Tryz.prog) (w4.setCells A 0 zc) A 0 33 zc _ (World.rangeAt_setCells_same w4 A 0 zc (by rw [hzl]; exact hT4)) Tryz.underlying33 rfl (by rw [hzl]; exact iszRc)
  have HF : Hid (DecK w PP (.returned (.tuple #[.agg zc.toArray, .int .i64 d])) (w4.setCells A 0 zc)) := hide (by
   rw [HP.out]
   exact deck_out (c := Rc.zero 0) hz0.out.symm HAw.out hB4 rfl rfl Vt.zero_ok (Rc.zero_at _ _) ⟨nil_bk, nil_bk, nil_bk⟩)
  clear r4 hB4 hT4 hX4 HCC
  go_wp2_with fail
  refine bodyPost_ret (results_ct rfl _ _ _ rfl hrs) rfl ?_
  exact HF.out
 subst hd
 try simp only [Act.put]
 refine pl_begin ?_
 refine pl_t 17 (?_) (by rfl) ?_ rfl ?_
 rotate_left
 ·go_simp
  try with_reducible rfl
 simp only [nz]
 refine pl_t 18 (.bool false) (by rfl) (by go_simp) rfl ?_
 simp only [nz]
 refine pl_nil ?_
 have k4 : w4.cell? ⟨X, 0, none⟩ = some (.int .i64 rp.k) := by rw [← hck]; exact r4 0 _ rfl
 go_upto_region 6 with fail
 try simp only [Act.put]
 refine pl_begin ?_
 refine pl_t 21 (?_) (by rfl) ?_ rfl ?_
 rotate_left
 ·go_simp
  try with_reducible rfl
 simp only [nz]
 refine pl_t 22 (.int .i64 rp.k) (by rfl) (pl_one rfl rfl k4 Tryz.underlying3 rfl) rfl ?_
 simp only [nz]
 refine pl_nil ?_
 by_cases hk1 : rp.k = 1
 ·have HP : Hid (PP = (rp, 0)) := hide (by rw [← hPP.out, if_neg (by decide), if_pos (.inl hk1)])
  clear hPP cO
  go_upto_region 7 with fail
  try simp only [Act.put]
  refine pl_begin ?_
  refine pl_t 24 (.bool true) (by rfl) (by go_simp <;> (try simp [*])) rfl ?_
  simp only [nz]
  refine pl_t 23 (?_) (by rfl) ?_ rfl ?_
  rotate_left
  ·go_simp
   try with_reducible rfl
  simp only [nz]
  refine pl_nil ?_
  have hql2 := hql
  obtain ⟨qc, hqc⟩ : ∃ q, Hid (c.cells = q) := ⟨_, hide rfl⟩
  simp only [hqc.out] at hql hq1 hiq r4
  go_upto_region 9 with fail
  try simp only [Act.put]
  refine pl_begin ?_
  refine pl_t 26 (.agg qc.toArray) (by rfl) (ex_mid rfl rfl r4 Tryz.underlying33 rfl hiq) rfl ?_
  simp only [nz]
  refine pl_store (w' := w4.setCells A 0 qc) (by rfl) (ex_put (cs := qc.toArray) rfl rfl rfl (by simpa [hql] using hT4) (by simpa using hiq) (all_one hq1)) rfl ?_
  refine pl_t 3 (?_) (by rfl) ?_ rfl ?_
  rotate_left
  ·go_simp
   try with_reducible rfl
  simp only [nz]
  refine pl_nil ?_
  have hrs := run_loadVar_mid (P := Tryz.prog) (w4.setCells A 0 qc) A 0 33 qc _ (World.rangeAt_setCells_same w4 A 0 qc (by rw [hql]; exact hT4)) Tryz.underlying33 rfl (by rw [hql]; exact iszRc)
  have HF : Hid (DecK w PP (.returned (.tuple #[.agg qc.toArray, .int .i64 0])) (w4.setCells A 0 qc)) := hide (by
   rw [HP.out]
   exact deck_out (c := c) hqc.out HAw.out hB4 rfl HCC.out.1 hco HCC.out.2.1 (by rw [← HAw.out]; exact HCC.out.2.2))
  clear r4 hB4 hT4 hX4 HCC k4
  go_wp2_with fail
  refine bodyPost_ret (results_ct rfl _ _ _ rfl hrs) rfl ?_
  exact HF.out
 have n1 : (rp.k == 1) = false := by simpa using hk1
 go_upto_region 7 with fail
 try simp only [Act.put]
 refine pl_begin ?_
 refine pl_t 24 (.bool false) (by rfl) (by go_simp <;> (try simp [*])) rfl ?_
 simp only [nz]
 refine pl_t 23 (?_) (by rfl) ?_ rfl ?_
 rotate_left
 ·go_simp
  try with_reducible rfl
 simp only [nz]
 refine pl_nil ?_
 by_cases hk3 : rp.k = 3
 ·have HP : Hid (PP = (rp, 0)) := hide (by rw [← hPP.out, if_neg (by decide), if_pos (.inr hk3)])
  clear hPP cO hk1
  go_upto_region 8 with fail
  try simp only [Act.put]
  refine pl_begin ?_
  refine pl_t 25 (.bool true) (by rfl) (by go_simp <;> (try simp [*])) rfl ?_
  simp only [nz]
  refine pl_t 23 (?_) (by rfl) ?_ rfl ?_
  rotate_left
  ·go_simp
   try with_reducible rfl
  simp only [nz]
  refine pl_nil ?_
  have hql2 := hql
  obtain ⟨qc, hqc⟩ : ∃ q, Hid (c.cells = q) := ⟨_, hide rfl⟩
  simp only [hqc.out] at hql hq1 hiq r4
  go_upto_region 9 with fail
  try simp only [Act.put]
  refine pl_begin ?_
  refine pl_t 26 (.agg qc.toArray) (by rfl) (ex_mid rfl rfl r4 Tryz.underlying33 rfl hiq) rfl ?_
  simp only [nz]
  refine pl_store (w' := w4.setCells A 0 qc) (by rfl) (ex_put (cs := qc.toArray) rfl rfl rfl (by simpa [hql] using hT4) (by simpa using hiq) (all_one hq1)) rfl ?_
  refine pl_t 3 (?_) (by rfl) ?_ rfl ?_
  rotate_left
  ·go_simp
   try with_reducible rfl
  simp only [nz]
  refine pl_nil ?_
  have hrs := run_loadVar_mid (P := Tryz.prog) (w4.setCells A 0 qc) A 0 33 qc _ (World.rangeAt_setCells_same w4 A 0 qc (by rw [hql]; exact hT4)) Tryz.underlying33 rfl (by rw [hql]; exact iszRc)
  have HF : Hid (DecK w PP (.returned (.tuple #[.agg qc.toArray, .int .i64 0])) (w4.setCells A 0 qc)) := hide (by
   rw [HP.out]
   exact deck_out (c := c) hqc.out HAw.out hB4 rfl HCC.out.1 hco HCC.out.2.1 (by rw [← HAw.out]; exact HCC.out.2.2))
  clear r4 hB4 hT4 hX4 HCC k4
  go_wp2_with fail
  refine bodyPost_ret (results_ct rfl _ _ _ rfl hrs) rfl ?_
  exact HF.out
 have n3 : (rp.k == 3) = false := by simpa using hk3
 have HP : Hid (PP = oT) := hide (by rw [← hPP.out, if_neg (by decide), if_neg (by omega)])
 clear hPP hk1 hk3
 go_upto_region 8 with fail
 try simp only [Act.put]
 refine pl_begin ?_
 refine pl_t 25 (.bool false) (by rfl) (by go_simp <;> (try simp [*])) rfl ?_
 simp only [nz]
 refine pl_t 23 (?_) (by rfl) ?_ rfl ?_
 rotate_left
 ·go_simp
  try with_reducible rfl
 simp only [nz]
 refine pl_nil ?_
 go_upto_region 10 with fail
 try simp only [Act.put]
 refine pl_begin ?_
 refine pl_t 27 (?_) (by rfl) ?_ rfl ?_
 rotate_left
 ·go_simp
  try with_reducible rfl
 simp only [nz]
 refine pl_t 28 (.int .i64 rp.k) (by rfl) (pl_one rfl rfl k4 Tryz.underlying3 rfl) rfl ?_
 simp only [nz]
 refine pl_t 29 (?_) (by rfl) ?_ rfl ?_
 rotate_left
 ·go_simp
  try with_reducible rfl
 simp only [nz]
 refine pl_call (d := some 30) (by rfl) (by go_simp; first | done | exact ⟨rfl, rfl⟩ | with_reducible rfl) rfl ?_
 refine (cO w4).mono ?_
 rintro _ w5 ⟨g, rfl, hgp, hgo, hga, hgb, hb5⟩
 refine ⟨_, rfl, ?_⟩
 simp only [nz]
 have hgl : g.cells.length = 45 := Rc.len hgo
 have hg1 := Rc.one g
 have hgi : (Tryz.prog.info? 33).map (·.size) = some g.cells.length := by rw [hgl]; exact iszRc
 obtain ⟨qg, hqg⟩ : ∃ q, Hid (g.cells = q) := ⟨_, hide rfl⟩
 simp only [hqg.out] at hgl hg1 hgi ⊢
 have hT5 := there_below hT4 hb5 (by omega)
 refine pl_t 31 (?_) (by rfl) ?_ rfl ?_
 rotate_left
 ·go_simp
  try with_reducible rfl
 simp only [nz]
 refine pl_t 32 (?_) (by rfl) ?_ rfl ?_
 rotate_left
 ·go_simp
  try with_reducible rfl
 simp only [nz]
 refine pl_store (w' := w5.setCells A 0 qg) (by rfl) (ex_put (cs := qg.toArray) rfl rfl rfl (by simpa [hgl] using hT5) (by simpa using hgi) (all_one hg1)) rfl ?_
 refine pl_t 3 (?_) (by rfl) ?_ rfl ?_
 rotate_left
 ·go_simp
  try with_reducible rfl
 simp only [nz]
 refine pl_nil ?_
 have hrs := run_loadVar_mid (P := Tryz.prog) (w5.setCells A 0 qg) A 0 33 qg _ (World.rangeAt_setCells_same w5 A 0 qg (by rw [hgl]; exact hT5)) Tryz.underlying33 rfl (by rw [hgl]; exact iszRc)
 have hB5 := hB4.trans (hb5.mono hB4.size)
 have HF : Hid (DecK w PP (.returned (.tuple #[.agg qg.toArray, .int .i64 oT.2])) (w5.setCells A 0 qg)) := hide (by
  rw [HP.out]
  exact deck_out (c := g) hqg.out HAw.out hB5 rfl hgp hgo hga (hgb.mono (fun b hb => by have := HAw.out; omega)))
 clear r4 hB4 hT4 HCC k4 hB5 hb5 hT5 hga hgb
 go_wp2_with fail
 refine bodyPost_ret (results_ct rfl _ _ _ rfl hrs) rfl ?_
 exact HF.out
end Go.Proofs.YtinndbipomlokaaGreat
