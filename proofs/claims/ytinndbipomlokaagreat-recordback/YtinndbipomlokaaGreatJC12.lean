/- records: Decode; records: the document's Decode; records that are not too much -/
import Derived.Test.YtinndbipomlokaaGreatJC0
import Derived.Test.YtinndbipomlokaaGreatJC11
import Derived.Test.YtinndbipomlokaaGreatJC10
import Derived.Test.YtinndbipomlokaaGreatJC6
namespace Go.Proofs.YtinndbipomlokaaGreat
open Go.RowKit
open Sha Tal
set_option linter.unusedVariables false
set_option linter.unusedSimpArgs false
def ofT (k : Int) (zs : List Int) : Rp × Int := if (decS zs).2 = 0 ∧ (decS zs).1.k = mkK k then (⟨k, 0, 0, 0, (decS zs).1.q, (decS zs).1.rs, (decS zs).1.ct, (decS zs).1.cs, (decS zs).1.st, (decS zs).1.sg⟩, 0) else (Rp.zero 0, 240)
def kdec (zs : List Int) : Rp × Int := if doneE (krS (zs, 0)).2.1 (krS (zs, 0)).2.2 ≠ 0 then (Rp.zero 0, doneE (krS (zs, 0)).2.1 (krS (zs, 0)).2.2) else if (krS (zs, 0)).1.1.k = 1 ∨ (krS (zs, 0)).1.1.k = 3 then ((krS (zs, 0)).1.1, 0) else ofT (krS (zs, 0)).1.1.k (strL (krS (zs, 0)).1.2)
def Rc.Bk (c : Rc) (P : Nat → Prop) : Prop := c.rs.Bk P ∧ c.cs.Bk P ∧ c.sg.Bk P
def DecK (w : World) (p : Rp × Int) (en : Ending) (w' : World) : Prop := ∃ c : Rc, en = .returned (.tuple #[.agg c.cells.toArray, .int .i64 p.2]) ∧ c.pure = p.1 ∧ c.ct.ok ∧ c.At w' ∧ c.Bk (fun b => w.heap.size ≤ b) ∧ Below w.heap.size w w'
theorem nil_bk {α : Type} {P : Nat → Prop} : (⟨none, 0, []⟩ : Sl α).Bk P := fun b h1 _ => absurd rfl h1
theorem Rc.At.put {c : Rc} {W : World} {B o : Nat} {vs : List Value} {P : Nat → Prop} (h : c.At W) (hb : c.Bk P) (hp : ∀ b, P b → b ≠ B) : c.At (W.setCells B o vs) := ⟨h.rs.put hb.1 hp, h.cs.put hb.2.1 hp, h.sg.put hb.2.2 hp⟩
theorem Rc.Bk.mono {c : Rc} {P P' : Nat → Prop} (h : c.Bk P) (hp : ∀ b, P b → P' b) : c.Bk P' := ⟨h.1.mono hp, h.2.1.mono hp, h.2.2.mono hp⟩
theorem build_rn (w : World) : (Instr.build 33 #[]).run Tryz.prog w = .ok (.agg (Rc.zero 0).cells.toArray) w := build_rec #[] _ w rfl
theorem build_rt (c : Rc) (h : c.ct.ok) (h1 : c.l = 0) (h2 : c.v = 0) (h3 : c.s = 0) (w : World) : (Instr.build 33 #[(0, .int .i64 c.k), (4, .agg #[.bool c.q, c.rs.val]), (5, .agg (certL c.ct c.cs).toArray), (6, .string c.st), (7, c.sg.val)]).run Tryz.prog w = .ok (.agg c.cells.toArray) w := by
 refine build_rec _ _ w ?_
 have hZ : (certL Vt.zero ⟨none, 0, []⟩).length = 37 := cert_len Vt.zero_ok
 have e0 : (Rc.zero 0).cells = [] ++ ([Value.int .i64 0] ++ ([.int .i64 0, .int .i64 0, .int .i64 0, .bool false, .slice none 0 0] ++ (certL Vt.zero ⟨none, 0, []⟩ ++ [.string ⟨#[]⟩, .slice none 0 0]))) := rfl
 obtain ⟨Z, hZe⟩ : ∃ Z, certL Vt.zero ⟨none, 0, []⟩ = Z := ⟨_, rfl⟩
 rw [hZe] at hZ e0
 rw [e0, fill_step (off := 0) (n := 1) (vs := [.int .i64 c.k]) rfl rfl rfl rfl rfl]
 have e1 : ([] : List Value) ++ ([Value.int .i64 c.k] ++ ([.int .i64 0, .int .i64 0, .int .i64 0, .bool false, .slice none 0 0] ++ (Z ++ [.string ⟨#[]⟩, .slice none 0 0]))) = [Value.int .i64 c.k, .int .i64 0, .int .i64 0, .int .i64 0] ++ ([.bool false, .slice none 0 0] ++ (Z ++ [.string ⟨#[]⟩, .slice none 0 0])) := rfl
 rw [e1, fill_step (off := 4) (n := 2) (vs := [.bool c.q, c.rs.val]) rfl rfl rfl rfl rfl]
 have e2 : [Value.int .i64 c.k, .int .i64 0, .int .i64 0, .int .i64 0] ++ ([.bool c.q, c.rs.val] ++ (Z ++ [.string ⟨#[]⟩, .slice none 0 0])) = [Value.int .i64 c.k, .int .i64 0, .int .i64 0, .int .i64 0, .bool c.q, c.rs.val] ++ (Z ++ [.string ⟨#[]⟩, .slice none 0 0]) := rfl
 rw [e2, fill_step (off := 6) (n := 37) (vs := certL c.ct c.cs) rfl hZ rfl rfl (cert_len h)]
 have e3 : [Value.int .i64 c.k, .int .i64 0, .int .i64 0, .int .i64 0, .bool c.q, c.rs.val] ++ (certL c.ct c.cs ++ [.string ⟨#[]⟩, .slice none 0 0]) = ([Value.int .i64 c.k, .int .i64 0, .int .i64 0, .int .i64 0, .bool c.q, c.rs.val] ++ certL c.ct c.cs) ++ ([.string ⟨#[]⟩] ++ [.slice none 0 0]) := by simp
 rw [e3, fill_step (off := 43) (n := 1) (vs := [.string c.st]) rfl rfl (by rw [List.length_append, cert_len h]; rfl) rfl rfl]
 have e4 : ([Value.int .i64 c.k, .int .i64 0, .int .i64 0, .int .i64 0, .bool c.q, c.rs.val] ++ certL c.ct c.cs) ++ ([.string c.st] ++ [.slice none 0 0]) = (([Value.int .i64 c.k, .int .i64 0, .int .i64 0, .int .i64 0, .bool c.q, c.rs.val] ++ certL c.ct c.cs) ++ [.string c.st]) ++ ([.slice none 0 0] ++ []) := by simp
 rw [e4, fill_step (off := 44) (n := 1) (vs := [c.sg.val]) rfl rfl (by simp [cert_len h]) rfl rfl]
 simp [Rc.cells, h1, h2, h3, Instr.fill]
theorem textS_tl (r : List Int) (e m : Int) : (textS r e m).1.length ≤ r.length := by
 have h1 := numS_len r e 9223372036854775807
 unfold textS
 split
 ·split
  ·exact Nat.zero_le _
  split
  ·exact Nat.zero_le _
  ·show ((numS r e 9223372036854775807).2.1.take _).length ≤ _
   rw [List.length_take]
   omega
 ·exact Nat.zero_le _
theorem krS_tl (s : Xst) : (krS s).1.2.size ≤ s.1.length := by
 have h1 := xnuS_len 5 s
 unfold krS
 split
 ·exact Nat.zero_le _
 split
 ·exact Nat.zero_le _
 split
 ·show (strOf (textS (xnuS 5 s).2.1 (xnuS 5 s).2.2 4194304).1).size ≤ _
  rw [strOf_size]
  exact Nat.le_trans (textS_tl _ _ _) h1
 ·exact Nat.zero_le _
theorem deck_out {w W : World} {A : Nat} {c : Rc} {n : Int} {p : Rp × Int} {qc : List Value} (hq : c.cells = qc) (hA : A = w.heap.size) (hB : Below w.heap.size w W) (hn : n = p.2) (hp : c.pure = p.1) (ho : c.ct.ok) (ha : c.At W) (hb : c.Bk (fun b => w.heap.size < b)) : DecK w p (.returned (.tuple #[.agg qc.toArray, .int .i64 n])) (W.setCells A 0 qc) := by
 subst hq hn hA
 exact ⟨c, rfl, hp, ho, ha.put hb (fun b h => by omega), hb.mono (fun b h => by omega), below_sets (Nat.le_refl _) _ _ _ hB⟩
set_option maxRecDepth 100000 in
set_option maxHeartbeats 2000000 in
theorem kofText_any (k : Int) (sb : ByteArray) (w : World) (hs : sb.size ≤ 40000) : Calls Tryz.prog 38 #[.int .i64 k, .string sb] w fun en w' => DecK w (ofT k (strL sb)) en w' := by
 obtain ⟨zc, hz0, hzl, hz1, hzr, hbn⟩ : ∃ z : List Value, Hid (z = (Rc.zero 0).cells) ∧ z.length = 45 ∧ (∀ v ∈ z, v.oneCell' = true) ∧ (∀ w : World, (zeroValue 33).run Tryz.prog w = .ok (.agg z.toArray) w) ∧ (∀ w : World, (Instr.build 33 #[]).run Tryz.prog w = .ok (.agg z.toArray) w) := ⟨_, hide rfl, Rc.len Vt.zero_ok, Rc.one (Rc.zero 0), zeroRc, build_rn⟩
 obtain ⟨zm, hzml, hzmr⟩ : ∃ z : List Value, z.length = 119 ∧ ∀ w : World, (zeroValue 63).run Tryz.prog w = .ok (.agg z.toArray) w := ⟨_, (Ms.plain_ok 0 0 0 Vt.zero_ok zeros32_len zeros32_byte).len, zeroM⟩
 have cD := fun w0 => decode_any sb hs w0
 have cM := fun w0 => kmk_any k w0
 obtain ⟨PP, hPP⟩ : ∃ P, Hid (ofT k (strL sb) = P) := ⟨_, hide rfl⟩
 rw [hPP.out]
 have HP1 : Hid (PP = if (decS (strL sb)).2 = 0 ∧ (decS (strL sb)).1.k = mkK k then (⟨k, 0, 0, 0, (decS (strL sb)).1.q, (decS (strL sb)).1.rs, (decS (strL sb)).1.ct, (decS (strL sb)).1.cs, (decS (strL sb)).1.st, (decS (strL sb)).1.sg⟩, 0) else (Rp.zero 0, 240)) := hide (by rw [← hPP.out]; rfl)
 clear hPP
 obtain ⟨D, hD⟩ : ∃ D, decS (strL sb) = D := ⟨_, rfl⟩
 rw [hD] at HP1
 simp only [hD] at cD
 clear hD
 obtain ⟨mp, er⟩ := D
 simp only at cD HP1
 obtain ⟨mk, hmk⟩ : ∃ x, mkK k = x := ⟨_, rfl⟩
 rw [hmk] at HP1
 simp only [hmk] at cM
 obtain ⟨hB1, -, hs1⟩ := boxed_new w zc 33
 have ht1 := there_newN w zc.toArray 33 (n := 45) (by simp [hzl])
 obtain ⟨A, hA⟩ : ∃ X, w.heap.size = X := ⟨_, rfl⟩
 have HAw : Hid (A = w.heap.size) := hide hA.symm
 go_enter Tryz.func38, Tryz.ntmps38
 go_upto_region 0 with fail
 try simp only [Act.put]
 refine pl_begin ?_
 refine pl_run (d := some 4) (v := .pointer (some ⟨w.heap.size, 0, none⟩)) (w' := w.alloc (.cells zc.toArray 33)) (by rfl) (ex_alloc rfl (hzr _)) rfl ?_
 simp only [nz]
 refine pl_t 5 (?_) (by rfl) ?_ rfl ?_
 rotate_left
 ·go_simp
  try with_reducible rfl
 simp only [nz]
 refine pl_nil ?_
 obtain ⟨W1, hW1⟩ : ∃ W, w.alloc (.cells zc.toArray 33) = W := ⟨_, rfl⟩
 rw [hW1] at hB1 hs1 ht1 ⊢
 rw [hA] at hs1 ht1
 simp only [hA]
 clear hW1 hzr
 go_upto_region 1 with fail
 try simp only [Act.put]
 refine pl_begin ?_
 refine pl_t 9 (?_) (by rfl) ?_ rfl ?_
 rotate_left
 ·go_simp
  try with_reducible rfl
 simp only [nz]
 refine pl_call (d := some 10) (by rfl) (by go_simp; first | done | exact ⟨rfl, rfl⟩ | with_reducible rfl) rfl ?_
 refine (cD W1).mono ?_
 rintro _ w3 ⟨m, rfl, hp, hmo, hAt, hBk, hb3⟩
 refine ⟨_, rfl, ?_⟩
 simp only [nz]
 have hql := hmo.ms.len
 have hq1 := hmo.ms.one
 have hiq : (Tryz.prog.info? 63).map (·.size) = some m.ms.cells.length := by rw [hql]; exact iszM
 refine pl_t 8 (?_) (by rfl) ?_ rfl ?_
 rotate_left
 ·go_simp
  try with_reducible rfl
 simp only [nz]
 refine pl_t 11 (?_) (by rfl) ?_ rfl ?_
 rotate_left
 ·go_simp
  try with_reducible rfl
 simp only [nz]
 refine pl_t 12 (?_) (by rfl) ?_ rfl ?_
 rotate_left
 ·go_simp
  try with_reducible rfl
 simp only [nz]
 refine pl_run (d := some 6) (v := .pointer (some ⟨w3.heap.size, 0, none⟩)) (w' := w3.alloc (.cells zm.toArray 63)) (by rfl) (ex_alloc rfl (hzmr _)) rfl ?_
 simp only [nz]
 refine pl_store (w' := (w3.alloc (.cells zm.toArray 63)).setCells w3.heap.size 0 m.ms.cells) (by rfl) (ex_put (cs := m.ms.cells.toArray) rfl rfl rfl (there_newN _ _ _ (by simp [hzml, hql])) (by simpa using hiq) (all_one hq1)) rfl ?_
 refine pl_t 7 (?_) (by rfl) ?_ rfl ?_
 rotate_left
 ·go_simp
  try with_reducible rfl
 simp only [nz]
 refine pl_nil ?_
 obtain ⟨r4, hF2, hF3, -⟩ := fresh_store w3 zm.toArray 63 m.ms.cells (by simp [hzml, hql])
 have hT3 := there_below ht1 hb3 hs1
 have hB3 : Below w.heap.size w w3 := hB1.trans (hb3.mono hB1.size)
 have hs3 := Nat.lt_of_lt_of_le hs1 hb3.size
 have hT4 := there_below hT3 hF2 hs3
 have hB4 := hB3.trans (hF2.mono hB3.size)
 have hA4 := hAt.below hF2
 obtain ⟨X, hX⟩ : ∃ X, w3.heap.size = X := ⟨_, rfl⟩
 rw [hX] at r4 hF3 hs3
 simp only [hX]
 obtain ⟨w4, hw4⟩ : ∃ W, (w3.alloc (.cells zm.toArray 63)).setCells X 0 m.ms.cells = W := ⟨_, rfl⟩
 simp only [hX, hw4] at r4 hF3 hT4 hB4 hA4 ⊢
 have hX4 : X < w4.heap.size := by omega
 have HBk : Hid (m.Bk (fun b => A < b)) := hide ⟨hBk.1.mono (fun b hb => by omega), hBk.2.1.mono (fun b hb => by omega), fun y hy => (hBk.2.2.1 y hy).mono (fun b hb => by omega), hBk.2.2.2.1.mono (fun b hb => by omega), hBk.2.2.2.2.1.mono (fun b hb => by omega), hBk.2.2.2.2.2.mono (fun b hb => by omega)⟩
 have HM := hide hp
 clear hp hF2 hF3 hT3 hB3 hs3 hb3 hAt hBk hB1 hs1 ht1 hw4 hX cD hzml hzmr zm hql hq1 hiq hA
 go_upto_region 2 with fail
 refine hs_begin (S := (Below w4.drew.heap.size w4.drew)) 9 rfl (by kernel_rfl) ?_
 have rX8 := (World.rangeAt_drew _ _ _ _).2 r4
 have B8 := hB4.drew
 have sX8 : X < w4.drew.heap.size := hX4
 have tA8 : w4.drew.there A 0 45 := hT4
 have am8 : m.At w4.drew := hA4.below (Below.refl _ _).drew
 obtain ⟨w8, hw8⟩ : ∃ W, w4.drew = W := ⟨_, rfl⟩
 rw [hw8] at rX8 B8 sX8 tA8 am8 ⊢
 clear hw8 r4 hB4 hX4 hT4 hA4
 have hS : (Below w8.heap.size w8) w8 := Below.refl _ _
 have MA := hmo.ms.at rX8
 have k8 : w8.cell? ⟨X, 0, none⟩ = some (.int .i64 m.k) := MA.k
 by_cases he : er = 0
 rotate_left
 ·have heb : (er != 0) = true := by simpa using he
  have HP : Hid (PP = (Rp.zero 0, 240)) := hide (by rw [HP1.out, if_neg (fun h => he h.1)])
  clear HP1 HM HBk MA k8 he cM
  refine hs_t 0 13 (?_) rfl (by kernel_rfl) (by kernel_rfl) (by kernel_rfl) (by rfl) ?_ hS rfl ?_
  rotate_left
  ·intro w' hw
   go_simp
   try with_reducible rfl
  simp only [nz]
  refine hs_t 1 14 (.bool true) rfl (by kernel_rfl) (by kernel_rfl) (by kernel_rfl) (by rfl) (fun w' hw => by go_simp <;> (try simp [*])) hS rfl ?_
  simp only [nz]
  refine hs_t 2 15 (?_) rfl (by kernel_rfl) (by kernel_rfl) (by kernel_rfl) (by rfl) ?_ hS rfl ?_
  rotate_left
  ·intro w' hw
   go_simp
   try with_reducible rfl
  simp only [nz]
  refine hs_skip (i := 3) (d := some 16) rfl (by kernel_rfl) (by kernel_rfl) (by kernel_rfl) (by rfl) hS rfl ?_
  simp only [nz]
  refine hs_skip (i := 4) (d := some 17) rfl (by kernel_rfl) (by kernel_rfl) (by kernel_rfl) (by rfl) hS rfl ?_
  simp only [nz]
  refine hs_skip (i := 5) (d := some 18) rfl (by kernel_rfl) (by kernel_rfl) (by kernel_rfl) (by rfl) hS rfl ?_
  simp only [nz]
  refine hs_skip (i := 6) (d := some 19) rfl (by kernel_rfl) (by kernel_rfl) (by kernel_rfl) (by rfl) hS rfl ?_
  simp only [nz]
  refine hs_skip (i := 7) (d := some 20) rfl (by kernel_rfl) (by kernel_rfl) (by kernel_rfl) (by rfl) hS rfl ?_
  simp only [nz]
  refine hs_t 8 21 (?_) rfl (by kernel_rfl) (by kernel_rfl) (by kernel_rfl) (by rfl) ?_ hS rfl ?_
  rotate_left
  ·intro w' hw
   go_simp
   try with_reducible rfl
  simp only [nz]
  refine hs_done (by kernel_rfl) ?_
  go_upto_region 3 with fail
  try simp only [Act.put]
  refine pl_begin ?_
  refine pl_t 22 (.agg zc.toArray) (by rfl) (ex_build (parts := []) rfl rfl (hbn _)) rfl ?_
  simp only [nz]
  refine pl_store (w' := w8.setCells A 0 zc) (by rfl) (ex_put (cs := zc.toArray) rfl rfl rfl (by simpa [hzl] using tA8) (by simpa [hzl] using iszRc) (all_one hz1)) rfl ?_
  refine pl_t 5 (?_) (by rfl) ?_ rfl ?_
  rotate_left
  ·go_simp
   try with_reducible rfl
  simp only [nz]
  refine pl_nil ?_
  have hrs := run_loadVar_mid (P := Tryz.prog) (w8.setCells A 0 zc) A 0 33 zc _ (World.rangeAt_setCells_same w8 A 0 zc (by rw [hzl]; exact tA8)) Tryz.underlying33 rfl (by rw [hzl]; exact iszRc)
  have HF : Hid (DecK w PP (.returned (.tuple #[.agg zc.toArray, .int .i64 240])) (w8.setCells A 0 zc)) := hide (by
   rw [HP.out]
   exact deck_out (c := Rc.zero 0) hz0.out.symm HAw.out B8 rfl rfl Vt.zero_ok (Rc.zero_at _ _) ⟨nil_bk, nil_bk, nil_bk⟩)
  clear rX8 B8 sX8 tA8 am8 hS
  go_wp2_with fail
  refine bodyPost_ret (results_ct rfl _ _ _ rfl hrs) rfl ?_
  exact HF.out
 subst he
 by_cases hk : m.k = mk
 rotate_left
 ·have HP : Hid (PP = (Rp.zero 0, 240)) := hide (by rw [HP1.out, if_neg (fun h => hk (by rw [← h.2, ← HM.out]; rfl))])
  have hkb : (m.k != mk) = true := by simpa using hk
  clear HP1 HM HBk MA hk
  refine hs_t 0 13 (?_) rfl (by kernel_rfl) (by kernel_rfl) (by kernel_rfl) (by rfl) ?_ hS rfl ?_
  rotate_left
  ·intro w' hw
   go_simp
   try with_reducible rfl
  simp only [nz]
  refine hs_t 1 14 (.bool false) rfl (by kernel_rfl) (by kernel_rfl) (by kernel_rfl) (by rfl) (fun w' hw => by go_simp <;> (try simp [*])) hS rfl ?_
  simp only [nz]
  refine hs_t 2 15 (?_) rfl (by kernel_rfl) (by kernel_rfl) (by kernel_rfl) (by rfl) ?_ hS rfl ?_
  rotate_left
  ·intro w' hw
   go_simp
   try with_reducible rfl
  simp only [nz]
  refine hs_t 3 16 (?_) rfl (by kernel_rfl) (by kernel_rfl) (by kernel_rfl) (by rfl) ?_ hS rfl ?_
  rotate_left
  ·intro w' hw
   go_simp
   try with_reducible rfl
  simp only [nz]
  refine hs_t 4 17 (.int .i64 m.k) rfl (by kernel_rfl) (by kernel_rfl) (by kernel_rfl) (by rfl) (fun w' hw => pl_one rfl rfl ((hw.cell (p := ⟨X, 0, none⟩) sX8).trans k8) Tryz.underlying3 rfl) hS rfl ?_
  simp only [nz]
  refine hs_t 5 18 (?_) rfl (by kernel_rfl) (by kernel_rfl) (by kernel_rfl) (by rfl) ?_ hS rfl ?_
  rotate_left
  ·intro w' hw
   go_simp
   try with_reducible rfl
  simp only [nz]
  refine hs_call (i := 6) (d := some 19) rfl (by kernel_rfl) (by rfl) (by go_simp; first | done | exact ⟨rfl, rfl⟩ | with_reducible rfl) rfl ?_
  refine (cM w8).mono ?_
  rintro _ w9 ⟨rfl, hx⟩
  obtain rfl := hx.symm
  clear hx
  refine ⟨_, rfl, hS, ?_⟩
  simp only [nz]
  refine hs_t 7 20 (.bool true) rfl (by kernel_rfl) (by kernel_rfl) (by kernel_rfl) (by rfl) (fun w' hw => by go_simp <;> (try simp [*])) hS rfl ?_
  simp only [nz]
  refine hs_t 8 21 (?_) rfl (by kernel_rfl) (by kernel_rfl) (by kernel_rfl) (by rfl) ?_ hS rfl ?_
  rotate_left
  ·intro w' hw
   go_simp
   try with_reducible rfl
  simp only [nz]
  refine hs_done (by kernel_rfl) ?_
  go_upto_region 3 with fail
  try simp only [Act.put]
  refine pl_begin ?_
  refine pl_t 22 (.agg zc.toArray) (by rfl) (ex_build (parts := []) rfl rfl (hbn _)) rfl ?_
  simp only [nz]
  refine pl_store (w' := w8.setCells A 0 zc) (by rfl) (ex_put (cs := zc.toArray) rfl rfl rfl (by simpa [hzl] using tA8) (by simpa [hzl] using iszRc) (all_one hz1)) rfl ?_
  refine pl_t 5 (?_) (by rfl) ?_ rfl ?_
  rotate_left
  ·go_simp
   try with_reducible rfl
  simp only [nz]
  refine pl_nil ?_
  have hrs := run_loadVar_mid (P := Tryz.prog) (w8.setCells A 0 zc) A 0 33 zc _ (World.rangeAt_setCells_same w8 A 0 zc (by rw [hzl]; exact tA8)) Tryz.underlying33 rfl (by rw [hzl]; exact iszRc)
  have HF : Hid (DecK w PP (.returned (.tuple #[.agg zc.toArray, .int .i64 240])) (w8.setCells A 0 zc)) := hide (by
   rw [HP.out]
   exact deck_out (c := Rc.zero 0) hz0.out.symm HAw.out B8 rfl rfl Vt.zero_ok (Rc.zero_at _ _) ⟨nil_bk, nil_bk, nil_bk⟩)
  clear rX8 B8 sX8 tA8 am8 hS
  go_wp2_with fail
  refine bodyPost_ret (results_ct rfl _ _ _ rfl hrs) rfl ?_
  exact HF.out
 ·have HP : Hid (PP = (⟨k, 0, 0, 0, m.q, m.rs.xs, m.ct, m.cs.xs, m.st, m.sg.xs⟩, 0)) := hide (by rw [HP1.out, if_pos ⟨rfl, by rw [← hk, ← HM.out]; rfl⟩, ← HM.out]; rfl)
  have hkb : (m.k != mk) = false := by simpa using hk
  have rB := ms_bat MA
  have rC : w8.rangeAt X 80 (certL m.ct m.cs) := MA.ct
  have rT : w8.cell? ⟨X, 117, none⟩ = some (.string m.st) := MA.st
  have rG : w8.cell? ⟨X, 118, none⟩ = some m.sg.val := MA.sg
  have hic : (Tryz.prog.info? 31).map (·.size) = some (certL m.ct m.cs).length := by rw [cert_len hmo.ct]; exact iszCe
  obtain ⟨C, hC⟩ : ∃ C : Rc, C = ⟨k, 0, 0, 0, m.q, m.rs, m.ct, m.cs, m.st, m.sg⟩ := ⟨_, rfl⟩
  have hco : C.ct.ok := by rw [hC]; exact hmo.ct
  have hbt := build_rt C hco (by rw [hC]) (by rw [hC]) (by rw [hC])
  have hql : C.cells.length = 45 := Rc.len hco
  have hq1 := Rc.one C
  have HCC : Hid (C.pure = ⟨k, 0, 0, 0, m.q, m.rs.xs, m.ct, m.cs.xs, m.st, m.sg.xs⟩ ∧ C.At w8 ∧ C.Bk (fun b => A < b)) := hide (by rw [hC]; exact ⟨rfl, ⟨am8.rs, am8.cs, am8.sg⟩, ⟨HBk.out.1, HBk.out.2.2.2.2.1, HBk.out.2.2.2.2.2⟩⟩)
  simp only [show C.k = k by rw [hC], show C.q = m.q by rw [hC], show C.rs = m.rs by rw [hC], show C.ct = m.ct by rw [hC], show C.cs = m.cs by rw [hC], show C.st = m.st by rw [hC], show C.sg = m.sg by rw [hC]] at hbt
  obtain ⟨qc, hqc⟩ : ∃ q, Hid (C.cells = q) := ⟨_, hide rfl⟩
  simp only [hqc.out] at hbt hql hq1
  clear HP1 HM MA hk HBk hC
  refine hs_t 0 13 (?_) rfl (by kernel_rfl) (by kernel_rfl) (by kernel_rfl) (by rfl) ?_ hS rfl ?_
  rotate_left
  ·intro w' hw
   go_simp
   try with_reducible rfl
  simp only [nz]
  refine hs_t 1 14 (.bool false) rfl (by kernel_rfl) (by kernel_rfl) (by kernel_rfl) (by rfl) (fun w' hw => by go_simp <;> (try simp [*])) hS rfl ?_
  simp only [nz]
  refine hs_t 2 15 (?_) rfl (by kernel_rfl) (by kernel_rfl) (by kernel_rfl) (by rfl) ?_ hS rfl ?_
  rotate_left
  ·intro w' hw
   go_simp
   try with_reducible rfl
  simp only [nz]
  refine hs_t 3 16 (?_) rfl (by kernel_rfl) (by kernel_rfl) (by kernel_rfl) (by rfl) ?_ hS rfl ?_
  rotate_left
  ·intro w' hw
   go_simp
   try with_reducible rfl
  simp only [nz]
  refine hs_t 4 17 (.int .i64 m.k) rfl (by kernel_rfl) (by kernel_rfl) (by kernel_rfl) (by rfl) (fun w' hw => pl_one rfl rfl ((hw.cell (p := ⟨X, 0, none⟩) sX8).trans k8) Tryz.underlying3 rfl) hS rfl ?_
  simp only [nz]
  refine hs_t 5 18 (?_) rfl (by kernel_rfl) (by kernel_rfl) (by kernel_rfl) (by rfl) ?_ hS rfl ?_
  rotate_left
  ·intro w' hw
   go_simp
   try with_reducible rfl
  simp only [nz]
  refine hs_call (i := 6) (d := some 19) rfl (by kernel_rfl) (by rfl) (by go_simp; first | done | exact ⟨rfl, rfl⟩ | with_reducible rfl) rfl ?_
  refine (cM w8).mono ?_
  rintro _ w9 ⟨rfl, hx⟩
  obtain rfl := hx.symm
  clear hx
  refine ⟨_, rfl, hS, ?_⟩
  simp only [nz]
  refine hs_t 7 20 (.bool false) rfl (by kernel_rfl) (by kernel_rfl) (by kernel_rfl) (by rfl) (fun w' hw => by go_simp <;> (try simp [*])) hS rfl ?_
  simp only [nz]
  refine hs_t 8 21 (?_) rfl (by kernel_rfl) (by kernel_rfl) (by kernel_rfl) (by rfl) ?_ hS rfl ?_
  rotate_left
  ·intro w' hw
   go_simp
   try with_reducible rfl
  simp only [nz]
  refine hs_done (by kernel_rfl) ?_
  clear k8
  go_upto_region 4 with fail
  try simp only [Act.put]
  refine pl_begin ?_
  refine pl_t 23 (?_) (by rfl) ?_ rfl ?_
  rotate_left
  ·go_simp
   try with_reducible rfl
  simp only [nz]
  refine pl_t 24 (?_) (by rfl) ?_ rfl ?_
  rotate_left
  ·go_simp
   try with_reducible rfl
  simp only [nz]
  refine pl_t 25 (.agg #[.bool m.q, m.rs.val]) (by rfl) (ex_mid rfl rfl rB Tryz.underlying24 rfl iszBa) rfl ?_
  simp only [nz]
  refine pl_t 26 (?_) (by rfl) ?_ rfl ?_
  rotate_left
  ·go_simp
   try with_reducible rfl
  simp only [nz]
  refine pl_t 27 (.agg (certL m.ct m.cs).toArray) (by rfl) (ex_mid rfl rfl rC Tryz.underlying31 rfl hic) rfl ?_
  simp only [nz]
  refine pl_t 28 (?_) (by rfl) ?_ rfl ?_
  rotate_left
  ·go_simp
   try with_reducible rfl
  simp only [nz]
  refine pl_t 29 (.string m.st) (by rfl) (pl_one rfl rfl rT Tryz.underlying9 rfl) rfl ?_
  simp only [nz]
  refine pl_t 30 (?_) (by rfl) ?_ rfl ?_
  rotate_left
  ·go_simp
   try with_reducible rfl
  simp only [nz]
  refine pl_t 31 (m.sg.val) (by rfl) (pl_one rfl rfl rG Tryz.underlying29 rfl) rfl ?_
  simp only [nz]
  refine pl_t 32 (.agg qc.toArray) (by rfl) (ex_build (parts := [(0, .tmp 23), (4, .tmp 25), (5, .tmp 27), (6, .tmp 29), (7, .tmp 31)]) rfl rfl (hbt _)) rfl ?_
  simp only [nz]
  refine pl_store (w' := w8.setCells A 0 qc) (by rfl) (ex_put (cs := qc.toArray) rfl rfl rfl (by simpa [hql] using tA8) (by simpa [hql] using iszRc) (all_one hq1)) rfl ?_
  refine pl_t 5 (?_) (by rfl) ?_ rfl ?_
  rotate_left
  ·go_simp
   try with_reducible rfl
  simp only [nz]
  refine pl_nil ?_
  have hrs := run_loadVar_mid (P := Tryz.prog) (w8.setCells A 0 qc) A 0 33 qc _ (World.rangeAt_setCells_same w8 A 0 qc (by rw [hql]; exact tA8)) Tryz.underlying33 rfl (by rw [hql]; exact iszRc)
  have HF : Hid (DecK w PP (.returned (.tuple #[.agg qc.toArray, .int .i64 0])) (w8.setCells A 0 qc)) := hide (by
   rw [HP.out]
   exact deck_out (c := C) hqc.out HAw.out B8 rfl HCC.out.1 hco HCC.out.2.1 (by rw [← HAw.out]; exact HCC.out.2.2))
  clear rX8 B8 sX8 tA8 am8 hS rB rC rT rG hbt
  go_wp2_with fail
  refine bodyPost_ret (results_ct rfl _ _ _ rfl hrs) rfl ?_
  exact HF.out
set_option maxRecDepth 100000 in
set_option maxHeartbeats 2000000 in
theorem kdecode_any (a : Option Addr) (cap : Nat) (zs : List Int) (w : World) (h : RowAt w a zs) (hl : zs.length ≤ 40000) : Calls Tryz.prog 15 #[.slice a zs.length cap] w fun en w' => DecK w (kdec zs) en w' := by
 obtain ⟨zc, hz0, hzl, hz1, hzr, hbn⟩ : ∃ z : List Value, Hid (z = (Rc.zero 0).cells) ∧ z.length = 45 ∧ (∀ v ∈ z, v.oneCell' = true) ∧ (∀ w : World, (zeroValue 33).run Tryz.prog w = .ok (.agg z.toArray) w) ∧ (∀ w : World, (Instr.build 33 #[]).run Tryz.prog w = .ok (.agg z.toArray) w) := ⟨_, hide rfl, Rc.len Vt.zero_ok, Rc.one (Rc.zero 0), zeroRc, build_rn⟩
 have cR := fun w0 h0 => read_any a cap zs w0 h0 (by omega)
 have cK := fun R w0 h0 => kread_any R (zs, 0) w0 h0 hl
 have htl := krS_tl (zs, 0)
 unfold kdec
 generalize krS (zs, 0) = p at cK htl ⊢
 obtain ⟨⟨rp, tx⟩, rest, er⟩ := p
 simp only at cK htl ⊢
 have htl2 : tx.size ≤ 40000 := Nat.le_trans htl hl
 have cD := fun R w0 h0 => done_any R rest er w0 h0
 obtain ⟨d, hd⟩ : ∃ d, doneE rest er = d := ⟨_, rfl⟩
 rw [hd]
 simp only [hd] at cD
 clear hd
 have cO := fun w0 => kofText_any rp.k tx w0 htl2
 obtain ⟨oT, hoT⟩ : ∃ o, ofT rp.k (strL tx) = o := ⟨_, rfl⟩
 rw [hoT]
 simp only [hoT] at cO
 obtain ⟨PP, hPP⟩ : ∃ P, Hid ((if d ≠ 0 then (Rp.zero 0, d) else if rp.k = 1 ∨ rp.k = 3 then (rp, 0) else oT) = P) := ⟨_, hide rfl⟩
 rw [hPP.out]
 obtain ⟨hB1, -, hs1⟩ := boxed_new w zc 33
 have ht1 := there_newN w zc.toArray 33 (n := 45) (by simp [hzl])
 have h1 := h.below hB1
 obtain ⟨A, hA⟩ : ∃ X, w.heap.size = X := ⟨_, rfl⟩
 have HAw : Hid (A = w.heap.size) := hide hA.symm
 clear h hoT htl htl2
 go_enter Tryz.func15, Tryz.ntmps15
 go_upto_region 0 with fail
 try simp only [Act.put]
 refine pl_begin ?_
 refine pl_run (d := some 2) (v := .pointer (some ⟨w.heap.size, 0, none⟩)) (w' := w.alloc (.cells zc.toArray 33)) (by rfl) (ex_alloc rfl (hzr _)) rfl ?_
 simp only [nz]
 refine pl_t 3 (?_) (by rfl) ?_ rfl ?_
 rotate_left
 ·go_simp
  try with_reducible rfl
 simp only [nz]
 refine pl_nil ?_
 obtain ⟨W1, hW1⟩ : ∃ W, w.alloc (.cells zc.toArray 33) = W := ⟨_, rfl⟩
 rw [hW1] at hB1 hs1 ht1 h1 ⊢
 rw [hA] at hs1 ht1
 simp only [hA]
 clear hW1
 go_upto_region 1 with fail
 try simp only [Act.put]
 refine pl_begin ?_
 refine pl_t 8 (?_) (by rfl) ?_ rfl ?_
 rotate_left
 ·go_simp
  try with_reducible rfl
 simp only [nz]
 refine pl_call (d := some 9) (by rfl) (by go_simp; first | done | exact ⟨rfl, rfl⟩ | with_reducible rfl) rfl ?_
 refine (cR W1 h1).mono ?_
 rintro _ w2 ⟨R, rfl, hRw, S2, hb2⟩
 refine ⟨_, rfl, ?_⟩
 simp only [nz]
 refine pl_t 4 (?_) (by rfl) ?_ rfl ?_
 rotate_left
 ·go_simp
  try with_reducible rfl
 simp only [nz]
 refine pl_nil ?_
 have hT2 := there_below ht1 hb2 hs1
 have hB2 : Below w.heap.size w w2 := hB1.trans (hb2.mono hB1.size)
 have hs2 := Nat.lt_of_lt_of_le hs1 hb2.size
 have hRA : A < R := by omega
 have hR2 : R < w2.heap.size := S2.1.1
 clear h1 cR
 go_upto_region 2 with fail
 try simp only [Act.put]
 refine pl_begin ?_
 refine pl_t 11 (?_) (by rfl) ?_ rfl ?_
 rotate_left
 ·go_simp
  try with_reducible rfl
 simp only [nz]
 refine pl_call (d := some 12) (by rfl) (by go_simp; first | done | exact ⟨rfl, rfl⟩ | with_reducible rfl) rfl ?_
 refine (cK R w2 S2).mono ?_
 rintro _ w3 ⟨c, rfl, hcp, hco, hca, hcs, hcg, hcb, S3, hg3⟩
 refine ⟨_, rfl, ?_⟩
 simp only [nz]
 have hql : c.cells.length = 45 := Rc.len hco
 have hq1 := Rc.one c
 have hiq : (Tryz.prog.info? 33).map (·.size) = some c.cells.length := by rw [hql]; exact iszRc
 refine pl_t 10 (?_) (by rfl) ?_ rfl ?_
 rotate_left
 ·go_simp
  try with_reducible rfl
 simp only [nz]
 refine pl_t 13 (?_) (by rfl) ?_ rfl ?_
 rotate_left
 ·go_simp
  try with_reducible rfl
 simp only [nz]
 refine pl_t 14 (?_) (by rfl) ?_ rfl ?_
 rotate_left
 ·go_simp
  try with_reducible rfl
 simp only [nz]
 refine pl_run (d := some 5) (v := .pointer (some ⟨w3.heap.size, 0, none⟩)) (w' := w3.alloc (.cells zc.toArray 33)) (by rfl) (ex_alloc rfl (hzr _)) rfl ?_
 simp only [nz]
 refine pl_store (w' := (w3.alloc (.cells zc.toArray 33)).setCells w3.heap.size 0 c.cells) (by rfl) (ex_put (cs := c.cells.toArray) rfl rfl rfl (there_newN _ _ _ (by simp [hzl, hql])) (by simpa using hiq) (all_one hq1)) rfl ?_
 refine pl_t 6 (?_) (by rfl) ?_ rfl ?_
 rotate_left
 ·go_simp
  try with_reducible rfl
 simp only [nz]
 refine pl_nil ?_
 obtain ⟨r4, hF2, hF3, -⟩ := fresh_store w3 zc.toArray 33 c.cells (by simp [hzl, hql])
 have hne : (some A : Option Nat) ≠ some R := by intro q; injection q with q; omega
 have hT3 := there_blk hT2 (hg3.block A hs2 hne)
 have hB3 : Below w.heap.size w w3 := ⟨hg3.os.trans hB2.os, hg3.tape.trans hB2.tape, hg3.output.trans hB2.output, Nat.le_trans hB2.size hg3.size, fun i hi => (hg3.block i (Nat.lt_of_lt_of_le hi hB2.size) (by intro q; injection q with q; omega)).trans (hB2.block i hi)⟩
 have hs3 : A < w3.heap.size := Nat.lt_of_lt_of_le hs2 hg3.size
 have hT4 := there_below hT3 hF2 hs3
 have hB4 := hB3.trans (hF2.mono hB3.size)
 have S4 := S3.below hF2
 have HCC : Hid (c.pure = rp ∧ c.At w3 ∧ c.Bk (fun b => A < b)) := hide ⟨hcp, ⟨hca, by rw [hcs]; exact RowsAt.none, by rw [hcg]; exact RowsAt.none⟩, ⟨hcb.mono (fun b hb => by omega), by rw [hcs]; exact nil_bk, by rw [hcg]; exact nil_bk⟩⟩
 replace HCC : Hid (c.pure = rp ∧ c.At ((w3.alloc (.cells zc.toArray 33)).setCells w3.heap.size 0 c.cells) ∧ c.Bk (fun b => A < b)) := hide ⟨HCC.out.1, ⟨HCC.out.2.1.rs.below hF2, HCC.out.2.1.cs.below hF2, HCC.out.2.1.sg.below hF2⟩, HCC.out.2.2⟩
 obtain ⟨X, hX⟩ : ∃ X, w3.heap.size = X := ⟨_, rfl⟩
 simp only [hX] at r4 hF3 hs3 hT4 hB4 S4 HCC ⊢
 obtain ⟨w4, hw4⟩ : ∃ W, (w3.alloc (.cells zc.toArray 33)).setCells X 0 c.cells = W := ⟨_, rfl⟩
 simp only [hw4] at r4 hF3 hT4 hB4 S4 HCC ⊢
 have hX4 : X < w4.heap.size := by omega
 have hck : c.k = rp.k := congrArg Rp.k HCC.out.1
 clear hF2 hF3 hT3 hB3 hB2 hb2 hcp hca hcs hcg hcb S3 hg3 hw4 hX hne hT2 S2 hB1 hs1 ht1 hs2 hRw cK hzr
 go_upto_region 3 with fail
 try simp only [Act.put]
 refine pl_begin ?_
 refine pl_t 15 (?_) (by rfl) ?_ rfl ?_
 rotate_left
 ·go_simp
  try with_reducible rfl
 simp only [nz]
 refine pl_call (d := some 16) (by rfl) (by go_simp; first | done | exact ⟨rfl, rfl⟩ | with_reducible rfl) rfl ?_
 refine (cD R w4 S4).mono ?_
 rintro _ w5 ⟨rfl, hx⟩
 obtain rfl := hx.symm
 clear hx
 refine ⟨_, rfl, ?_⟩
 simp only [nz]
 refine pl_t 7 (?_) (by rfl) ?_ rfl ?_
 rotate_left
 ·go_simp
  try with_reducible rfl
 simp only [nz]
 refine pl_nil ?_
 clear cD S4
 go_upto_region 4 with fail
 by_cases hd : d = 0
 rotate_left
 ·have hdb : (d != 0) = true := by simpa using hd
  have HP : Hid (PP = (Rp.zero 0, d)) := hide (by rw [← hPP.out, if_pos hd])
  clear hPP hd cO
  try simp only [Act.put]
  refine pl_begin ?_
  refine pl_t 17 (?_) (by rfl) ?_ rfl ?_
  rotate_left
  ·go_simp
   try with_reducible rfl
  simp only [nz]
  refine pl_t 18 (.bool true) (by rfl) (by go_simp <;> (try simp [*])) rfl ?_
  simp only [nz]
  refine pl_nil ?_
  go_upto_region 5 with fail
  try simp only [Act.put]
  refine pl_begin ?_
  refine pl_t 19 (.agg zc.toArray) (by rfl) (ex_build (parts := []) rfl rfl (hbn _)) rfl ?_
  simp only [nz]
  refine pl_t 20 (?_) (by rfl) ?_ rfl ?_
  rotate_left
  ·go_simp
   try with_reducible rfl
  simp only [nz]
  refine pl_store (w' := w4.setCells A 0 zc) (by rfl) (ex_put (cs := zc.toArray) rfl rfl rfl (by simpa [hzl] using hT4) (by simpa [hzl] using iszRc) (all_one hz1)) rfl ?_
  refine pl_t 3 (?_) (by rfl) ?_ rfl ?_
  rotate_left
  ·go_simp
   try with_reducible rfl
  simp only [nz]
  refine pl_nil ?_
  have hrs := run_loadVar_mid (P := Tryz.prog) (w4.setCells A 0 zc) A 0 33 zc _ (World.rangeAt_setCells_same w4 A 0 zc (by rw [hzl]; exact hT4)) Tryz.underlying33 rfl (by rw [hzl]; exact iszRc)
  have HF : Hid (DecK w PP (.returned (.tuple #[.agg zc.toArray, .int .i64 d])) (w4.setCells A 0 zc)) := hide (by
   rw [HP.out]
   exact deck_out (c := Rc.zero 0) hz0.out.symm HAw.out hB4 rfl rfl Vt.zero_ok (Rc.zero_at _ _) ⟨nil_bk, nil_bk, nil_bk⟩)
  clear r4 hB4 hT4 hX4 HCC
  go_wp2_with fail
  refine bodyPost_ret (results_ct rfl _ _ _ rfl hrs) rfl ?_
  exact HF.out
 subst hd
 try simp only [Act.put]
 refine pl_begin ?_
 refine pl_t 17 (?_) (by rfl) ?_ rfl ?_
 rotate_left
 ·go_simp
  try with_reducible rfl
 simp only [nz]
 refine pl_t 18 (.bool false) (by rfl) (by go_simp) rfl ?_
 simp only [nz]
 refine pl_nil ?_
 have k4 : w4.cell? ⟨X, 0, none⟩ = some (.int .i64 rp.k) := by rw [← hck]; exact r4 0 _ rfl
 go_upto_region 6 with fail
 try simp only [Act.put]
 refine pl_begin ?_
 refine pl_t 21 (?_) (by rfl) ?_ rfl ?_
 rotate_left
 ·go_simp
  try with_reducible rfl
 simp only [nz]
 refine pl_t 22 (.int .i64 rp.k) (by rfl) (pl_one rfl rfl k4 Tryz.underlying3 rfl) rfl ?_
 simp only [nz]
 refine pl_nil ?_
 by_cases hk1 : rp.k = 1
 ·have HP : Hid (PP = (rp, 0)) := hide (by rw [← hPP.out, if_neg (by decide), if_pos (.inl hk1)])
  clear hPP cO
  go_upto_region 7 with fail
  try simp only [Act.put]
  refine pl_begin ?_
  refine pl_t 24 (.bool true) (by rfl) (by go_simp <;> (try simp [*])) rfl ?_
  simp only [nz]
  refine pl_t 23 (?_) (by rfl) ?_ rfl ?_
  rotate_left
  ·go_simp
   try with_reducible rfl
  simp only [nz]
  refine pl_nil ?_
  have hql2 := hql
  obtain ⟨qc, hqc⟩ : ∃ q, Hid (c.cells = q) := ⟨_, hide rfl⟩
  simp only [hqc.out] at hql hq1 hiq r4
  go_upto_region 9 with fail
  try simp only [Act.put]
  refine pl_begin ?_
  refine pl_t 26 (.agg qc.toArray) (by rfl) (ex_mid rfl rfl r4 Tryz.underlying33 rfl hiq) rfl ?_
  simp only [nz]
  refine pl_store (w' := w4.setCells A 0 qc) (by rfl) (ex_put (cs := qc.toArray) rfl rfl rfl (by simpa [hql] using hT4) (by simpa using hiq) (all_one hq1)) rfl ?_
  refine pl_t 3 (?_) (by rfl) ?_ rfl ?_
  rotate_left
  ·go_simp
   try with_reducible rfl
  simp only [nz]
  refine pl_nil ?_
  have hrs := run_loadVar_mid (P := Tryz.prog) (w4.setCells A 0 qc) A 0 33 qc _ (World.rangeAt_setCells_same w4 A 0 qc (by rw [hql]; exact hT4)) Tryz.underlying33 rfl (by rw [hql]; exact iszRc)
  have HF : Hid (DecK w PP (.returned (.tuple #[.agg qc.toArray, .int .i64 0])) (w4.setCells A 0 qc)) := hide (by
   rw [HP.out]
   exact deck_out (c := c) hqc.out HAw.out hB4 rfl HCC.out.1 hco HCC.out.2.1 (by rw [← HAw.out]; exact HCC.out.2.2))
  clear r4 hB4 hT4 hX4 HCC k4
  go_wp2_with fail
  refine bodyPost_ret (results_ct rfl _ _ _ rfl hrs) rfl ?_
  exact HF.out
 have n1 : (rp.k == 1) = false := by simpa using hk1
 go_upto_region 7 with fail
 try simp only [Act.put]
 refine pl_begin ?_
 refine pl_t 24 (.bool false) (by rfl) (by go_simp <;> (try simp [*])) rfl ?_
 simp only [nz]
 refine pl_t 23 (?_) (by rfl) ?_ rfl ?_
 rotate_left
 ·go_simp
  try with_reducible rfl
 simp only [nz]
 refine pl_nil ?_
 by_cases hk3 : rp.k = 3
 ·have HP : Hid (PP = (rp, 0)) := hide (by rw [← hPP.out, if_neg (by decide), if_pos (.inr hk3)])
  clear hPP cO hk1
  go_upto_region 8 with fail
  try simp only [Act.put]
  refine pl_begin ?_
  refine pl_t 25 (.bool true) (by rfl) (by go_simp <;> (try simp [*])) rfl ?_
  simp only [nz]
  refine pl_t 23 (?_) (by rfl) ?_ rfl ?_
  rotate_left
  ·go_simp
   try with_reducible rfl
  simp only [nz]
  refine pl_nil ?_
  have hql2 := hql
  obtain ⟨qc, hqc⟩ : ∃ q, Hid (c.cells = q) := ⟨_, hide rfl⟩
  simp only [hqc.out] at hql hq1 hiq r4
  go_upto_region 9 with fail
  try simp only [Act.put]
  refine pl_begin ?_
  refine pl_t 26 (.agg qc.toArray) (by rfl) (ex_mid rfl rfl r4 Tryz.underlying33 rfl hiq) rfl ?_
  simp only [nz]
  refine pl_store (w' := w4.setCells A 0 qc) (by rfl) (ex_put (cs := qc.toArray) rfl rfl rfl (by simpa [hql] using hT4) (by simpa using hiq) (all_one hq1)) rfl ?_
  refine pl_t 3 (?_) (by rfl) ?_ rfl ?_
  rotate_left
  ·go_simp
   try with_reducible rfl
  simp only [nz]
  refine pl_nil ?_
  have hrs := run_loadVar_mid (P := Tryz.prog) (w4.setCells A 0 qc) A 0 33 qc _ (World.rangeAt_setCells_same w4 A 0 qc (by rw [hql]; exact hT4)) Tryz.underlying33 rfl (by rw [hql]; exact iszRc)
  have HF : Hid (DecK w PP (.returned (.tuple #[.agg qc.toArray, .int .i64 0])) (w4.setCells A 0 qc)) := hide (by
   rw [HP.out]
   exact deck_out (c := c) hqc.out HAw.out hB4 rfl HCC.out.1 hco HCC.out.2.1 (by rw [← HAw.out]; exact HCC.out.2.2))
  clear r4 hB4 hT4 hX4 HCC k4
  go_wp2_with fail
  refine bodyPost_ret (results_ct rfl _ _ _ rfl hrs) rfl ?_
  exact HF.out
 have n3 : (rp.k == 3) = false := by simpa using hk3
 have HP : Hid (PP = oT) := hide (by rw [← hPP.out, if_neg (by decide), if_neg (by omega)])
 clear hPP hk1 hk3
 go_upto_region 8 with fail
 try simp only [Act.put]
 refine pl_begin ?_
 refine pl_t 25 (.bool false) (by rfl) (by go_simp <;> (try simp [*])) rfl ?_
 simp only [nz]
 refine pl_t 23 (?_) (by rfl) ?_ rfl ?_
 rotate_left
 ·go_simp
  try with_reducible rfl
 simp only [nz]
 refine pl_nil ?_
 go_upto_region 10 with fail
 try simp only [Act.put]
 refine pl_begin ?_
 refine pl_t 27 (?_) (by rfl) ?_ rfl ?_
 rotate_left
 ·go_simp
  try with_reducible rfl
 simp only [nz]
 refine pl_t 28 (.int .i64 rp.k) (by rfl) (pl_one rfl rfl k4 Tryz.underlying3 rfl) rfl ?_
 simp only [nz]
 refine pl_t 29 (?_) (by rfl) ?_ rfl ?_
 rotate_left
 ·go_simp
  try with_reducible rfl
 simp only [nz]
 refine pl_call (d := some 30) (by rfl) (by go_simp; first | done | exact ⟨rfl, rfl⟩ | with_reducible rfl) rfl ?_
 refine (cO w4).mono ?_
 rintro _ w5 ⟨g, rfl, hgp, hgo, hga, hgb, hb5⟩
 refine ⟨_, rfl, ?_⟩
 simp only [nz]
 have hgl : g.cells.length = 45 := Rc.len hgo
 have hg1 := Rc.one g
 have hgi : (Tryz.prog.info? 33).map (·.size) = some g.cells.length := by rw [hgl]; exact iszRc
 obtain ⟨qg, hqg⟩ : ∃ q, Hid (g.cells = q) := ⟨_, hide rfl⟩
 simp only [hqg.out] at hgl hg1 hgi ⊢
 have hT5 := there_below hT4 hb5 (by omega)
 refine pl_t 31 (?_) (by rfl) ?_ rfl ?_
 rotate_left
 ·go_simp
  try with_reducible rfl
 simp only [nz]
 refine pl_t 32 (?_) (by rfl) ?_ rfl ?_
 rotate_left
 ·go_simp
  try with_reducible rfl
 simp only [nz]
 refine pl_store (w' := w5.setCells A 0 qg) (by rfl) (ex_put (cs := qg.toArray) rfl rfl rfl (by simpa [hgl] using hT5) (by simpa using hgi) (all_one hg1)) rfl ?_
 refine pl_t 3 (?_) (by rfl) ?_ rfl ?_
 rotate_left
 ·go_simp
  try with_reducible rfl
 simp only [nz]
 refine pl_nil ?_
 have hrs := run_loadVar_mid (P := Tryz.prog) (w5.setCells A 0 qg) A 0 33 qg _ (World.rangeAt_setCells_same w5 A 0 qg (by rw [hgl]; exact hT5)) Tryz.underlying33 rfl (by rw [hgl]; exact iszRc)
 have hB5 := hB4.trans (hb5.mono hB4.size)
 have HF : Hid (DecK w PP (.returned (.tuple #[.agg qg.toArray, .int .i64 oT.2])) (w5.setCells A 0 qg)) := hide (by
  rw [HP.out]
  exact deck_out (c := g) hqg.out HAw.out hB5 rfl hgp hgo hga (hgb.mono (fun b hb => by have := HAw.out; omega)))
 clear r4 hB4 hT4 HCC k4 hB5 hb5 hT5 hga hgb
 go_wp2_with fail
 refine bodyPost_ret (results_ct rfl _ _ _ rfl hrs) rfl ?_
 exact HF.out
structure KX (D : Nat) (w : World) (R X : Nat) (c : Rc) (s : Xst) (W : World) : Prop where
  own : W.rangeAt X 0 c.cells
  thX : W.there X 0 45
  st : XR W D R s
  gb : w.grownBy W (some R)
  lx : X < W.heap.size
  xw : w.heap.size ≤ X
  rx : R < w.heap.size
  ok : c.ct.ok
theorem KX.on {w W W' : World} {D R X : Nat} {c : Rc} {s : Xst} (h : KX D w R X c s W) (s' : Xst) (hs : XR W' D R s') (hg : W.grownBy W' (some R)) : KX D w R X c s' W' := by
 have h1 := h.xw
 have h2 := h.rx
 have hb := hg.block X h.lx (by intro q; injection q with q; omega)
 exact ⟨range_blk h.own hb, there_blk h.thX hb, hs, gb_trans h.gb hg, Nat.lt_of_lt_of_le h.lx hg.size, h1, h2, h.ok⟩
theorem KX.put {w W : World} {D R X : Nat} {c c' : Rc} {s : Xst} (h : KX D w R X c s W) (hc : c'.ct.ok) (pre mid vs post : List Value) (e1 : c.cells = pre ++ (mid ++ post)) (e2 : c'.cells = pre ++ (vs ++ post)) (o : Nat) (ho : pre.length = o) (hl : vs.length = mid.length) (hn : o + vs.length ≤ 45) : KX D w R X c' s (W.setCells X o vs) := by
 have h1 := h.xw
 have h2 := h.rx
 have hb : Below w.heap.size W (W.setCells X o vs) := below_sets h1 vs o _ (Below.refl _ _)
 exact ⟨by rw [e2]; exact range_put (by rw [← e1]; exact h.own) o ho (there_part1 h.thX hn) hl, World.there_setCells h.thX X o vs, h.st.low hb h2, ⟨hb.os.trans h.gb.os, hb.tape.trans h.gb.tape, hb.output.trans h.gb.output, Nat.le_trans h.gb.size hb.size, fun i hi hne => (hb.block i hi).trans (h.gb.block i hi hne)⟩, by rw [size_sets]; exact h.lx, h1, h2, hc⟩
theorem KX.k {w W : World} {D R X : Nat} {c : Rc} {s : Xst} (h : KX D w R X c s W) (x : Int) : KX D w R X { c with k := x } s (W.setCells X 0 [.int .i64 x]) :=
 h.put (c' := { c with k := x }) h.ok [] [.int .i64 c.k] [.int .i64 x] _ rfl rfl 0 rfl rfl (by simp)
theorem KX.l {w W : World} {D R X : Nat} {c : Rc} {s : Xst} (h : KX D w R X c s W) (x : Int) : KX D w R X { c with l := x } s (W.setCells X 1 [.int .i64 x]) :=
 h.put (c' := { c with l := x }) h.ok [.int .i64 c.k] [.int .i64 c.l] [.int .i64 x] _ rfl rfl 1 rfl rfl (by simp)
theorem KX.v {w W : World} {D R X : Nat} {c : Rc} {s : Xst} (h : KX D w R X c s W) (x : Int) : KX D w R X { c with v := x } s (W.setCells X 2 [.int .i64 x]) :=
 h.put (c' := { c with v := x }) h.ok [.int .i64 c.k, .int .i64 c.l] [.int .i64 c.v] [.int .i64 x] _ rfl rfl 2 rfl rfl (by simp)
theorem KX.s {w W : World} {D R X : Nat} {c : Rc} {s : Xst} (h : KX D w R X c s W) (x : Int) : KX D w R X { c with s := x } s (W.setCells X 3 [.int .i64 x]) :=
 h.put (c' := { c with s := x }) h.ok [.int .i64 c.k, .int .i64 c.l, .int .i64 c.v] [.int .i64 c.s] [.int .i64 x] _ rfl rfl 3 rfl rfl (by simp)
theorem KX.b {w W : World} {D R X : Nat} {c : Rc} {s : Xst} (h : KX D w R X c s W) (q : Bool) (x : Sl Rq) : KX D w R X { c with q := q, rs := x } s (W.setCells X 4 [.bool q, x.val]) :=
 h.put (c' := { c with q := q, rs := x }) h.ok [.int .i64 c.k, .int .i64 c.l, .int .i64 c.v, .int .i64 c.s] [.bool c.q, c.rs.val] [.bool q, x.val] _ rfl rfl 4 rfl rfl (by simp)
theorem KX.c {D : Nat} {w W : World} {R X : Nat} {c : Rc} {s : Xst} (h : KX D w R X c s W) (y : Vt) (hy : y.ok) (x : Sl Sg) : KX D w R X { c with ct := y, cs := x } s (W.setCells X 6 (certL y x)) :=
 h.put (c' := { c with ct := y, cs := x }) hy [.int .i64 c.k, .int .i64 c.l, .int .i64 c.v, .int .i64 c.s, .bool c.q, c.rs.val] (certL c.ct c.cs) (certL y x) _ rfl rfl 6 rfl (by rw [cert_len h.ok, cert_len hy]) (by rw [cert_len hy]; decide)
theorem KX.t {D : Nat} {w W : World} {R X : Nat} {c : Rc} {s : Xst} (h : KX D w R X c s W) (x : ByteArray) : KX D w R X { c with st := x } s (W.setCells X 43 [.string x]) :=
 h.put (c' := { c with st := x }) h.ok ([.int .i64 c.k, .int .i64 c.l, .int .i64 c.v, .int .i64 c.s, .bool c.q, c.rs.val] ++ certL c.ct c.cs) [.string c.st] [.string x] [c.sg.val] (by simp [Rc.cells]) (by simp [Rc.cells]) 43 (by rw [List.length_append, cert_len h.ok]; rfl) rfl (by simp)
theorem KX.g {D : Nat} {w W : World} {R X : Nat} {c : Rc} {s : Xst} (h : KX D w R X c s W) (x : Sl Sg) : KX D w R X { c with sg := x } s (W.setCells X 44 [x.val]) :=
 h.put (c' := { c with sg := x }) h.ok ([.int .i64 c.k, .int .i64 c.l, .int .i64 c.v, .int .i64 c.s, .bool c.q, c.rs.val] ++ (certL c.ct c.cs ++ [.string c.st])) [c.sg.val] [x.val] [] (by simp [Rc.cells]) (by simp [Rc.cells]) 44 (by simp [cert_len h.ok]) rfl (by simp)
theorem KX.below {D : Nat} {w W W' : World} {R X : Nat} {c : Rc} {s : Xst} (h : KX D w R X c s W) (hb : Below W.heap.size W W') : KX D w R X c s W' :=
 ⟨range_below h.own hb h.lx, there_below h.thX hb h.lx, h.st.below hb, gb_trans h.gb ⟨hb.os, hb.tape, hb.output, hb.size, fun i hi _ => hb.block i hi⟩, Nat.lt_of_lt_of_le h.lx hb.size, h.xw, h.rx, h.ok⟩
def kfin (p : (Rp × ByteArray) × Xst) : Rp × Int := if doneE p.2.1 p.2.2 ≠ 0 then (Rp.zero 0, doneE p.2.1 p.2.2) else if p.1.1.k = 1 ∨ p.1.1.k = 3 then (p.1.1, 0) else ofT p.1.1.k (strL p.1.2)
theorem kdec_fin (zs : List Int) : kdec zs = kfin (krS (zs, 0)) := rfl
theorem kfin_bad {r : Rp} {t : ByteArray} {s : Xst} {d : Int} (hd : doneE s.1 s.2 = d) (h : d ≠ 0) : kfin ((r, t), s) = (Rp.zero 0, d) := by
 unfold kfin
 simp only [hd]
 rw [if_pos h]
theorem kfin_own {r : Rp} {t : ByteArray} {s : Xst} (hd : doneE s.1 s.2 = 0) (h : r.k = 1 ∨ r.k = 3) : kfin ((r, t), s) = (r, 0) := by
 unfold kfin
 simp only [hd]
 rw [if_neg (by decide), if_pos h]
theorem kfin_of {r : Rp} {t : ByteArray} {s : Xst} (hd : doneE s.1 s.2 = 0) (h : ¬ (r.k = 1 ∨ r.k = 3)) : kfin ((r, t), s) = ofT r.k (strL t) := by
 unfold kfin
 simp only [hd]
 rw [if_neg (by decide), if_neg h]
theorem ofT_0 : ofT 0 (strL ⟨#[]⟩) = (Rp.zero 0, 240) := by
 unfold ofT
 rw [if_neg]
 intro h
 have h1 : (decS []).2 ≠ 0 := by decide
 exact h1 h.1
def wtE (xs : List Ev) : Nat := (xs.map fun g => g.s.size).sum
def Mg.light (m : Mg) : Prop := m.st.size ≤ 6000 ∧ m.cs.xs.length ≤ 100 ∧ wtE m.ne.xs ≤ 6000
theorem flat_bound {α : Type} {f : α → List Int} {K : Nat} : ∀ (xs : List α), (∀ x ∈ xs, (f x).length ≤ K) → (xs.flatMap f).length ≤ xs.length * K
 | [], _ => by simp
 | x :: xs, h => by
  have h1 := h x (by simp)
  have h2 := flat_bound xs (fun y hy => h y (by simp [hy]))
  simp only [List.flatMap_cons, List.length_append, List.length_cons, Nat.add_mul, Nat.one_mul]
  omega
theorem inB_le {n m : Int} (h : inB n m = true) : 0 ≤ n ∧ n ≤ m := by
 unfold inB at h
 exact of_decide_eq_true h
theorem batMay_le {q : Bool} {x : Sl Rq} (h : batMay q x = true) : x.xs.length ≤ 4 ∧ ∀ r ∈ x.xs, r.s.size ≤ 64 := by
 unfold batMay at h
 split at h
 ·have := of_decide_eq_true h
  have e : x.xs = [] := List.eq_nil_of_length_eq_zero this
  rw [e]
  simp
 ·unfold mayL at h
  rw [Bool.and_eq_true] at h
  have h1 := of_decide_eq_true h.1
  refine ⟨by omega, fun r hr => ?_⟩
  have h2 := List.all_eq_true.1 h.2 r hr
  unfold Rq.may at h2
  rw [Bool.and_eq_true, Bool.and_eq_true] at h2
  have := of_decide_eq_true h2.2.2
  omega
theorem req_le {r : Rq} (h : r.ok) (hs : r.s.size ≤ 64) : (BRq.of r).bytes.length ≤ 120 := by
 have h1 := putL_le r.c h.ch
 have h2 := putL_le r.n h.nh
 have h3 := putL_le (r.s.size : Int) (by omega)
 have h4 := h.tl
 simp only [BRq.of, BRq.bytes, textL, List.length_append, strL_length]
 omega
theorem bat_le {q : Bool} {x : Sl Rq} {w : World} (hx : x.At RqE w) (hm : batMay q x = true) : (batL q (x.xs.map BRq.of)).length ≤ 500 := by
 obtain ⟨h1, h2⟩ := batMay_le hm
 unfold batL
 split
 ·have := putL_le 0 (by omega); omega
 ·have k := flat_bound (f := BRq.bytes) (K := 120) (x.xs.map BRq.of) (fun y hy => by
   obtain ⟨r, hr, rfl⟩ := List.mem_map.1 hy
   exact req_le (hx.2.1 r hr) (h2 r hr))
  rw [List.length_map] at k
  have p := putL_le (((x.xs.map BRq.of).length : Int) + 1) (by rw [List.length_map]; omega)
  rw [List.length_append]
  omega
theorem sgs_le {xs : List Sg} (h : ∀ g ∈ xs, g.ok) (hn : xs.length ≤ 100) : (sgsL xs).length ≤ 2600 := by
 have k := flat_bound (f := sgL) (K := 25) xs (fun g hg => by
  have h1 := putL_le g.n (h g hg).nh
  have h2 := (h g hg).tl
  unfold sgL
  rw [List.length_append]
  omega)
 have p := putL_le (xs.length : Int) (by omega)
 unfold sgsL
 rw [List.length_append]
 omega
theorem vt_le {x : Vt} (h : x.ok) : (vtL x).length ≤ 68 := by
 have h1 := putL_le x.k h.k
 have h2 := putL_le x.e h.e
 have h3 := putL_le x.v h.v
 have h4 := putL_le x.s h.s
 have h5 := h.dl
 simp only [vtL, List.flatMap_cons, List.flatMap_nil, List.append_nil, List.length_append]
 omega
theorem ct_le {x : Vt} {xs : List Sg} (hx : x.ok) (h : ∀ g ∈ xs, g.ok) (hn : xs.length ≤ 100) : (ctL x xs).length ≤ 2700 := by
 have h1 := vt_le hx
 have h2 := sgs_le h hn
 unfold ctL
 rw [List.length_append]
 omega
theorem sgsMay_le {x : Sl Sg} (h : sgsMay x = true) : x.xs.length ≤ 64 := by
 unfold sgsMay mayL at h
 rw [Bool.and_eq_true] at h
 have := of_decide_eq_true h.1
 omega
theorem hd_le {g : Hd} {w : World} (ho : g.vt.ok) (ha : g.At w) (hm : g.may = true) : (hdL g).length ≤ 3200 ∧ g.sg.xs.length ≤ 64 ∧ g.rs.xs.length ≤ 4 ∧ ∀ r ∈ g.rs.xs, r.s.size ≤ 64 := by
 unfold Hd.may certMay at hm
 rw [Bool.and_eq_true, Bool.and_eq_true] at hm
 obtain ⟨h1, _, h3⟩ := hm
 have hs := sgsMay_le h3
 have k1 := bat_le ha.1 h1
 have k2 := ct_le ho (ha.2.2.1) (by omega : g.sg.xs.length ≤ 100)
 obtain ⟨b1, b2⟩ := batMay_le h1
 refine ⟨?_, hs, b1, b2⟩
 unfold hdL
 rw [List.length_append]
 omega
theorem evs_le : ∀ (xs : List Ev), (∀ g ∈ xs, g.ok) → (∀ g ∈ xs, g.s.size ≤ 6000) → (xs.flatMap evL).length ≤ xs.length * 34 + wtE xs
 | [], _, _ => by simp
 | x :: xs, h, hs => by
  have h2 := evs_le xs (fun y hy => h y (by simp [hy])) (fun y hy => hs y (by simp [hy]))
  have h0 := h x (by simp)
  have h1 := putL_le x.n h0.nh
  have h4 := hs x (by simp)
  have h3 := putL_le (x.s.size : Int) (by omega)
  have h5 := h0.tl
  have hw : wtE (x :: xs) = x.s.size + wtE xs := by simp [wtE]
  rw [hw]
  simp only [List.flatMap_cons, List.length_append, List.length_cons, Nat.add_mul, Nat.one_mul, evL, textL, strL_length]
  omega
theorem wtE_mem : ∀ {xs : List Ev} {g : Ev}, g ∈ xs → g.s.size ≤ wtE xs
 | x :: xs, g, h => by
  have hw : wtE (x :: xs) = x.s.size + wtE xs := by simp [wtE]
  rcases List.mem_cons.1 h with rfl | h
  ·omega
  ·have := wtE_mem h; omega
theorem fine_of {m : Mg} {w : World} (om : m.ok) (am : m.At w) (hg : m.good = true) (hl : m.light) : m.Fine := by
 obtain ⟨h1, h8⟩ := Mg.good_k hg
 obtain ⟨l1, l2, l3⟩ := hl
 unfold Mg.good at hg
 rw [Bool.and_eq_true, Bool.and_eq_true] at hg
 have hm := hg.2.2
 clear hg
 unfold Mg.may Mg.mayL chgMay at hm
 simp only [Bool.and_eq_true] at hm
 obtain ⟨⟨a1, a2⟩, ⟨a3, a4⟩, a5, a6, a7, ⟨⟨c1, c2, c3⟩, c4⟩, a9, a10, a11⟩ := hm
 have e1 := inB_le a1
 have e2 := inB_le a2
 have e3 := inB_le a3
 have e4 := inB_le a4
 have e5 := inB_le c1
 have e6 := inB_le c2
 have e7 := inB_le c3
 clear a1 a2 a3 a4 a5 a6 c1 c2 c3
 obtain ⟨b1, b2⟩ := batMay_le a7
 have b3 := bat_le am.rs a7
 have s1 := sgsMay_le a11
 have s2 := sgs_le am.sg.2.1 (by omega : m.sg.xs.length ≤ 100)
 have s3 := ct_le om.ct am.cs.2.1 l2
 unfold mayL at c4 a9
 rw [Bool.and_eq_true] at c4 a9
 have d1 := of_decide_eq_true c4.1
 have d2 := of_decide_eq_true a9.1
 have hh := fun g (hgm : g ∈ m.he.xs) => hd_le (am.he.1.2.1 g hgm) (am.he.2 g hgm) (List.all_eq_true.1 c4.2 g hgm)
 have f1 := flat_bound (f := hdL) (K := 3200) m.he.xs (fun g hgm => (hh g hgm).1)
 have hs := fun g (hgm : g ∈ m.ne.xs) => Nat.le_trans (wtE_mem hgm) l3
 have f2 := evs_le m.ne.xs am.ne.2.1 hs
 have f3 := vt_le om.vt
 have p (n : Int) (hn : n ≤ 9223372036854775807) := putL_le n hn
 have pk := p m.k (by omega)
 have pe := p m.e (by omega)
 have ps := p m.s (by omega)
 have pl := p m.l (by omega)
 have pv := p m.v (by omega)
 have pc := p m.ce (by omega)
 have pd := p m.cl (by omega)
 have pf := p m.cv (by omega)
 have ph := p (m.he.xs.length : Int) (by omega)
 have pn := p (m.ne.xs.length : Int) (by omega)
 have pt := p (m.st.size : Int) (by omega)
 have dl := om.dl
 refine ⟨by omega, by omega, by omega, by omega, by omega, by omega, by omega, by omega, fun r hr => by have := b2 r hr; omega, by omega, fun g hgm => ?_, by omega, fun g hgm => by have := hs g hgm; omega, by omega, by omega, by omega, ?_⟩
 ·obtain ⟨_, q1, q2, q3⟩ := hh g hgm
  exact ⟨by omega, by omega, fun r hr => by have := q3 r hr; omega⟩
 ·unfold Mg.bytes
  rw [List.length_append]
  have hk : m.body.length ≤ 39000 := by
   unfold Mg.body
   split
   ·simp only [List.flatMap_cons, List.flatMap_nil, List.append_nil, List.length_append]; omega
   split
   ·omega
   split
   ·simp only [hdsL, List.flatMap_cons, List.flatMap_nil, List.append_nil, List.length_append]; omega
   split
   ·simp only [evsL, List.flatMap_cons, List.flatMap_nil, List.append_nil, List.length_append]; omega
   split
   ·simp only [List.length_append]; omega
   split
   ·simp only [List.flatMap_cons, List.flatMap_nil, List.append_nil, List.length_append]; omega
   split
   ·simp only [List.length_append]; omega
   ·simp only [textL, strL_length, List.length_append]; omega
  omega
def addTo4 (n m : Int) : Int := if n + m ≤ 4000 then n + m else 4001
set_option maxRecDepth 100000 in
set_option maxHeartbeats 400000 in
theorem add4000_any (n m : Int) (w : World) (h0 : 0 ≤ n) (h1 : n ≤ 4001) (h2 : 0 ≤ m) (h3 : m ≤ 9223372036854775807) :
  Calls Tryz.prog 46 #[.int .i64 n, .int .i64 m, .int .i64 4000] w fun e w' => e = .returned (.int .i64 (addTo4 n m)) ∧ w' = w := by
 by_cases c1 : 4000 < n
 ·have HA : Hid (addTo4 n m = 4001) := by show _ = _; unfold addTo4; rw [if_neg (by omega)]
  rw [HA.out]
  go_enter Tryz.func46, Tryz.ntmps46
  go_wp2
  go_ret
  exact ⟨rfl, rfl⟩
 ·by_cases c2 : 4000 < m
  ·have HA : Hid (addTo4 n m = 4001) := by show _ = _; unfold addTo4; rw [if_neg (by omega)]
   rw [HA.out]
   go_enter Tryz.func46, Tryz.ntmps46
   go_wp2
   go_ret
   exact ⟨rfl, rfl⟩
  ·by_cases c3 : 4000 - m < n
   ·have HA : Hid (addTo4 n m = 4001) := by show _ = _; unfold addTo4; rw [if_neg (by omega)]
    rw [HA.out]
    go_enter Tryz.func46, Tryz.ntmps46
    go_wp2
    go_ret
    exact ⟨rfl, rfl⟩
   ·have HA : Hid (addTo4 n m = n + m) := by show _ = _; unfold addTo4; rw [if_pos (by omega)]
    rw [HA.out]
    go_enter Tryz.func46, Tryz.ntmps46
    go_wp2
    go_ret
    exact ⟨rfl, rfl⟩
def wtR (rs : List BRq) : Nat := (rs.map fun r => 20 + r.s.size).sum
def wt (xs : List Bat) : Nat := (xs.map fun x => 5 + wtR x.rs).sum
theorem wtR_take (rs : List BRq) (k : Nat) (hk : k < rs.length) : wtR (rs.take (k + 1)) = wtR (rs.take k) + (20 + rs[k].s.size) := by
 unfold wtR
 rw [List.take_succ_eq_append_getElem hk]
 simp only [List.map_append, List.map_cons, List.map_nil, List.sum_append, List.sum_cons, List.sum_nil]
 omega
theorem wt_take (xs : List Bat) (k : Nat) (hk : k < xs.length) : wt (xs.take (k + 1)) = wt (xs.take k) + (5 + wtR xs[k].rs) := by
 unfold wt
 rw [List.take_succ_eq_append_getElem hk]
 simp only [List.map_append, List.map_cons, List.map_nil, List.sum_append, List.sum_cons, List.sum_nil]
 omega
set_option maxRecDepth 100000 in
set_option maxHeartbeats 2000000 in
theorem light_any (b cap : Nat) (xs : List Bat) (w : World) (h : BatsAt w b xs) :
  Calls Tryz.prog 19 #[.slice (some ⟨b, 0, none⟩) xs.length cap] w fun e w' => (e = .returned (.bool false) ∧ Below w.heap.size w w') ∨ (e = .returned (.bool true) ∧ Below w.heap.size w w' ∧ wt xs ≤ 4000) := by
 have hxl := h.1
 go_enter Tryz.func19, Tryz.ntmps19
 go_wp2
 go_loopw [3, 4] (fun nv iv wr => ∃ (k : Nat) (n : Int), k ≤ xs.length ∧ iv = .int .i64 (k : Int) ∧ nv = .int .i64 n ∧ 0 ≤ n ∧ n ≤ 4001 ∧ Hid (n ≤ 4000 → n = wt (xs.take k)) ∧ Below w.heap.size w wr) (fun _ iv _ => xs.length - (intOf iv).toNat)
 case atStart => exact ⟨0, 0, by omega, rfl, rfl, by omega, by omega, hide (fun _ => by simp [wt]), Below.refl _ _⟩
 case round =>
  obtain ⟨k, n, hk, rfl, rfl, h0, h1, HL, hbel⟩ := hrel
  obtain ⟨wo, rfl⟩ : ∃ wo, wo = wr := ⟨_, rfl⟩
  by_cases hlt : k < xs.length
  ·by_cases hn : n ≤ 4000
   ·have hW := h.below hbel
    have hc := hW.cell k hlt
    have hrow := (hW.2.1 xs[k] (List.getElem_mem hlt)).1
    have HT := hide (wt_take xs k hlt)
    obtain ⟨xa, hxa⟩ : ∃ xa, Hid (xs[k].a = xa) := ⟨_, hide rfl⟩
    obtain ⟨xc, hxc⟩ : ∃ xc, Hid (xs[k].cap = xc) := ⟨_, hide rfl⟩
    obtain ⟨xr, hxr⟩ : ∃ xr, Hid (xs[k].rs = xr) := ⟨_, hide rfl⟩
    rw [hxa.out, hxc.out, hxr.out] at hc
    rw [hxa.out, hxr.out] at hrow
    rw [hxr.out] at HT
    clear hxa hxc hxr
    have hrl := hrow.1
    unfold maxLen at hrl
    have hbw := hW.2.2.1
    have k1 : (k : Int) < xs.length := by omega
    have ca := add4000_any n 5 wo h0 h1 (by omega) (by omega)
    have HA : Hid (addTo4 n 5 ≤ 4001 ∧ 0 ≤ addTo4 n 5 ∧ (addTo4 n 5 ≤ 4000 → addTo4 n 5 = wt (xs.take k) + 5)) := by
     unfold addTo4
     have := HL.out hn
     split
     ·refine ⟨by omega, by omega, fun _ => by omega⟩
     ·refine ⟨by omega, by omega, fun h => by omega⟩
    obtain ⟨p, hp⟩ : ∃ p, Hid (addTo4 n 5 = p) := ⟨_, hide rfl⟩
    rw [hp.out] at ca HA
    clear hp
    go_wp2_with fail
    refine ca.mono ?_
    rintro e w1 ⟨rfl, hx⟩
    obtain rfl := hx.symm
    clear hx ca
    go_wp2
    go_loopw [3, 5] (fun nv jv wq => ∃ (j : Nat) (m : Int), j ≤ xr.length ∧ jv = .int .i64 (j : Int) ∧ nv = .int .i64 m ∧ 0 ≤ m ∧ m ≤ 4001 ∧ Hid (m ≤ 4000 → m = wt (xs.take k) + 5 + wtR (xr.take j)) ∧ Below wo.heap.size wo wq) (fun _ jv _ => xr.length - (intOf jv).toNat)
    case atStart => exact ⟨0, p, by omega, rfl, rfl, HA.out.2.1, HA.out.1, hide (fun q => by have := HA.out.2.2 q; simp [wtR]; omega), Below.refl _ _⟩
    case round =>
     obtain ⟨j, m, hj, rfl, rfl, m0, m1, HM, hbq⟩ := hrel
     have hcq := (hbq.cell (p := ⟨b, k * 2 + 1, none⟩) hbw).trans hc
     by_cases hjl : j < xr.length
     ·have j1 : (j : Int) < xr.length := by omega
      by_cases hm : m ≤ 4000
      ·obtain ⟨rb, off, rfl, hrb, hre⟩ := hrow.elem j hjl
       have HT2 := hide (wtR_take xr j hjl)
       obtain ⟨r, hr⟩ : ∃ r, Hid (xr[j] = r) := ⟨_, hide rfl⟩
       have hrs : r.s.size ≤ maxLen := by rw [← hr.out]; exact (hrow.2.1 _ (List.getElem_mem hjl)).sl
       unfold maxLen at hrs
       rw [hr.out] at hre HT2
       have hre2 : wo.cell? ⟨rb, off + j * 19 + 2, none⟩ = some (.string r.s) := hre 2 _ rfl
       clear hre hr
       have HA2 : Hid (addTo4 m 20 ≤ 4001 ∧ 0 ≤ addTo4 m 20 ∧ (addTo4 m 20 ≤ 4000 → addTo4 m 20 = wt (xs.take k) + 5 + wtR (xr.take j) + 20)) := by
        unfold addTo4
        have := HM.out hm
        split
        ·refine ⟨by omega, by omega, fun _ => by omega⟩
        ·refine ⟨by omega, by omega, fun h => by omega⟩
       have ca := fun w0 => add4000_any m 20 w0 m0 m1 (by omega) (by omega)
       obtain ⟨p2, hp2⟩ : ∃ p, Hid (addTo4 m 20 = p) := ⟨_, hide rfl⟩
       simp only [hp2.out] at ca
       rw [hp2.out] at HA2
       have cb := fun w0 => add4000_any p2 (r.s.size : Int) w0 HA2.out.2.1 HA2.out.1 (by omega) (by omega)
       have HA3 : Hid (addTo4 p2 r.s.size ≤ 4001 ∧ 0 ≤ addTo4 p2 r.s.size ∧ (addTo4 p2 r.s.size ≤ 4000 → addTo4 p2 r.s.size = wt (xs.take k) + 5 + wtR (xr.take (j + 1)))) := by
        unfold addTo4
        have := HA2.out
        have := HT2.out
        split
        ·refine ⟨by omega, by omega, fun _ => by have := HA2.out.2.2 (by omega); omega⟩
        ·refine ⟨by omega, by omega, fun h => by omega⟩
       obtain ⟨p3, hp3⟩ : ∃ p, Hid (addTo4 p2 r.s.size = p) := ⟨_, hide rfl⟩
       simp only [hp3.out] at cb
       rw [hp3.out] at HA3
       clear hp2 hp3 HT2 HA2
       go_wp2_with fail
       obtain ⟨w5, hw5⟩ : ∃ w5, wr.drew = w5 := ⟨_, rfl⟩
       have hB5 : Below wo.heap.size wo w5 := by rw [← hw5]; exact hbq.drew
       have c1 : ∀ w', Below w5.heap.size w5 w' → w'.cell? ⟨b, k * 2 + 1, none⟩ = some (.slice (some ⟨rb, off, none⟩) xr.length xc) := fun w' hw' => ((hB5.trans (hw'.mono hB5.size)).cell (p := ⟨b, k * 2 + 1, none⟩) hbw).trans hc
       have c2 : ∀ w', Below w5.heap.size w5 w' → w'.cell? ⟨rb, off + j * 19 + 2, none⟩ = some (.string r.s) := fun w' hw' => ((hB5.trans (hw'.mono hB5.size)).cell (p := ⟨rb, off + j * 19 + 2, none⟩) hrb).trans hre2
       refine hs_begin (S := (Below w5.heap.size w5)) 14 rfl (by kernel_rfl) ?_
       rw [hw5]
       clear hw5 hcq hbq
       have hS : (Below w5.heap.size w5) w5 := Below.refl _ _
       refine hs_t 0 32 (?_) rfl (by kernel_rfl) (by kernel_rfl) (by kernel_rfl) (by rfl) ?_ hS rfl ?_
       rotate_left
       ·intro w' hw
        go_simp
        try with_reducible rfl
       simp only [nz]
       refine hs_t 2 34 (?_) rfl (by kernel_rfl) (by kernel_rfl) (by kernel_rfl) (by rfl) ?_ hS rfl ?_
       rotate_left
       ·intro w' hw
        go_simp
        try with_reducible rfl
       simp only [nz]
       refine hs_t 3 35 (?_) rfl (by kernel_rfl) (by kernel_rfl) (by kernel_rfl) (by rfl) ?_ hS rfl ?_
       rotate_left
       ·intro w' hw
        go_simp
        try with_reducible rfl
       simp only [nz]
       refine hs_t 4 36 (?_) rfl (by kernel_rfl) (by kernel_rfl) (by kernel_rfl) (by rfl) ?_ hS rfl ?_
       rotate_left
       ·intro w' hw
        go_simp
        try with_reducible rfl
       simp only [nz]
       refine hs_t 5 37 (?_) rfl (by kernel_rfl) (by kernel_rfl) (by kernel_rfl) (by rfl) ?_ hS rfl ?_
       rotate_left
       ·intro w' hw
        go_simp
        try with_reducible rfl
       simp only [nz]
       refine hs_t 6 38 (?_) rfl (by kernel_rfl) (by kernel_rfl) (by kernel_rfl) (by rfl) ?_ hS rfl ?_
       rotate_left
       ·intro w' hw
        have hc := c1 w' hw
        go_simp
        try with_reducible rfl
       simp only [nz]
       refine hs_t 7 39 (?_) rfl (by kernel_rfl) (by kernel_rfl) (by kernel_rfl) (by rfl) ?_ hS rfl ?_
       rotate_left
       ·intro w' hw
        go_simp
        try with_reducible rfl
       simp only [nz]
       refine hs_t 8 40 (?_) rfl (by kernel_rfl) (by kernel_rfl) (by kernel_rfl) (by rfl) ?_ hS rfl ?_
       rotate_left
       ·intro w' hw
        go_simp
        try with_reducible rfl
       simp only [nz]
       refine hs_t 9 41 (?_) rfl (by kernel_rfl) (by kernel_rfl) (by kernel_rfl) (by rfl) ?_ hS rfl ?_
       rotate_left
       ·intro w' hw
        go_simp
        try with_reducible rfl
       simp only [nz]
       refine hs_t 10 42 (?_) rfl (by kernel_rfl) (by kernel_rfl) (by kernel_rfl) (by rfl) ?_ hS rfl ?_
       rotate_left
       ·intro w' hw
        have hc := c2 w' hw
        go_simp
        try with_reducible rfl
       simp only [nz]
       refine hs_t 11 43 (?_) rfl (by kernel_rfl) (by kernel_rfl) (by kernel_rfl) (by rfl) ?_ hS rfl ?_
       rotate_left
       ·intro w' hw
        go_simp
        try with_reducible rfl
       simp only [nz]
       refine hs_call (i := 1) (d := some 33) rfl (by kernel_rfl) (by rfl) (by go_simp; first | done | exact ⟨rfl, rfl⟩ | with_reducible rfl) rfl ?_
       refine (ca w5).mono ?_
       rintro e' w6 ⟨rfl, hx⟩
       obtain rfl := hx.symm
       refine ⟨_, rfl, hS, ?_⟩
       simp only [nz]
       refine hs_call (i := 12) (d := some 44) rfl (by kernel_rfl) (by rfl) (by go_simp; first | done | exact ⟨rfl, rfl⟩ | with_reducible rfl) rfl ?_
       refine (cb w5).mono ?_
       rintro e' w7 ⟨rfl, hx⟩
       obtain rfl := hx.symm
       refine ⟨_, rfl, hS, ?_⟩
       simp only [nz]
       refine hs_t 13 3 (?_) rfl (by kernel_rfl) (by kernel_rfl) (by kernel_rfl) (by rfl) ?_ hS rfl ?_
       rotate_left
       ·intro w' hw
        go_simp
        try with_reducible rfl
       simp only [nz]
       refine hs_done (by kernel_rfl) ?_
       go_wp2
       go_roundw
       case rel => exact ⟨j + 1, p3, by omega, by go_num, rfl, HA3.out.2.1, HA3.out.1, hide HA3.out.2.2, hB5⟩
       case measure => simp [intOf]; omega
      ·go_wp2
       go_roundw
       case rel => exact ⟨k + 1, m, by omega, by go_num, rfl, m0, m1, hide (fun q => absurd q hm), hbel.trans (hbq.mono hbel.size)⟩
       case measure => simp [intOf]; omega
     ·have hj' : j = xr.length := by omega
      have HF : Hid (m ≤ 4000 → m = wt (xs.take (k + 1))) := by
       intro hm
       have h1 := HM.out hm
       have h2 := HT.out
       rw [hj', List.take_length] at h1
       omega
      have j1 : ¬ (j : Int) < xr.length := by omega
      clear HM
      go_wp2
      go_roundw
      case rel => exact ⟨k + 1, m, by omega, by go_num, rfl, m0, m1, HF, hbel.trans (hbq.mono hbel.size)⟩
      case measure => simp [intOf]; omega
   ·go_wp2
    go_ret
    exact .inl ⟨rfl, hbel⟩
  ·have hk' : k = xs.length := by omega
   have HF : Hid (n ≤ 4000 → wt xs ≤ 4000) := by
    intro hn
    have := HL.out hn
    rw [hk', List.take_length] at this
    omega
   have k1 : ¬ (k : Int) < xs.length := by omega
   clear HL
   by_cases hn : n ≤ 4000
   ·go_wp2
    go_ret
    exact .inr ⟨rfl, hbel, HF.out hn⟩
   ·go_wp2
    go_ret
    exact .inl ⟨rfl, hbel⟩
def RcE : El Rc where
  f := Rc.cells
  k := 45
  ok := fun r => r.ct.ok
  len := fun r h => Rc.len h
  one := fun r => r.one
def RcsAt (w : World) (x : Sl Rc) : Prop := x.At RcE w ∧ ∀ r ∈ x.xs, r.At w
theorem RcsAt.below {w w' : World} {x : Sl Rc} (k : RcsAt w x) (hb : Below w.heap.size w w') : RcsAt w' x := ⟨k.1.below hb, fun h hh => (k.2 h hh).below hb⟩
def Rc.light (r : Rc) : Prop := r.st.size ≤ 4000 ∧ r.cs.xs.length ≤ 100 ∧ r.sg.xs.length ≤ 100
def LightK (x : Sl Rc) (w : World) (e : Ending) (w' : World) : Prop := ∃ b : Bool, e = .returned (.bool b) ∧ Below w.heap.size w w' ∧ (b = true → x.xs.length ≤ 100 ∧ ∀ r ∈ x.xs, r.light)
theorem run_bsB (q : Bool) (a : Option Addr) (n c : Nat) (w : World) : (Instr.buildSlice 86 1 #[(0, .agg #[.bool q, .slice a n c])]).run Tryz.prog w = .ok (.slice (some ⟨w.heap.size, 0, none⟩) 1 1) (w.alloc (.cells #[.bool q, .slice a n c] 24)) := by kernel_rfl
theorem light1_on (q : Bool) (x : Sl Rq) (w : World) (hx : x.At RqE w) : Calls Tryz.prog 19 #[.slice (some ⟨w.heap.size, 0, none⟩) 1 1] (w.alloc (.cells #[.bool q, .slice x.a x.xs.length x.cap] 24)) fun e w' => ∃ b : Bool, e = .returned (.bool b) ∧ Below w.heap.size w w' := by
 have hB : Below w.heap.size w (w.alloc (.cells #[.bool q, .slice x.a x.xs.length x.cap] 24)) := (Below.refl _ _).alloc (Nat.le_refl _) _
 have hR := range_new w #[.bool q, .slice x.a x.xs.length x.cap] 24
 have c := light_any w.heap.size 1 [⟨q, x.a, x.cap, x.xs.map BRq.of⟩] _ ⟨by simp, fun y hy => by
  simp only [List.mem_singleton] at hy
  subst hy
  exact ⟨reqs_at (Sl.At.below hx hB), trivial, trivial⟩, by simp, by simpa [Bat.cells] using hR⟩
 refine c.mono ?_
 rintro e w' (⟨rfl, hb⟩ | ⟨rfl, hb, -⟩)
 ·exact ⟨false, rfl, hB.trans (hb.mono hB.size)⟩
 ·exact ⟨true, rfl, hB.trans (hb.mono hB.size)⟩
theorem rc_cs {w : World} {b : Nat} {r : Rc} (h : r.ct.ok) (hr : w.rangeAt b 0 r.cells) : w.cell? ⟨b, 42, none⟩ = some (.slice r.cs.a r.cs.xs.length r.cs.cap) := by
 obtain ⟨_, kc, _, _⟩ := rc_parts h hr
 exact kc 36 _ (by unfold certL; rw [List.getElem?_append_right (by rw [h.len]; exact Nat.le_refl _), h.len]; rfl)
theorem fine_rc {r : Rc} {w : World} (h : r.ct.ok) (am : r.At w) (hl : r.light) (hg : r.good = true) : r.Fine := by
 have hg' := hg
 unfold Rc.good at hg'
 rw [Bool.and_eq_true] at hg'
 have hv := of_decide_eq_true hg'.1
 have hp := good_pure (Rc.told_ok h) (Rc.told_at am) hg'.2
 obtain ⟨hk, -⟩ := Rc.told_bare hp
 exact ⟨fine_of (Rc.told_ok h) (Rc.told_at am) hg'.2 ⟨Nat.le_trans hl.1 (by decide), hl.2.1, Nat.zero_le _⟩, by omega, hk.1, hk.2⟩
set_option maxRecDepth 100000 in
set_option maxHeartbeats 2000000 in
theorem light24_any (x : Sl Rc) (w : World) (h : RcsAt w x) : Calls Tryz.prog 7 #[x.val] w fun e w' => LightK x w e w' := by
 obtain ⟨zh, hzl, hzh⟩ : ∃ z : List Value, z.length = 45 ∧ ∀ w : World, (zeroValue 33).run Tryz.prog w = .ok (.agg z.toArray) w := ⟨_, Rc.len Vt.zero_ok, zeroRc⟩
 obtain ⟨xa, hxa⟩ : ∃ a, Hid (x.a = a) := ⟨_, hide rfl⟩
 have hxx : ∀ w', Below w.heap.size w w' → RowsAt RcE w' xa x.xs ∧ ∀ r ∈ x.xs, r.At w' := fun w' h0 => by rw [← hxa.out]; exact h.below h0
 unfold Sl.val
 rw [hxa.out]
 have hml : x.xs.length ≤ maxLen := h.1.1
 unfold maxLen at hml
 clear h hxa
 obtain ⟨p0, hp0⟩ : ∃ p, Hid (decide (100 < (x.xs.length : Int)) = p) := ⟨_, hide rfl⟩
 go_enter Tryz.func7, Tryz.ntmps7
 go_upto_region 1 with fail
 try simp only [Act.put]
 refine pl_begin ?_
 refine pl_t 5 (?_) (by rfl) ?_ rfl ?_
 rotate_left
 ·go_simp
  try with_reducible rfl
 simp only [nz]
 refine pl_t 6 (?_) (by rfl) ?_ rfl ?_
 rotate_left
 ·go_simp
  try with_reducible rfl
 simp only [nz]
 refine pl_t 7 (.bool p0) (by rfl) (by rw [← hp0.out]; go_simp) rfl ?_
 simp only [nz]
 refine pl_nil ?_
 cases p0
 rotate_left
 ·have HF : Hid (LightK x w (.returned (.bool true)) w → True) := hide (fun _ => trivial)
  have HG : Hid (LightK x w (.returned (.bool false)) w) := hide ⟨false, rfl, Below.refl _ _, fun h => by cases h⟩
  clear hxx hml hp0 HF
  go_wp2_with fail
  go_ret
  exact HG.out
 have hx100 : x.xs.length ≤ 100 := by have := of_decide_eq_false hp0.out; omega
 clear hp0 hml
 go_upto_region 3 with fail
 try simp only [Act.put]
 refine pl_begin ?_
 refine pl_t 8 (?_) (by rfl) ?_ rfl ?_
 rotate_left
 ·go_simp
  try with_reducible rfl
 simp only [nz]
 refine pl_t 9 (?_) (by rfl) ?_ rfl ?_
 rotate_left
 ·go_simp
  try with_reducible rfl
 simp only [nz]
 refine pl_t 10 (?_) (by rfl) ?_ rfl ?_
 rotate_left
 ·go_simp
  try with_reducible rfl
 simp only [nz]
 refine pl_nil ?_
 have HK0 : Hid (Below w.heap.size w w ∧ ∀ r ∈ x.xs.take 0, r.light) := hide ⟨Below.refl _ _, fun r hr => by simp at hr⟩
 go_wp2_with fail
 go_loopw [10] (fun iv wr => ∃ k : Nat, k ≤ x.xs.length ∧ iv = .int .i64 (k : Int) ∧ Hid (Below w.heap.size w wr ∧ ∀ r ∈ x.xs.take k, r.light)) (fun iv _ => x.xs.length - (intOf iv).toNat)
 case atStart => exact ⟨0, by omega, rfl, HK0⟩
 case round =>
  clear HK0
  obtain ⟨k, hk, rfl, HK⟩ := hrel
  obtain ⟨hBw, hlk⟩ := HK.out
  replace hlk := hide hlk
  clear HK
  by_cases hlt : k < x.xs.length
  ·have k1 : (k : Int) < x.xs.length := by omega
   have hgat := (hxx wr hBw).2 _ (List.getElem_mem hlt)
   have hok := (hxx wr hBw).1.2.1 _ (List.getElem_mem hlt)
   obtain ⟨b, off, rfl, hbb, hre⟩ := RowsAt.elem (hxx wr hBw).1 k hlt
   have hre : wr.rangeAt b (off + k * 45) (RcE.f x.xs[k]) := hre
   have hql : (RcE.f x.xs[k]).length = 45 := RcE.len _ hok
   have hiq : (Tryz.prog.info? 33).map (·.size) = some (RcE.f x.xs[k]).length := by rw [hql]; exact iszRc
   have hq1 := RcE.one x.xs[k]
   obtain ⟨g, hgg⟩ : ∃ g, Hid (x.xs[k] = g) := ⟨_, hide rfl⟩
   rw [hgg.out] at hre hiq hq1 hql hok hgat
   have hok : g.ct.ok := hok
   obtain ⟨q1, hqq⟩ : ∃ q, Hid (RcE.f g = q) := ⟨_, hide rfl⟩
   rw [hqq.out] at hre hiq hq1 hql
   go_upto_region 5 with fail
   try simp only [Act.put]
   refine pl_begin ?_
   refine pl_t 12 (?_) (by rfl) ?_ rfl ?_
   rotate_left
   ·go_simp
    try with_reducible rfl
   simp only [nz]
   refine pl_t 13 (.agg q1.toArray) (by rfl) (ex_mid rfl rfl hre Tryz.underlying33 rfl hiq) rfl ?_
   simp only [nz]
   refine pl_run (d := some 4) (v := .pointer (some ⟨wr.heap.size, 0, none⟩)) (w' := wr.alloc (.cells zh.toArray 33)) (by rfl) (ex_alloc rfl (hzh _)) rfl ?_
   simp only [nz]
   refine pl_store (w' := (wr.alloc (.cells zh.toArray 33)).setCells wr.heap.size 0 q1) (by rfl) (ex_put (cs := q1.toArray) rfl rfl rfl (there_newN _ _ _ (by simp [hzl, hql])) (by simpa using hiq) (all_one hq1)) rfl ?_
   refine pl_nil ?_
   obtain ⟨hF1, hF2, hF3, -⟩ := fresh_store wr zh.toArray 33 q1 (by simp [hzl, hql])
   have hs5 : wr.heap.size < ((wr.alloc (.cells zh.toArray 33)).setCells wr.heap.size 0 q1).heap.size := by rw [size_sets]; simp
   obtain ⟨w5, hw5⟩ : ∃ W, (wr.alloc (.cells zh.toArray 33)).setCells wr.heap.size 0 q1 = W := ⟨_, rfl⟩
   rw [hw5] at hF1 hF2 hF3 hs5 ⊢
   clear hw5
   rw [← hqq.out] at hF1
   have hF1 : w5.rangeAt wr.heap.size 0 g.cells := hF1
   obtain ⟨rG, -, c43, c44⟩ := rc_parts hok hF1
   have c42 := rc_cs hok hF1
   have hB5 := hBw.trans (hF2.mono hBw.size)
   have aG := hgat.rs.below hF2
   obtain ⟨p1, hp1⟩ : ∃ p, Hid (decide (100 < (g.cs.xs.length : Int)) = p) := ⟨_, hide rfl⟩
   obtain ⟨p2, hp2⟩ : ∃ p, Hid (decide (100 < (g.sg.xs.length : Int)) = p) := ⟨_, hide rfl⟩
   obtain ⟨p3, hp3⟩ : ∃ p, Hid (decide (4000 < (g.st.size : Int)) = p) := ⟨_, hide rfl⟩
   clear hqq hF1 hF2 hF3 hre hiq hq1 hql hBw hgat hxx
   go_upto_region 6 with fail
   try simp only [Act.put]
   refine pl_begin ?_
   refine pl_t 14 (?_) (by rfl) ?_ rfl ?_
   rotate_left
   ·go_simp
    try with_reducible rfl
   simp only [nz]
   refine pl_t 15 (.agg ([.bool g.q, g.rs.val] : List Value).toArray) (by rfl) (ex_mid rfl rfl rG Tryz.underlying24 rfl iszBa) rfl ?_
   simp only [nz]
   refine pl_run (d := some 16) (v := .slice (some ⟨w5.heap.size, 0, none⟩) 1 1) (w' := w5.alloc (.cells #[.bool g.q, .slice g.rs.a g.rs.xs.length g.rs.cap] 24)) (by rfl) (ex_bsi rfl rfl (run_bsB _ _ _ _ _)) rfl ?_
   simp only [nz]
   refine pl_call (d := some 17) (by rfl) (by go_simp; first | done | exact ⟨rfl, rfl⟩ | with_reducible rfl) rfl ?_
   refine (light1_on g.q g.rs w5 aG).mono ?_
   rintro _ w9 ⟨b0, rfl, HS⟩
   refine ⟨_, rfl, ?_⟩
   simp only [nz]
   cases b0
   ·refine pl_t 18 (?_) (by rfl) ?_ rfl ?_
    rotate_left
    ·go_simp
     try with_reducible rfl
    simp only [nz]
    refine pl_t 19 (?_) (by rfl) ?_ rfl ?_
    rotate_left
    ·go_simp
     try with_reducible rfl
    simp only [nz]
    refine pl_skip (d := some 20) (by rfl) rfl ?_
    simp only [nz]
    refine pl_skip (d := some 21) (by rfl) rfl ?_
    simp only [nz]
    refine pl_skip (d := some 22) (by rfl) rfl ?_
    simp only [nz]
    refine pl_skip (d := some 23) (by rfl) rfl ?_
    simp only [nz]
    refine pl_skip (d := some 24) (by rfl) rfl ?_
    simp only [nz]
    refine pl_t 25 (?_) (by rfl) ?_ rfl ?_
    rotate_left
    ·go_simp
     try with_reducible rfl
    simp only [nz]
    refine pl_t 26 (?_) (by rfl) ?_ rfl ?_
    rotate_left
    ·go_simp
     try with_reducible rfl
    simp only [nz]
    refine pl_skip (d := some 27) (by rfl) rfl ?_
    simp only [nz]
    refine pl_skip (d := some 28) (by rfl) rfl ?_
    simp only [nz]
    refine pl_skip (d := some 29) (by rfl) rfl ?_
    simp only [nz]
    refine pl_skip (d := some 30) (by rfl) rfl ?_
    simp only [nz]
    refine pl_t 31 (?_) (by rfl) ?_ rfl ?_
    rotate_left
    ·go_simp
     try with_reducible rfl
    simp only [nz]
    refine pl_t 32 (?_) (by rfl) ?_ rfl ?_
    rotate_left
    ·go_simp
     try with_reducible rfl
    simp only [nz]
    refine pl_skip (d := some 33) (by rfl) rfl ?_
    simp only [nz]
    refine pl_skip (d := some 34) (by rfl) rfl ?_
    simp only [nz]
    refine pl_skip (d := some 35) (by rfl) rfl ?_
    simp only [nz]
    refine pl_skip (d := some 36) (by rfl) rfl ?_
    simp only [nz]
    refine pl_t 37 (?_) (by rfl) ?_ rfl ?_
    rotate_left
    ·go_simp
     try with_reducible rfl
    simp only [nz]
    refine pl_nil ?_
    have HF : Hid (LightK x w (.returned (.bool false)) w9) := hide ⟨false, rfl, hB5.trans (HS.mono hB5.size), fun h => by cases h⟩
    go_wp2_with fail
    go_ret
    exact HF.out
   ·refine pl_t 18 (?_) (by rfl) ?_ rfl ?_
    rotate_left
    ·go_simp
     try with_reducible rfl
    simp only [nz]
    refine pl_t 19 (?_) (by rfl) ?_ rfl ?_
    rotate_left
    ·go_simp
     try with_reducible rfl
    simp only [nz]
    refine pl_t 20 (?_) (by rfl) ?_ rfl ?_
    rotate_left
    ·go_simp
     try with_reducible rfl
    simp only [nz]
    refine pl_t 21 (?_) (by rfl) ?_ rfl ?_
    rotate_left
    ·go_simp
     try with_reducible rfl
    simp only [nz]
    refine pl_t 22 (.slice g.cs.a g.cs.xs.length g.cs.cap) (by rfl) (pl_one rfl rfl ((HS.cell (p := ⟨wr.heap.size, 42, none⟩) hs5).trans c42) Tryz.underlying29 rfl) rfl ?_
    simp only [nz]
    refine pl_t 23 (?_) (by rfl) ?_ rfl ?_
    rotate_left
    ·go_simp
     try with_reducible rfl
    simp only [nz]
    refine pl_t 24 (.bool p1) (by rfl) (by rw [← hp1.out]; go_simp) rfl ?_
    simp only [nz]
    cases p1
    ·refine pl_t 25 (?_) (by rfl) ?_ rfl ?_
     rotate_left
     ·go_simp
      try with_reducible rfl
     simp only [nz]
     refine pl_t 26 (?_) (by rfl) ?_ rfl ?_
     rotate_left
     ·go_simp
      try with_reducible rfl
     simp only [nz]
     refine pl_t 27 (?_) (by rfl) ?_ rfl ?_
     rotate_left
     ·go_simp
      try with_reducible rfl
     simp only [nz]
     refine pl_t 28 (.slice g.sg.a g.sg.xs.length g.sg.cap) (by rfl) (pl_one rfl rfl ((HS.cell (p := ⟨wr.heap.size, 44, none⟩) hs5).trans c44) Tryz.underlying29 rfl) rfl ?_
     simp only [nz]
     refine pl_t 29 (?_) (by rfl) ?_ rfl ?_
     rotate_left
     ·go_simp
      try with_reducible rfl
     simp only [nz]
     refine pl_t 30 (.bool p2) (by rfl) (by rw [← hp2.out]; go_simp) rfl ?_
     simp only [nz]
     cases p2
     ·refine pl_t 31 (?_) (by rfl) ?_ rfl ?_
      rotate_left
      ·go_simp
       try with_reducible rfl
      simp only [nz]
      refine pl_t 32 (?_) (by rfl) ?_ rfl ?_
      rotate_left
      ·go_simp
       try with_reducible rfl
      simp only [nz]
      refine pl_t 33 (?_) (by rfl) ?_ rfl ?_
      rotate_left
      ·go_simp
       try with_reducible rfl
      simp only [nz]
      refine pl_t 34 (.string g.st) (by rfl) (pl_one rfl rfl ((HS.cell (p := ⟨wr.heap.size, 43, none⟩) hs5).trans c43) Tryz.underlying9 rfl) rfl ?_
      simp only [nz]
      refine pl_t 35 (?_) (by rfl) ?_ rfl ?_
      rotate_left
      ·go_simp
       try with_reducible rfl
      simp only [nz]
      refine pl_t 36 (.bool p3) (by rfl) (by rw [← hp3.out]; go_simp) rfl ?_
      simp only [nz]
      cases p3
      ·refine pl_t 37 (?_) (by rfl) ?_ rfl ?_
       rotate_left
       ·go_simp
        try with_reducible rfl
       simp only [nz]
       refine pl_nil ?_
       have HN : Hid (Below w.heap.size w w9 ∧ ∀ r ∈ x.xs.take (k + 1), r.light) := hide ⟨hB5.trans (HS.mono hB5.size), fun r hr => by
        rw [List.take_succ_eq_append_getElem hlt] at hr
        rcases List.mem_append.1 hr with hr | hr
        ·exact hlk.out r hr
        ·rw [List.mem_singleton.1 hr, hgg.out]
         have e1 := of_decide_eq_false hp1.out
         have e2 := of_decide_eq_false hp2.out
         have e3 := of_decide_eq_false hp3.out
         exact ⟨by omega, by omega, by omega⟩⟩
       clear HS hB5 c42 c43 c44 aG rG hlk hgg hp1 hp2 hp3
       go_wp2_with fail
       go_roundw
       case rel => exact ⟨k + 1, by omega, by go_num, HN⟩
       case measure => simp [intOf]; omega
      ·refine pl_t 37 (?_) (by rfl) ?_ rfl ?_
       rotate_left
       ·go_simp
        try with_reducible rfl
       simp only [nz]
       refine pl_nil ?_
       have HF : Hid (LightK x w (.returned (.bool false)) w9) := hide ⟨false, rfl, hB5.trans (HS.mono hB5.size), fun h => by cases h⟩
       go_wp2_with fail
       go_ret
       exact HF.out
     ·refine pl_t 31 (?_) (by rfl) ?_ rfl ?_
      rotate_left
      ·go_simp
       try with_reducible rfl
      simp only [nz]
      refine pl_t 32 (?_) (by rfl) ?_ rfl ?_
      rotate_left
      ·go_simp
       try with_reducible rfl
      simp only [nz]
      refine pl_skip (d := some 33) (by rfl) rfl ?_
      simp only [nz]
      refine pl_skip (d := some 34) (by rfl) rfl ?_
      simp only [nz]
      refine pl_skip (d := some 35) (by rfl) rfl ?_
      simp only [nz]
      refine pl_skip (d := some 36) (by rfl) rfl ?_
      simp only [nz]
      refine pl_t 37 (?_) (by rfl) ?_ rfl ?_
      rotate_left
      ·go_simp
       try with_reducible rfl
      simp only [nz]
      refine pl_nil ?_
      have HF : Hid (LightK x w (.returned (.bool false)) w9) := hide ⟨false, rfl, hB5.trans (HS.mono hB5.size), fun h => by cases h⟩
      go_wp2_with fail
      go_ret
      exact HF.out
    ·refine pl_t 25 (?_) (by rfl) ?_ rfl ?_
     rotate_left
     ·go_simp
      try with_reducible rfl
     simp only [nz]
     refine pl_t 26 (?_) (by rfl) ?_ rfl ?_
     rotate_left
     ·go_simp
      try with_reducible rfl
     simp only [nz]
     refine pl_skip (d := some 27) (by rfl) rfl ?_
     simp only [nz]
     refine pl_skip (d := some 28) (by rfl) rfl ?_
     simp only [nz]
     refine pl_skip (d := some 29) (by rfl) rfl ?_
     simp only [nz]
     refine pl_skip (d := some 30) (by rfl) rfl ?_
     simp only [nz]
     refine pl_t 31 (?_) (by rfl) ?_ rfl ?_
     rotate_left
     ·go_simp
      try with_reducible rfl
     simp only [nz]
     refine pl_t 32 (?_) (by rfl) ?_ rfl ?_
     rotate_left
     ·go_simp
      try with_reducible rfl
     simp only [nz]
     refine pl_skip (d := some 33) (by rfl) rfl ?_
     simp only [nz]
     refine pl_skip (d := some 34) (by rfl) rfl ?_
     simp only [nz]
     refine pl_skip (d := some 35) (by rfl) rfl ?_
     simp only [nz]
     refine pl_skip (d := some 36) (by rfl) rfl ?_
     simp only [nz]
     refine pl_t 37 (?_) (by rfl) ?_ rfl ?_
     rotate_left
     ·go_simp
      try with_reducible rfl
     simp only [nz]
     refine pl_nil ?_
     have HF : Hid (LightK x w (.returned (.bool false)) w9) := hide ⟨false, rfl, hB5.trans (HS.mono hB5.size), fun h => by cases h⟩
     go_wp2_with fail
     go_ret
     exact HF.out
  ·obtain rfl : k = x.xs.length := by omega
   have HF : Hid (LightK x w (.returned (.bool true)) wr) := hide ⟨true, rfl, hBw, fun _ => ⟨hx100, fun r hr => hlk.out r (by rw [List.take_length]; exact hr)⟩⟩
   clear hlk hxx
   go_wp2_with fail
   go_ret
   exact HF.out
end Go.Proofs.YtinndbipomlokaaGreat
