/- Parse (the program's); light; the document's comparison of states; a state's digest, the program's and the document's; the document's bytes; seal.blockOf: a key -/
import Derived.Test.YtnfijfnnpbenfaaGreatDoorJM0
import Derived.Test.YtnfijfnnpbenfaaGreatDoorJM7
import Derived.Test.YtnfijfnnpbenfaaGreatDoorJM5
import Derived.Test.YtnfijfnnpbenfaaGreatDoorJM6
import Derived.Test.YtnfijfnnpbenfaaGreatDoorJM3
import Derived.Test.YtnfijfnnpbenfaaGreatDoorJM4
import Derived.Deep.QuietTactic
import Derived.BigQuiet
import Derived.Test.YtnfijfnnpbenfaaGreatDoorJM2
import Derived.Lib.SlBytesConst
import Derived.Laws.MakeOwn
namespace Go.Proofs.YtnfijfnnpbenfaaGreatDoor
open Go.RowKit
open Sha Tal
set_option linter.unusedVariables false
set_option linter.unusedSimpArgs false
theorem ex_build {P : Program} {o : Oper} {a : Act} {w : World} {t : TypeId} {parts : List (Nat × Operand)} {vs : List (Nat × Value)} {v : Value} (ho : o.op = .build t parts.toArray) (hv : (parts.map fun (x : Nat × Operand) => (x.1, a.eval x.2)) = vs)
  (hr : (Instr.build t vs.toArray).run P w = .ok v w) : (execOp a.eval o).run P w = .ok (.value v) w := by
 subst hv
 have e : Array.map (fun (x : Nat × Operand) => (x.1, a.eval x.2)) parts.toArray = (parts.map fun (x : Nat × Operand) => (x.1, a.eval x.2)).toArray := by simp
 unfold execOp
 simp only [ho]
 rw [show (Instr.build t (Array.map (fun x => match x with | (i, x) => (i, a.eval x)) parts.toArray)) = Instr.build t (parts.map fun (x : Nat × Operand) => (x.1, a.eval x.2)).toArray from congrArg _ e]
 simp only [Sem.run_bind, hr, Result.andThen_ok, Sem.run_pure]
theorem ex_conv {o : Oper} {a : Act} {w w' : World} {x : Operand} {s d : TypeId} {u v : Value} (ho : o.op = .convert s d x) (hx : a.eval x = u) (hc : (convert s d u).run Tryz.prog w = .ok v w') : (execOp a.eval o).run Tryz.prog w = .ok (.value v) w' := by
 unfold execOp
 simp [ho, hx, hc]
def Sp.zero : Sp := ⟨0, 0, 0, zeros32, [], []⟩
def Stt.zero : Stt := ⟨0, 0, 0, zeros32, ⟨none, 0, []⟩, ⟨none, 0, []⟩⟩
theorem Stt.zero_ok : Stt.zero.ok := ⟨by decide, by decide, by decide, by decide, by decide, by decide, by decide, by decide⟩
theorem Stt.zero_at (w : World) : Stt.zero.At w := ⟨RowsAt.none, RowsAt.none⟩
theorem Stt.zero_lo (n : Nat) : Stt.zero.Lo n := ⟨fun b hb => (by cases hb), fun b hb => (by cases hb)⟩
def Sp.good (c : Ld.Cfg) (p : Sp) : Bool := Stt.good c ⟨p.e, p.n, p.c, p.d, ⟨none, 0, p.ws⟩, ⟨none, 0, p.ps⟩⟩
theorem Stt.good_sp (c : Ld.Cfg) (s : Stt) : s.good c = s.sp.good c := rfl
def parseS (c : Ld.Cfg) (zs : List Int) : Sp × Int := if doneE (readS (zs, 0)).2.1 (readS (zs, 0)).2.2 ≠ 0 then (Sp.zero, doneE (readS (zs, 0)).2.1 (readS (zs, 0)).2.2) else if (readS (zs, 0)).1.good c = true then ((readS (zs, 0)).1, 0) else (Sp.zero, 220)
def ParsA (w : World) (p : Sp × Int) (en : Ending) (w' : World) : Prop := ∃ x : Stt, en = .returned (.tuple #[.agg x.cells.toArray, .int .i64 p.2]) ∧ x.sp = p.1 ∧ x.ok ∧ x.At w' ∧ x.Lo w.heap.size ∧ Below w.heap.size w w'
theorem pars_out {w W : World} {A : Nat} {x : Stt} {n : Int} {p : Sp × Int} {qc : List Value} (hq : x.cells = qc) (hA : w.heap.size ≤ A) (hB : Below w.heap.size w W) (hn : n = p.2) (hp : x.sp = p.1) (ho : x.ok) (ha : x.At W) (hl : x.Lo (A + 1)) : ParsA w p (.returned (.tuple #[.agg qc.toArray, .int .i64 n])) (W.setCells A 0 qc) := by
 subst hq hn
 exact ⟨x, rfl, hp, ho, ha.put hl (Nat.lt_succ_self _), hl.mono (by omega), below_sets hA _ _ _ hB⟩
theorem build_s0 (w : World) : (Instr.build 36 #[]).run Tryz.prog w = .ok (.agg Stt.zero.cells.toArray) w := by kernel_rfl
theorem zeroS0 (w : World) : (zeroValue 36).run Tryz.prog w = .ok (.agg Stt.zero.cells.toArray) w := by kernel_rfl
set_option maxRecDepth 100000 in
set_option maxHeartbeats 2000000 in
theorem sparse_any (c : Ld.Cfg) (sb : ByteArray) (w : World) (hs : sb.size ≤ 40000) : Calls Tryz.prog 28 #[.agg (cfgL c).toArray, .string sb] w fun en w' => ParsA w (parseS c (strL sb)) en w' := by
 obtain ⟨zc, hz0, hzl, hz1, hzr, hbn⟩ : ∃ z : List Value, Hid (z = Stt.zero.cells) ∧ z.length = 37 ∧ (∀ v ∈ z, v.oneCell' = true) ∧ (∀ w : World, (zeroValue 36).run Tryz.prog w = .ok (.agg z.toArray) w) ∧ (∀ w : World, (Instr.build 36 #[]).run Tryz.prog w = .ok (.agg z.toArray) w) := ⟨_, hide rfl, Stt.len Stt.zero_ok, Stt.one _, zeroS0, build_s0⟩
 obtain ⟨cap, hcv⟩ : ∃ cap : World → Nat, ∀ w0, ∃ w1, (convert 9 57 (.string sb)).run Tryz.prog w0 = .ok (.slice (some ⟨w0.heap.size, 0, none⟩) (strL sb).length (cap w0)) w1 ∧ RowAt w1 (some ⟨w0.heap.size, 0, none⟩) (strL sb) ∧ Below w0.heap.size w0 w1 := ⟨fun w0 => (bytes_of sb (by omega) w0).choose, fun w0 => (bytes_of sb (by omega) w0).choose_spec⟩
 have hll : (strL sb).length ≤ 40000 := by rw [strL_length]; exact hs
 unfold parseS
 generalize strL sb = zs at hcv hll ⊢
 have cR := fun a cap w0 h0 => read_any a cap zs w0 h0 (by omega)
 have cK := fun R w0 h0 => sread_any R (zs, 0) w0 h0 hll
 generalize readS (zs, 0) = p at cK ⊢
 obtain ⟨sp, rest, er⟩ := p
 simp only at cK ⊢
 have cD := fun R w0 h0 => done_any R rest er w0 h0
 obtain ⟨d, hd⟩ : ∃ d, doneE rest er = d := ⟨_, rfl⟩
 rw [hd]
 simp only [hd] at cD
 clear hd
 obtain ⟨PP, hPP⟩ : ∃ P, Hid ((if d ≠ 0 then (Sp.zero, d) else if sp.good c = true then (sp, 0) else (Sp.zero, 220)) = P) := ⟨_, hide rfl⟩
 rw [hPP.out]
 obtain ⟨hB0, hr0, hs0⟩ := boxed_new w (cfgL c) 23
 have iu := iszCf c
 have cG := fun (x : Stt) w0 h0 h1 => sgood_any c x w0 h0 h1
 have cG : ∀ (x : Stt) w0 (h0 : x.ok) (h1 : x.At w0), Calls Tryz.prog 10 #[.agg (cfgL c).toArray, .agg x.cells.toArray] w0 fun e w' => e = .returned (.bool (x.good c)) ∧ Below w0.heap.size w0 w' := cG
 obtain ⟨u, hu⟩ : ∃ u, Hid (cfgL c = u) := ⟨_, hide rfl⟩
 rw [hu.out] at hB0 hr0 hs0 iu
 simp only [hu.out] at cG ⊢
 go_enter Tryz.func28, Tryz.ntmps28
 go_upto_region 0 with fail
 try simp only [Act.put]
 refine pl_begin ?_
 refine pl_run (d := some 2) (v := .pointer (some ⟨w.heap.size, 0, none⟩)) (w' := w.alloc (.cells u.toArray 23)) (by rfl) (ex_boxR rfl rfl) rfl ?_
 simp only [nz]
 obtain ⟨W0, hW0⟩ : ∃ W, w.alloc (.cells u.toArray 23) = W := ⟨_, rfl⟩
 rw [hW0] at hB0 hr0 hs0 ⊢
 clear hW0
 obtain ⟨hB1, -, hs1⟩ := boxed_new W0 zc 36
 have ht1 := there_newN W0 zc.toArray 36 (n := 37) (by simp [hzl])
 refine pl_run (d := some 4) (v := .pointer (some ⟨W0.heap.size, 0, none⟩)) (w' := W0.alloc (.cells zc.toArray 36)) (by rfl) (ex_alloc rfl (hzr _)) rfl ?_
 simp only [nz]
 refine pl_t 5 (?_) (by rfl) ?_ rfl ?_
 rotate_left
 ·go_simp
  try with_reducible rfl
 simp only [nz]
 refine pl_nil ?_
 obtain ⟨W1, hW1⟩ : ∃ W, W0.alloc (.cells zc.toArray 36) = W := ⟨_, rfl⟩
 rw [hW1] at hB1 hs1 ht1 ⊢
 clear hW1
 have hr1 := range_below hr0 hB1 hs0
 have hB := hB0.trans (hB1.mono (by omega))
 obtain ⟨A, hA⟩ : ∃ X, W0.heap.size = X := ⟨_, rfl⟩
 obtain ⟨C, hC⟩ : ∃ X, w.heap.size = X := ⟨_, rfl⟩
 rw [hA] at hs1 ht1 hs0
 rw [hC] at hs0 hr1
 simp only [hA, hC]
 obtain ⟨wa, hcw, hra, hBa⟩ := hcv W1
 go_upto_region 1 with fail
 try simp only [Act.put]
 refine pl_begin ?_
 refine pl_t 9 (?_) (by rfl) ?_ rfl ?_
 rotate_left
 ·go_simp
  try with_reducible rfl
 simp only [nz]
 refine pl_run (d := some 10) (v := .slice (some ⟨W1.heap.size, 0, none⟩) zs.length (cap W1)) (w' := wa) (by rfl) (ex_conv rfl rfl hcw) rfl ?_
 simp only [nz]
 refine pl_call (d := some 11) (by rfl) (by go_simp; first | done | exact ⟨rfl, rfl⟩ | with_reducible rfl) rfl ?_
 refine (cR _ _ wa hra).mono ?_
 rintro _ w2 ⟨R, rfl, hRw, S2, hb2⟩
 refine ⟨_, rfl, ?_⟩
 simp only [nz]
 refine pl_t 6 (?_) (by rfl) ?_ rfl ?_
 rotate_left
 ·go_simp
  try with_reducible rfl
 simp only [nz]
 refine pl_nil ?_
 have hb12 := hBa.trans (hb2.mono hBa.size)
 have hT2 := there_below ht1 hb12 hs1
 have hr2 := range_below hr1 hb12 (by omega)
 have hB2 := hB.trans (hb12.mono hB.size)
 have hs2 := Nat.lt_of_lt_of_le hs1 hb12.size
 have hRA : A < R := by have := hBa.size; omega
 have hR2 : R < w2.heap.size := S2.1.1
 clear hcv hcw hra cR hBa hb2 hb12 ht1 hr1 hB hB0 hB1 hr0
 go_upto_region 2 with fail
 try simp only [Act.put]
 refine pl_begin ?_
 refine pl_t 12 (?_) (by rfl) ?_ rfl ?_
 rotate_left
 ·go_simp
  try with_reducible rfl
 simp only [nz]
 refine pl_call (d := some 13) (by rfl) (by go_simp; first | done | exact ⟨rfl, rfl⟩ | with_reducible rfl) rfl ?_
 refine (cK R w2 S2).mono ?_
 rintro _ w3 ⟨x, rfl, hxp, hxo, hxa, hxl, S3, hg3⟩
 refine ⟨_, rfl, ?_⟩
 simp only [nz]
 have hql : x.cells.length = 37 := Stt.len hxo
 have hq1 := Stt.one x
 have hiq : (Tryz.prog.info? 36).map (·.size) = some x.cells.length := by rw [hql]; exact iszSt
 refine pl_run (d := some 7) (v := .pointer (some ⟨w3.heap.size, 0, none⟩)) (w' := w3.alloc (.cells zc.toArray 36)) (by rfl) (ex_alloc rfl (hzr _)) rfl ?_
 simp only [nz]
 refine pl_store (w' := (w3.alloc (.cells zc.toArray 36)).setCells w3.heap.size 0 x.cells) (by rfl) (ex_put (cs := x.cells.toArray) rfl rfl rfl (there_newN _ _ _ (by simp [hzl, hql])) (by simpa using hiq) (all_one hq1)) rfl ?_
 refine pl_nil ?_
 obtain ⟨r4, hF2, hF3, -⟩ := fresh_store w3 zc.toArray 36 x.cells (by simp [hzl, hql])
 have hne : (some A : Option Nat) ≠ some R := by intro q; injection q with q; omega
 have hnc : (some C : Option Nat) ≠ some R := by intro q; injection q with q; omega
 have hT3 := there_blk hT2 (hg3.block A hs2 hne)
 have hr3 := range_blk hr2 (hg3.block C (by omega) hnc)
 have hB3 : Below w.heap.size w w3 := ⟨hg3.os.trans hB2.os, hg3.tape.trans hB2.tape, hg3.output.trans hB2.output, Nat.le_trans hB2.size hg3.size, fun i hi => (hg3.block i (Nat.lt_of_lt_of_le hi hB2.size) (by intro q; injection q with q; omega)).trans (hB2.block i hi)⟩
 have hs3 : A < w3.heap.size := Nat.lt_of_lt_of_le hs2 hg3.size
 have hT4 := there_below hT3 hF2 hs3
 have hr4 := range_below hr3 hF2 (by omega)
 have hB4 := hB3.trans (hF2.mono hB3.size)
 have S4 := S3.below hF2
 have hxa4 := hxa.below hF2
 obtain ⟨X, hX⟩ : ∃ X, w3.heap.size = X := ⟨_, rfl⟩
 simp only [hX] at r4 hF3 hs3 hT4 hr4 hB4 S4 hxa4 ⊢
 obtain ⟨w4, hw4⟩ : ∃ W, (w3.alloc (.cells zc.toArray 36)).setCells X 0 x.cells = W := ⟨_, rfl⟩
 simp only [hw4] at r4 hF3 hT4 hr4 hB4 S4 hxa4 ⊢
 have hX4 : X < w4.heap.size := by omega
 have HCC : Hid (x.sp = sp ∧ x.ok ∧ x.Lo (A + 1)) := hide ⟨hxp, hxo, hxl.mono (by omega)⟩
 have hgx : x.good c = sp.good c := by rw [Stt.good_sp, hxp]
 have cg := cG x
 clear hF2 hF3 hT3 hB3 hB2 hxp hxl S3 hg3 hw4 hX hne hnc hT2 hr2 hr3 S2 hs1 hs2 hRw cK hzr cG hxa
 rw [hgx] at cg
 clear hgx
 go_upto_region 3 with fail
 try simp only [Act.put]
 refine pl_begin ?_
 refine pl_t 14 (?_) (by rfl) ?_ rfl ?_
 rotate_left
 ·go_simp
  try with_reducible rfl
 simp only [nz]
 refine pl_call (d := some 15) (by rfl) (by go_simp; first | done | exact ⟨rfl, rfl⟩ | with_reducible rfl) rfl ?_
 refine (cD R w4 S4).mono ?_
 rintro _ w5 ⟨rfl, hx⟩
 obtain rfl := hx.symm
 clear hx
 refine ⟨_, rfl, ?_⟩
 simp only [nz]
 refine pl_t 8 (?_) (by rfl) ?_ rfl ?_
 rotate_left
 ·go_simp
  try with_reducible rfl
 simp only [nz]
 refine pl_nil ?_
 clear cD S4
 go_upto_region 4 with fail
 by_cases hd : d = 0
 rotate_left
 ·have hdb : (d != 0) = true := by simpa using hd
  have HP : Hid (PP = (Sp.zero, d)) := hide (by rw [← hPP.out, if_pos hd])
  clear hPP hd cg hr4 iu
  try simp only [Act.put]
  refine pl_begin ?_
  refine pl_t 16 (?_) (by rfl) ?_ rfl ?_
  rotate_left
  ·go_simp
   try with_reducible rfl
  simp only [nz]
  refine pl_t 17 (.bool true) (by rfl) (by go_simp <;> (try simp [*])) rfl ?_
  simp only [nz]
  refine pl_nil ?_
  go_upto_region 5 with fail
  try simp only [Act.put]
  refine pl_begin ?_
  refine pl_t 18 (.agg zc.toArray) (by rfl) (ex_build (parts := []) rfl rfl (hbn _)) rfl ?_
  simp only [nz]
  refine pl_t 19 (?_) (by rfl) ?_ rfl ?_
  rotate_left
  ·go_simp
   try with_reducible rfl
  simp only [nz]
  refine pl_store (w' := w4.setCells A 0 zc) (by rfl) (ex_put (cs := zc.toArray) rfl rfl rfl (by simpa [hzl] using hT4) (by simpa [hzl] using iszSt) (all_one hz1)) rfl ?_
  refine pl_t 5 (?_) (by rfl) ?_ rfl ?_
  rotate_left
  ·go_simp
   try with_reducible rfl
  simp only [nz]
  refine pl_nil ?_
  have hrs := run_loadVar_mid (P := Tryz.prog) (w4.setCells A 0 zc) A 0 36 zc _ (World.rangeAt_setCells_same w4 A 0 zc (by rw [hzl]; exact hT4)) Tryz.underlying36 rfl (by rw [hzl]; exact iszSt)
  have HF : Hid (ParsA w PP (.returned (.tuple #[.agg zc.toArray, .int .i64 d])) (w4.setCells A 0 zc)) := hide (by
   rw [HP.out]
   exact pars_out (x := Stt.zero) hz0.out.symm (by omega) hB4 rfl rfl Stt.zero_ok (Stt.zero_at _) (Stt.zero_lo _))
  clear r4 hB4 hT4 hX4 HCC hxa4
  go_wp2_with fail
  refine bodyPost_ret (results_ct rfl _ _ _ rfl hrs) rfl ?_
  exact HF.out
 subst hd
 have gB : sp.good c = true ∨ sp.good c = false := by cases sp.good c <;> simp
 try simp only [Act.put]
 refine pl_begin ?_
 refine pl_t 16 (?_) (by rfl) ?_ rfl ?_
 rotate_left
 ·go_simp
  try with_reducible rfl
 simp only [nz]
 refine pl_t 17 (.bool false) (by rfl) (by go_simp) rfl ?_
 simp only [nz]
 refine pl_nil ?_
 obtain ⟨q, hq⟩ : ∃ q, Hid (x.cells = q) := ⟨_, hide rfl⟩
 rw [hq.out] at r4 hql hq1 hiq
 simp only [hq.out] at cg
 go_upto_region 6 with fail
 try simp only [Act.put]
 refine pl_begin ?_
 refine pl_t 20 (.agg u.toArray) (by rfl) (ex_mid rfl rfl hr4 Tryz.underlying23 rfl iu) rfl ?_
 simp only [nz]
 refine pl_t 21 (.agg q.toArray) (by rfl) (ex_mid rfl rfl r4 Tryz.underlying36 rfl hiq) rfl ?_
 simp only [nz]
 refine pl_call (d := some 22) (by rfl) (by go_simp; first | done | exact ⟨rfl, rfl⟩ | with_reducible rfl) rfl ?_
 refine (cg w4 hxo hxa4).mono ?_
 rintro _ w5 ⟨rfl, hb5⟩
 refine ⟨_, rfl, ?_⟩
 simp only [nz]
 have hT5 := there_below hT4 hb5 (by omega)
 have hr5 := range_below r4 hb5 hX4
 have hB5 := hB4.trans (hb5.mono hB4.size)
 have hxa5 := hxa4.below hb5
 clear hT4 r4 hB4 hxa4 hb5 cg hr4
 rcases gB with gB | gB
 ·have HP : Hid (PP = (sp, 0)) := hide (by rw [← hPP.out, if_neg (by simp), if_pos gB])
  refine pl_t 23 (.bool false) (by rfl) (by go_simp <;> (try simp [*])) rfl ?_
  simp only [nz]
  refine pl_nil ?_
  clear hPP gB
  go_upto_region 8 with fail
  try simp only [Act.put]
  refine pl_begin ?_
  refine pl_t 25 (.agg q.toArray) (by rfl) (ex_mid rfl rfl hr5 Tryz.underlying36 rfl hiq) rfl ?_
  simp only [nz]
  refine pl_store (w' := w5.setCells A 0 q) (by rfl) (ex_put (cs := q.toArray) rfl rfl rfl (by simpa [hql] using hT5) (by simpa using hiq) (all_one hq1)) rfl ?_
  refine pl_t 5 (?_) (by rfl) ?_ rfl ?_
  rotate_left
  ·go_simp
   try with_reducible rfl
  simp only [nz]
  refine pl_nil ?_
  have hrs := run_loadVar_mid (P := Tryz.prog) (w5.setCells A 0 q) A 0 36 q _ (World.rangeAt_setCells_same w5 A 0 q (by rw [hql]; exact hT5)) Tryz.underlying36 rfl (by rw [hql]; exact iszSt)
  have HF : Hid (ParsA w PP (.returned (.tuple #[.agg q.toArray, .int .i64 0])) (w5.setCells A 0 q)) := hide (by
   rw [HP.out]
   exact pars_out (x := x) hq.out (by omega) hB5 rfl HCC.out.1 HCC.out.2.1 hxa5 HCC.out.2.2)
  clear hr5 hB5 hT5 hX4 HCC hxa5
  go_wp2_with fail
  refine bodyPost_ret (results_ct rfl _ _ _ rfl hrs) rfl ?_
  exact HF.out
 ·have HP : Hid (PP = (Sp.zero, 220)) := hide (by rw [← hPP.out, if_neg (by simp), if_neg (by rw [gB]; simp)])
  refine pl_t 23 (.bool true) (by rfl) (by go_simp <;> (try simp [*])) rfl ?_
  simp only [nz]
  refine pl_nil ?_
  clear hPP gB
  go_upto_region 7 with fail
  try simp only [Act.put]
  refine pl_begin ?_
  refine pl_t 24 (.agg zc.toArray) (by rfl) (ex_build (parts := []) rfl rfl (hbn _)) rfl ?_
  simp only [nz]
  refine pl_store (w' := w5.setCells A 0 zc) (by rfl) (ex_put (cs := zc.toArray) rfl rfl rfl (by simpa [hzl] using hT5) (by simpa [hzl] using iszSt) (all_one hz1)) rfl ?_
  refine pl_t 5 (?_) (by rfl) ?_ rfl ?_
  rotate_left
  ·go_simp
   try with_reducible rfl
  simp only [nz]
  refine pl_nil ?_
  have hrs := run_loadVar_mid (P := Tryz.prog) (w5.setCells A 0 zc) A 0 36 zc _ (World.rangeAt_setCells_same w5 A 0 zc (by rw [hzl]; exact hT5)) Tryz.underlying36 rfl (by rw [hzl]; exact iszSt)
  have HF : Hid (ParsA w PP (.returned (.tuple #[.agg zc.toArray, .int .i64 220])) (w5.setCells A 0 zc)) := hide (by
   rw [HP.out]
   exact pars_out (x := Stt.zero) hz0.out.symm (by omega) hB5 rfl rfl Stt.zero_ok (Stt.zero_at _) (Stt.zero_lo _))
  clear hr5 hB5 hT5 hX4 HCC hxa5
  go_wp2_with fail
  refine bodyPost_ret (results_ct rfl _ _ _ rfl hrs) rfl ?_
  exact HF.out
instance : Inhabited Stt := ⟨Stt.zero⟩
theorem sameL_iff {α : Type} {B : α → α → Bool} (h : ∀ x y, B x y = true ↔ x = y) : ∀ xs ys : List α, sameL B xs ys = true ↔ xs = ys
  | [], [] => by simp [sameL]
  | x :: xs, y :: ys => by simp [sameL, h, sameL_iff h xs ys]
  | [], _ :: _ => by simp [sameL]
  | _ :: _, [] => by simp [sameL]
theorem two_boxG (q q' : List Value) (t : TypeId) (w : World) : ((w.alloc (.cells q.toArray t)).alloc (.cells q'.toArray t)).rangeAt w.heap.size 0 q ∧ ((w.alloc (.cells q.toArray t)).alloc (.cells q'.toArray t)).rangeAt (w.heap.size + 1) 0 q' ∧ Below w.heap.size w ((w.alloc (.cells q.toArray t)).alloc (.cells q'.toArray t)) ∧ w.heap.size + 2 ≤ ((w.alloc (.cells q.toArray t)).alloc (.cells q'.toArray t)).heap.size := by
 have hB : Below w.heap.size w (w.alloc (.cells q.toArray t)) := (Below.refl _ _).alloc (Nat.le_refl _) _
 have hB2 : Below (w.alloc (.cells q.toArray t)).heap.size (w.alloc (.cells q.toArray t)) ((w.alloc (.cells q.toArray t)).alloc (.cells q'.toArray t)) := (Below.refl _ _).alloc (Nat.le_refl _) _
 have h1 := range_new w q.toArray t
 have h2 := range_new (w.alloc (.cells q.toArray t)) q'.toArray t
 rw [World.size_alloc] at h2
 exact ⟨range_below (by simpa using h1) hB2 (by simp), by simpa using h2, hB.trans (hB2.mono (by simp)), by simp⟩
theorem fldW : (Tryz.prog.fieldsOf 79).toList.map (fun f => (f.name, f.type, f.offset)) = [("Base", 3, 0), ("Bits", 77, 1)] := by kernel_rfl
theorem undW : Tryz.prog.underlying 79 = some (.struct (Tryz.prog.fieldsOf 79)) := by kernel_rfl
theorem sihW : Tryz.prog.stoodInHeld 79 = false := by kernel_rfl
theorem Wd.B_iff {x y : Wd} : Wd.B x y = true ↔ x = y := by
 cases x
 cases y
 simp [Wd.B]
 intro _
 omega
theorem part_intV1 (w : World) (q : List Value) (i : Nat) (c : Int) (h : q[i]? = some (.int .i64 c)) : (part 3 q.toArray i).run Tryz.prog w = .ok (.int .i64 c) w := by
 simp [part, isAgg, run_underlying Tryz.underlying3, h]
theorem part_u64V (w : World) (q : List Value) (i : Nat) (c : Int) (h : q[i]? = some (.int .u64 c)) : (part 77 q.toArray i).run Tryz.prog w = .ok (.int .u64 c) w := by
 simp [part, isAgg, run_underlying Tryz.underlying77, h]
theorem Wd.eqIn (x y : Wd) (d : Nat) (w : World) :
  (Op.equalIn (d + 2 + 1) 79 (.agg x.cells.toArray) (.agg y.cells.toArray)).run Tryz.prog w = .ok (Wd.B x y) w := by
 rw [run_equalIn_struct w (d + 2) 79 _ _ undW sihW]
 have hf := fldW
 generalize (Tryz.prog.fieldsOf 79).toList = fs at hf
 obtain ⟨f0, f1, rfl⟩ : ∃ f0 f1, fs = [f0, f1] := by
  rcases fs with _ | ⟨f0, _ | ⟨f1, _ | ⟨f2, fs⟩⟩⟩ <;> simp at hf
  exact ⟨f0, f1, rfl⟩
 simp only [List.map_cons, List.map_nil, List.cons.injEq, Prod.mk.injEq, and_true] at hf
 obtain ⟨⟨a0, b0, d0⟩, ⟨a1, b1, d1⟩⟩ := hf
 have p0 := part_intV1 w x.cells 0 x.b rfl
 have q0 := part_intV1 w y.cells 0 y.b rfl
 have p1 := part_u64V w x.cells 1 x.m rfl
 have q1 := part_u64V w y.cells 1 y.m rfl
 have eI := fun a b => run_equalIn_int (P := Tryz.prog) w (d + 1) 3 .i64 .i64 a b Tryz.underlying3
 have eU := fun a b => run_equalIn_int (P := Tryz.prog) w (d + 1) 77 .u64 .u64 a b Tryz.underlying77
 unfold Wd.B
 generalize x.cells.toArray = q at *
 generalize y.cells.toArray = q' at *
 obtain ⟨D, hD⟩ : ∃ D, d + 1 + 1 = D := ⟨_, rfl⟩
 have n0 : ¬ ("Base" = "_") := by decide
 have n1 : ¬ ("Bits" = "_") := by decide
 simp only [Op.eqFields, a0, b0, d0, a1, b1, d1, ne_eq, n0, n1, not_false_eq_true, if_true]
 rw [show d + 2 = d + 1 + 1 from rfl, hD]
 rw [hD] at eI eU
 clear hD
 simp only [Sem.run_bind, p0, q0, Result.andThen_ok, eI]
 cases (x.b == y.b)
 ·simp only [Bool.not_false, if_true, Sem.run_pure, Bool.false_and]
 ·simp only [Bool.not_true, Bool.false_eq_true, if_false, Sem.run_bind, p1, q1, Result.andThen_ok, eU, Bool.true_and]
  cases ((x.m : Int) == (y.m : Int))
  ·simp only [Bool.not_false, if_true, Sem.run_pure]
  ·simp only [Bool.not_true, Bool.false_eq_true, if_false, Sem.run_pure]
theorem Wd.eq10 (x y : Wd) (hx : x.ok) (hy : y.ok) (w : World) : (Op.equalIn 10000 79 (.agg x.cells.toArray) (.agg y.cells.toArray)).run Tryz.prog w = .ok (Wd.B x y) w := Wd.eqIn x y 9997 w
set_option maxRecDepth 100000 in
set_option maxHeartbeats 2000000 in
theorem xwins_any (a : Option Addr) (cap : Nat) (rs : List Wd) (a' : Option Addr) (cap' : Nat) (rs' : List Wd) (w : World) (h : RowsAt WdE w a rs) (h' : RowsAt WdE w a' rs') :
  Calls Tryz.prog 32 #[.slice a rs.length cap, .slice a' rs'.length cap'] w fun e w' => ((e = .returned (.bool true) ∧ rs = rs') ∨ (e = .returned (.bool false) ∧ ¬ rs = rs')) ∧ Below w.heap.size w w' := by
 have hml := h.1
 have hml' := h'.1
 unfold maxLen at hml hml'
 have hall := h.2.1
 have hall' := h'.2.1
 by_cases hlen : rs.length = rs'.length
 rotate_left
 ·have e0 : ((rs.length : Int) == rs'.length) = false := by simp; omega
  have HL := hide hlen
  clear hlen
  go_enter Tryz.func32, Tryz.ntmps32
  go_wp2
  go_ret
  exact ⟨.inr ⟨rfl, fun hh => HL.out (by rw [hh])⟩, Below.refl _ _⟩
 ·have e0 : ((rs.length : Int) == rs'.length) = true := by simp; omega
  have HL := hide hlen
  clear hlen
  go_enter Tryz.func32, Tryz.ntmps32
  go_wp2
  go_loopw [5] (fun iv wr => ∃ k : Nat, k ≤ rs.length ∧ iv = .int .i64 (k : Int) ∧ Hid (∀ j (hj : j < rs.length) (hj' : j < rs'.length), j < k → rs[j] = rs'[j]) ∧ Below w.heap.size w wr) (fun iv _ => rs.length - (intOf iv).toNat)
  case atStart => exact ⟨0, by omega, rfl, hide (fun j _ _ hj => absurd hj (by omega)), Below.refl _ _⟩
  case round =>
   clear e0
   obtain ⟨k, hk, rfl, HM, hB⟩ := hrel
   by_cases hlt : k < rs.length
   ·have k1 : (k : Int) < rs.length := by omega
    have hlt' : k < rs'.length := by have := HL.out; omega
    have k1' : (k : Int) < rs'.length := by omega
    obtain ⟨b, off, rfl, hb, hre⟩ := (h.below hB).elem k hlt
    have hre : wr.rangeAt b (off + k * 2) rs[k].cells := hre
    obtain ⟨b', off', rfl, hb', hre'⟩ := (h'.below hB).elem k hlt'
    have hre' : wr.rangeAt b' (off' + k * 2) rs'[k].cells := hre'
    obtain ⟨r, hr⟩ : ∃ r, Hid (rs[k] = r) := ⟨_, hide rfl⟩
    obtain ⟨r', hr'⟩ : ∃ r', Hid (rs'[k] = r') := ⟨_, hide rfl⟩
    have hok : r.ok := by rw [← hr.out]; exact hall _ (List.getElem_mem hlt)
    have hok' : r'.ok := by rw [← hr'.out]; exact hall' _ (List.getElem_mem hlt')
    rw [hr.out] at hre
    rw [hr'.out] at hre'
    have HM' : Hid (r = r' → ∀ j (hj : j < rs.length) (hj' : j < rs'.length), j < k + 1 → rs[j] = rs'[j]) := hide (fun hp j hj hj' hjk => by
     by_cases e : j = k
     ·subst e; rw [hr.out, hr'.out]; exact hp
     ·exact HM.out j hj hj' (by omega))
    have HN' : Hid (r ≠ r' → rs ≠ rs') := hide (fun hp he => by
     apply hp
     rw [← hr.out, ← hr'.out]
     subst he
     rfl)
    clear hr hr' HM
    have hiu : (Tryz.prog.info? 79).map (·.size) = some r.cells.length := by rw [show r.cells.length = 2 from WdE.len r hok]; kernel_rfl
    have hiu' : (Tryz.prog.info? 79).map (·.size) = some r'.cells.length := by rw [show r'.cells.length = 2 from WdE.len r' hok']; kernel_rfl
    have hne := fun w0 => Wd.eq10 r r' hok hok' w0
    obtain ⟨u, hu⟩ : ∃ u, Hid (r.cells = u) := ⟨_, hide rfl⟩
    obtain ⟨u', hu'⟩ : ∃ u', Hid (r'.cells = u') := ⟨_, hide rfl⟩
    rw [hu.out] at hre hiu
    rw [hu'.out] at hre' hiu'
    simp only [hu.out, hu'.out] at hne
    clear hu hu' hok hok'
    by_cases hrr : r = r'
    ·have e1 : Wd.B r r' = true := Wd.B_iff.2 hrr
     rw [e1] at hne
     have HR := hide hrr
     clear hrr e1
     go_upto_region 6 with fail
     obtain ⟨w5, hw5⟩ : ∃ w5, wr.drew = w5 := ⟨_, rfl⟩
     have hB5 : Below w.heap.size w w5 := by rw [← hw5]; exact hB.drew
     have hre5 : w5.rangeAt b (off + k * 2) u := by rw [← hw5]; exact (World.rangeAt_drew _ _ _ _).2 hre
     have hre5' : w5.rangeAt b' (off' + k * 2) u' := by rw [← hw5]; exact (World.rangeAt_drew _ _ _ _).2 hre'
     have hb5 : b < w5.heap.size := by rw [← hw5]; exact hb
     have hb5' : b' < w5.heap.size := by rw [← hw5]; exact hb'
     refine hs_begin (S := (Below w5.heap.size w5)) 9 rfl (by kernel_rfl) ?_
     rw [hw5]
     clear hw5 hB hre hre' hb hb'
     have hS : (Below w5.heap.size w5) w5 := Below.refl _ _
     refine hs_t 0 17 (?_) rfl (by kernel_rfl) (by kernel_rfl) (by kernel_rfl) (by rfl) ?_ hS rfl ?_
     rotate_left
     ·intro w' hw
      go_simp
      try with_reducible rfl
     simp only [nz]
     refine hs_t 1 18 (?_) rfl (by kernel_rfl) (by kernel_rfl) (by kernel_rfl) (by rfl) ?_ hS rfl ?_
     rotate_left
     ·intro w' hw
      go_simp
      try with_reducible rfl
     simp only [nz]
     refine hs_t 2 19 (?_) rfl (by kernel_rfl) (by kernel_rfl) (by kernel_rfl) (by rfl) ?_ hS rfl ?_
     rotate_left
     ·intro w' hw
      go_simp
      try with_reducible rfl
     simp only [nz]
     refine hs_t 3 20 (.agg u.toArray) rfl (by kernel_rfl) (by kernel_rfl) (by kernel_rfl) (by rfl) (fun w' hw => exec_loadC rfl rfl (run_loadVar_mid (P := Tryz.prog) w' b (off + k * 2) 79 u _ (range_below hre5 hw hb5) Tryz.underlying79 rfl hiu)) hS rfl ?_
     simp only [nz]
     refine hs_t 4 21 (?_) rfl (by kernel_rfl) (by kernel_rfl) (by kernel_rfl) (by rfl) ?_ hS rfl ?_
     rotate_left
     ·intro w' hw
      go_simp
      try with_reducible rfl
     simp only [nz]
     refine hs_t 5 22 (?_) rfl (by kernel_rfl) (by kernel_rfl) (by kernel_rfl) (by rfl) ?_ hS rfl ?_
     rotate_left
     ·intro w' hw
      go_simp
      try with_reducible rfl
     simp only [nz]
     refine hs_t 6 23 (?_) rfl (by kernel_rfl) (by kernel_rfl) (by kernel_rfl) (by rfl) ?_ hS rfl ?_
     rotate_left
     ·intro w' hw
      go_simp
      try with_reducible rfl
     simp only [nz]
     refine hs_t 7 24 (.agg u'.toArray) rfl (by kernel_rfl) (by kernel_rfl) (by kernel_rfl) (by rfl) (fun w' hw => exec_loadC rfl rfl (run_loadVar_mid (P := Tryz.prog) w' b' (off' + k * 2) 79 u' _ (range_below hre5' hw hb5') Tryz.underlying79 rfl hiu')) hS rfl ?_
     simp only [nz]
     refine hs_t 8 25 (.bool false) rfl (by kernel_rfl) (by kernel_rfl) (by kernel_rfl) (by rfl) (fun w' hw => by have hc := hne w'; go_simp) hS rfl ?_
     simp only [nz]
     refine hs_done (by kernel_rfl) ?_
     go_wp2
     go_roundw
     case rel => exact ⟨k + 1, by omega, by go_num, hide (HM'.out HR.out), hB5⟩
     case measure => simp [intOf]; omega
    ·have e1 : Wd.B r r' = false := by
      cases hx : Wd.B r r'
      ·rfl
      ·exact absurd (Wd.B_iff.1 hx) hrr
     rw [e1] at hne
     have HR := hide hrr
     clear hrr e1
     go_upto_region 6 with fail
     obtain ⟨w5, hw5⟩ : ∃ w5, wr.drew = w5 := ⟨_, rfl⟩
     have hB5 : Below w.heap.size w w5 := by rw [← hw5]; exact hB.drew
     have hre5 : w5.rangeAt b (off + k * 2) u := by rw [← hw5]; exact (World.rangeAt_drew _ _ _ _).2 hre
     have hre5' : w5.rangeAt b' (off' + k * 2) u' := by rw [← hw5]; exact (World.rangeAt_drew _ _ _ _).2 hre'
     have hb5 : b < w5.heap.size := by rw [← hw5]; exact hb
     have hb5' : b' < w5.heap.size := by rw [← hw5]; exact hb'
     refine hs_begin (S := (Below w5.heap.size w5)) 9 rfl (by kernel_rfl) ?_
     rw [hw5]
     clear hw5 hB hre hre' hb hb'
     have hS : (Below w5.heap.size w5) w5 := Below.refl _ _
     refine hs_t 0 17 (?_) rfl (by kernel_rfl) (by kernel_rfl) (by kernel_rfl) (by rfl) ?_ hS rfl ?_
     rotate_left
     ·intro w' hw
      go_simp
      try with_reducible rfl
     simp only [nz]
     refine hs_t 1 18 (?_) rfl (by kernel_rfl) (by kernel_rfl) (by kernel_rfl) (by rfl) ?_ hS rfl ?_
     rotate_left
     ·intro w' hw
      go_simp
      try with_reducible rfl
     simp only [nz]
     refine hs_t 2 19 (?_) rfl (by kernel_rfl) (by kernel_rfl) (by kernel_rfl) (by rfl) ?_ hS rfl ?_
     rotate_left
     ·intro w' hw
      go_simp
      try with_reducible rfl
     simp only [nz]
     refine hs_t 3 20 (.agg u.toArray) rfl (by kernel_rfl) (by kernel_rfl) (by kernel_rfl) (by rfl) (fun w' hw => exec_loadC rfl rfl (run_loadVar_mid (P := Tryz.prog) w' b (off + k * 2) 79 u _ (range_below hre5 hw hb5) Tryz.underlying79 rfl hiu)) hS rfl ?_
     simp only [nz]
     refine hs_t 4 21 (?_) rfl (by kernel_rfl) (by kernel_rfl) (by kernel_rfl) (by rfl) ?_ hS rfl ?_
     rotate_left
     ·intro w' hw
      go_simp
      try with_reducible rfl
     simp only [nz]
     refine hs_t 5 22 (?_) rfl (by kernel_rfl) (by kernel_rfl) (by kernel_rfl) (by rfl) ?_ hS rfl ?_
     rotate_left
     ·intro w' hw
      go_simp
      try with_reducible rfl
     simp only [nz]
     refine hs_t 6 23 (?_) rfl (by kernel_rfl) (by kernel_rfl) (by kernel_rfl) (by rfl) ?_ hS rfl ?_
     rotate_left
     ·intro w' hw
      go_simp
      try with_reducible rfl
     simp only [nz]
     refine hs_t 7 24 (.agg u'.toArray) rfl (by kernel_rfl) (by kernel_rfl) (by kernel_rfl) (by rfl) (fun w' hw => exec_loadC rfl rfl (run_loadVar_mid (P := Tryz.prog) w' b' (off' + k * 2) 79 u' _ (range_below hre5' hw hb5') Tryz.underlying79 rfl hiu')) hS rfl ?_
     simp only [nz]
     refine hs_t 8 25 (.bool true) rfl (by kernel_rfl) (by kernel_rfl) (by kernel_rfl) (by rfl) (fun w' hw => by have hc := hne w'; go_simp) hS rfl ?_
     simp only [nz]
     refine hs_done (by kernel_rfl) ?_
     go_wp2
     go_ret
     exact ⟨.inr ⟨rfl, fun hh => HN'.out HR.out hh⟩, hB5⟩
   ·have k1 : ¬ (k : Int) < rs.length := by omega
    have HE : Hid (rs = rs') := hide (List.ext_getElem HL.out (fun j hj hj' => HM.out j hj hj' (by omega)))
    clear HM
    go_wp2
    go_ret
    exact ⟨.inl ⟨rfl, HE.out⟩, hB⟩
theorem xwins_anyB (a : Option Addr) (cap : Nat) (rs : List Wd) (a' : Option Addr) (cap' : Nat) (rs' : List Wd) (w : World) (h : RowsAt WdE w a rs) (h' : RowsAt WdE w a' rs') :
  Calls Tryz.prog 32 #[.slice a rs.length cap, .slice a' rs'.length cap'] w fun e w' => e = .returned (.bool (sameL Wd.B rs rs')) ∧ Below w.heap.size w w' := by
 refine (xwins_any a cap rs a' cap' rs' w h h').mono ?_
 rintro e w1 ⟨hc, hb⟩
 have I := sameL_iff (fun x y => Wd.B_iff (x := x) (y := y)) rs rs'
 refine ⟨?_, hb⟩
 rcases hc with ⟨rfl, he⟩ | ⟨rfl, he⟩
 ·rw [I.2 he]
 ·cases hq : sameL Wd.B rs rs'
  ·rfl
  ·exact absurd (I.1 hq) he
set_option maxRecDepth 100000 in
set_option maxHeartbeats 1000000 in
theorem eqInts_any (x y : Sl Int) (w : World) (hx : x.At PnE w) (hy : y.At PnE w) : Calls Tryz.prog 33 #[x.val, y.val] w fun e w' => e = .returned (.bool (decide (x.xs = y.xs))) ∧ Below w.heap.size w w' := by
 obtain ⟨a, cap, xs⟩ := x
 obtain ⟨b, cap', ys⟩ := y
 simp only [Sl.val]
 have hml : xs.length ≤ maxLen := hx.1
 have hml' : ys.length ≤ maxLen := hy.1
 unfold maxLen at hml hml'
 obtain ⟨g, hg⟩ : ∃ g, Hid (decide (xs = ys) = g) := ⟨_, hide rfl⟩
 rw [hg.out]
 go_enter Tryz.func33, Tryz.ntmps33
 by_cases hlen : xs.length = ys.length
 rotate_left
 ·obtain rfl : g = false := hg.out.symm.trans (decide_eq_false (fun q => hlen (by rw [q])))
  have e0 : ((xs.length : Int) != (ys.length : Int)) = true := by simp; omega
  clear hg hlen hx hy
  go_wp2
  go_ret
  exact ⟨rfl, Below.refl _ _⟩
 have e0 : ((xs.length : Int) != (ys.length : Int)) = false := by simp; omega
 have HL := hide hlen
 clear hlen
 go_wp2
 clear e0
 go_loopw [5] (fun kv wr => ∃ k : Nat, k ≤ xs.length ∧ kv = .int .i64 (k : Int) ∧ Hid (∀ j (hj : j < xs.length) (hj' : j < ys.length), j < k → xs[j] = ys[j]) ∧ Below w.heap.size w wr) (fun kv _ => xs.length - (intOf kv).toNat)
 case atStart => exact ⟨0, by omega, rfl, hide (fun j _ _ hj => absurd hj (by omega)), Below.refl _ _⟩
 case round =>
  obtain ⟨k, hk, rfl, HM, hB⟩ := hrel
  by_cases hlt : k < xs.length
  ·have k1 : (k : Int) < xs.length := by omega
   have hlt' : k < ys.length := by have := HL.out; omega
   have k1' : (k : Int) < ys.length := by omega
   obtain ⟨b1, o1, rfl, hb1, hc1⟩ := RowsAt.elem (hx.below hB) k hlt
   obtain ⟨b2, o2, rfl, hb2, hc2⟩ := RowsAt.elem (hy.below hB) k hlt'
   have hc1 : wr.cell? ⟨b1, o1 + k, none⟩ = some (.int .i64 xs[k]) := by have := hc1 0 _ rfl; simpa [PnE] using this
   have hc2 : wr.cell? ⟨b2, o2 + k, none⟩ = some (.int .i64 ys[k]) := by have := hc2 0 _ rfl; simpa [PnE] using this
   have HT : Hid (xs[k] = ys[k] → ∀ j (hj : j < xs.length) (hj' : j < ys.length), j < k + 1 → xs[j] = ys[j]) := hide (fun hp j hj hj' hjk => by
    by_cases e : j = k
    ·subst e; exact hp
    ·exact HM.out j hj hj' (by omega))
   have HF : Hid (xs[k] ≠ ys[k] → g = false) := hide (fun hp => hg.out.symm.trans (decide_eq_false (fun q => hp (by subst q; rfl))))
   obtain ⟨z, hz⟩ : ∃ z, Hid (xs[k] = z) := ⟨_, hide rfl⟩
   obtain ⟨y, hy'⟩ : ∃ z, Hid (ys[k] = z) := ⟨_, hide rfl⟩
   rw [hz.out] at hc1 HT HF
   rw [hy'.out] at hc2 HT HF
   clear hz hy' HM hx hy hg HL
   by_cases hzy : z = y
   ·subst hzy
    have HT' := hide (HT.out rfl)
    clear HT HF
    go_wp2
    go_quiet (fail)
    go_wp2
    go_roundw
    case rel => exact ⟨k + 1, by omega, by go_num, HT', below_drewN hB _⟩
    case measure => simp [intOf]; omega
   ·have HF' := hide (HF.out hzy)
    have ne : (z != y) = true := by simpa using hzy
    have ne2 : (z == y) = false := by simpa using hzy
    clear HT HF hzy
    go_wp2
    go_quiet (fail)
    go_wp2
    go_ret
    exact ⟨by rw [HF'.out]; rfl, below_drewN hB _⟩
  ·have k1 : ¬ (k : Int) < xs.length := by omega
   have HE : Hid (g = true) := hide (hg.out.symm.trans (decide_eq_true (List.ext_getElem HL.out (fun j h1 h2 => HM.out j h1 h2 (by omega)))))
   clear HM hg HL hx hy
   go_wp2
   go_ret
   exact ⟨by rw [HE.out]; rfl, hB⟩
theorem Stt.B_iff {s t : Stt} : s.B t = true ↔ s.e = t.e ∧ s.n = t.n ∧ s.c = t.c ∧ s.d = t.d ∧ s.ws.xs = t.ws.xs ∧ s.ps.xs = t.ps.xs := by
 unfold Stt.B
 simp only [Bool.and_eq_true, decide_eq_true_eq, beq_iff_eq, sameL_iff (fun x y => Wd.B_iff (x := x) (y := y))]
set_option maxRecDepth 100000 in
set_option maxHeartbeats 1000000 in
theorem xssame_any (s t : Stt) (w : World) (h : s.ok) (h' : t.ok) (hs : s.At w) (ht : t.At w) : Calls Tryz.prog 9 #[.agg s.cells.toArray, .agg t.cells.toArray] w fun e w' => e = .returned (.bool (s.B t)) ∧ Below w.heap.size w w' := by
 obtain ⟨hr, hr', hB, hz⟩ := two_boxG s.cells t.cells 36 w
 obtain ⟨pe, pn, pc, pd, pw, pp⟩ := st_parts h hr
 obtain ⟨pe', pn', pc', pd', pw', pp'⟩ := st_parts h' hr'
 have cw : ∀ w0, Below w.heap.size w w0 → Calls Tryz.prog 32 #[s.ws.val, t.ws.val] w0 fun e w' => e = .returned (.bool (sameL Wd.B s.ws.xs t.ws.xs)) ∧ Below w0.heap.size w0 w' := fun w0 hb0 => xwins_anyB _ _ _ _ _ _ w0 (hs.ws.below hb0) (ht.ws.below hb0)
 have ci : ∀ w0, Below w.heap.size w w0 → Calls Tryz.prog 33 #[s.ps.val, t.ps.val] w0 _ := fun w0 hb0 => eqInts_any s.ps t.ps w0 (hs.ps.below hb0) (ht.ps.below hb0)
 have hq : ∀ w0, (Op.equalIn 10000 32 (.agg (v8 s.d).toArray) (.agg (v8 t.d).toArray)).run Tryz.prog w0 = .ok (s.d == t.d) w0 := fun w0 => run_equal8 w0 9998 32 5 32 Tryz.underlying32 Tryz.underlying5 isz8 s.d t.d h.dl h'.dl
 have iu : (Tryz.prog.info? 32).map (·.size) = some (v8 s.d).length := by rw [v8_length, h.dl]; kernel_rfl
 have iu' : (Tryz.prog.info? 32).map (·.size) = some (v8 t.d).length := by rw [v8_length, h'.dl]; kernel_rfl
 obtain ⟨g, hg⟩ : ∃ g, Hid (s.B t = g) := ⟨_, hide rfl⟩
 rw [hg.out]
 unfold Stt.B at hg
 obtain ⟨W, hW⟩ : ∃ W, Hid ((w.alloc (.cells s.cells.toArray 36)).alloc (.cells t.cells.toArray 36) = W) := ⟨_, hide rfl⟩
 rw [hW.out] at hr hr' hB hz pe pn pc pd pw pp pe' pn' pc' pd' pw' pp'
 clear hr hr' hs ht h h'
 obtain ⟨E, N, C, D, ws, ps⟩ := s
 obtain ⟨E', N', C', D', ws', ps'⟩ := t
 simp only at *
 generalize sameL Wd.B ws.xs ws'.xs = bw at *
 generalize decide (ps.xs = ps'.xs) = bp at *
 generalize (D == D') = bd at *
 generalize v8 D = u at *
 generalize v8 D' = u' at *
 generalize Stt.cells _ = q at *
 generalize Stt.cells _ = q' at *
 simp only [Sl.val] at *
 go_enter Tryz.func9, Tryz.ntmps9
 go_upto_region 1 with fail
 go_name_world w1 hw1
 obtain rfl : W = w1 := hW.out.symm.trans hw1
 clear hw1 hW
 by_cases k1 : E = E'
 rotate_left
 ·obtain rfl : g = false := by rw [← hg.out]; simp only [k1, decide_false, Bool.false_and, Bool.and_false]
  have e0 : (E != E') = true := by simpa using k1
  have e1 : (E == E') = false := by simpa using k1
  clear hg cw ci k1 hq
  go_wp2
  go_ret
  exact ⟨rfl, hB⟩
 subst k1
 by_cases k2 : N = N'
 rotate_left
 ·obtain rfl : g = false := by rw [← hg.out]; simp only [k2, decide_false, Bool.false_and, Bool.and_false]
  have e0 : (N != N') = true := by simpa using k2
  have e1 : (N == N') = false := by simpa using k2
  clear hg cw ci k2 hq
  go_wp2
  go_ret
  exact ⟨rfl, hB⟩
 subst k2
 by_cases k3 : C = C'
 rotate_left
 ·obtain rfl : g = false := by rw [← hg.out]; simp only [k3, decide_false, Bool.false_and, Bool.and_false]
  have e0 : (C != C') = true := by simpa using k3
  have e1 : (C == C') = false := by simpa using k3
  clear hg cw ci k3 hq
  go_wp2
  go_ret
  exact ⟨rfl, hB⟩
 subst k3
 have HG : Hid (g = (bd && (bw && bp))) := hide (by rw [← hg.out, show decide (E = E) = true from decide_eq_true rfl, show decide (N = N) = true from decide_eq_true rfl, show decide (C = C) = true from decide_eq_true rfl]; rfl)
 clear hg
 cases bd
 ·have HG' := hide HG.out
  clear HG cw ci
  go_wp2_with (first | (refine wpList_load_g (by rfl) 32 _ rfl _ _ rfl u _ pd Tryz.underlying32 rfl iu ?_) | (refine wpList_load_g (by rfl) 32 _ rfl _ _ rfl u' _ pd' Tryz.underlying32 rfl iu' ?_))
  go_ret
  exact ⟨by rw [HG'.out]; rfl, hB⟩
 go_wp2_with (first | (refine wpList_load_g (by rfl) 32 _ rfl _ _ rfl u _ pd Tryz.underlying32 rfl iu ?_) | (refine wpList_load_g (by rfl) 32 _ rfl _ _ rfl u' _ pd' Tryz.underlying32 rfl iu' ?_))
 refine (cw _ hB).mono ?_
 rintro e2 w2 ⟨rfl, hb2⟩
 have pp := (hb2.cell (p := ⟨w.heap.size, 36, none⟩) (by simp; omega)).trans pp
 have pp' := (hb2.cell (p := ⟨w.heap.size + 1, 36, none⟩) (by simp; omega)).trans pp'
 have hB := hB.trans (hb2.mono (by omega))
 clear cw hb2 pd pd' hq iu iu' pe pn pc pw pe' pn' pc' pw'
 cases bw
 ·have HG' := hide HG.out
  clear HG ci
  go_wp2
  go_ret
  exact ⟨by rw [HG'.out]; rfl, hB⟩
 go_wp2_with fail
 refine (ci _ hB).mono ?_
 rintro e3 w3 ⟨rfl, hb3⟩
 have hB := hB.trans (hb3.mono hB.size)
 clear ci hb3 pp pp'
 have HG' := hide HG.out
 clear HG
 cases bp
 ·go_wp2
  go_ret
  exact ⟨by rw [HG'.out]; rfl, hB⟩
 ·go_wp2
  go_ret
  exact ⟨by rw [HG'.out]; rfl, hB⟩
theorem partsS2 (w : World) (p q : Part) (hp : p.at w) (hq : q.at w) : PartsAt (w.alloc (.cells #[p.val, q.val] 57)) (some ⟨w.heap.size, 0, none⟩) [p, q] := by
 have hb : Below w.heap.size w (w.alloc (.cells #[p.val, q.val] 57)) := (Below.refl _ _).alloc (Nat.le_refl _) _
 refine ⟨by unfold maxLen; simp, fun x hx => ?_, Or.inr ⟨w.heap.size, 0, rfl, by simp, range_new w #[p.val, q.val] 57⟩⟩
 rcases List.mem_cons.1 hx with rfl | hx
 ·exact hp.below hb
 ·obtain rfl := List.mem_singleton.1 hx
  exact hq.below hb
theorem strL_strOf {zs : List Int} (h : ∀ z ∈ zs, 0 ≤ z ∧ z < 256) : strL (strOf zs) = zs := strOf_inj (strL_byte _) h (by rw [strOf_strL])
theorem results_cell {fn : Func} {p : Tmp} {ty : TypeId} (h : fn.results = #[.cell p ty]) (tmps : Array Value) (P : Program) (w : World) {a : Addr} {v : Value} (ha : tmps.getD p undef = .pointer (some a)) (hv : (loadVar ty a).run P w = .ok v w) : (results fn tmps).run P w = .ok v w := by
 have e : (results fn tmps).run P w = ((asAddr (tmps.getD p undef)).run P w).andThen fun a w₁ => (loadVar ty a).run P w₁ := by
  simp only [results, h]
  simp [Sem.run_bind, Result.andThen]
 rw [e, ha]
 simp [asAddr, hv, Result.andThen]
theorem ex_bs2 {P : Program} {o : Oper} {a : Act} {w w' : World} {t : TypeId} {x y : Operand} {u v r : Value} (ho : o.op = .buildSlice t 2 #[(0, x), (1, y)]) (hx : a.eval x = u) (hy : a.eval y = v) (hr : (Instr.buildSlice t 2 #[(0, u), (1, v)]).run P w = .ok r w') : (execOp a.eval o).run P w = .ok (.value r) w' := by
 unfold execOp
 simp [ho, hx, hy, hr]
theorem Stt.bytes_sp (s : Stt) : s.bytes = s.sp.bytes := by
 unfold Stt.bytes Stt.b3 Stt.b2 Stt.b1 Sp.bytes Stt.sp
 rw [List.take_length, List.take_length]
 simp only [List.append_assoc]
theorem Stt.B_sp {s t : Stt} : s.B t = true ↔ s.sp = t.sp := by
 rw [Stt.B_iff]
 unfold Stt.sp
 simp only [Sp.mk.injEq]
theorem RowAt.str {w : World} {a : Option Addr} {zs : List Int} (h : RowAt w a zs) (cap : Nat) : (convert 57 9 (.slice a zs.length cap)).run Tryz.prog w = .ok (.string (strOf zs)) w := row_mine h cap
theorem flat_byte {α : Type} {f : α → List Int} {xs : List α} (h : ∀ x ∈ xs, ∀ z ∈ f x, 0 ≤ z ∧ z < 256) : ∀ z ∈ xs.flatMap f, 0 ≤ z ∧ z < 256 := fun z hz => by
 obtain ⟨x, hx, hz⟩ := List.mem_flatMap.1 hz
 exact h x hx z hz
theorem wd_byte {x : Wd} (h : x.ok) : ∀ z ∈ x.bytes, 0 ≤ z ∧ z < 256 := fun z hz => by
 unfold Wd.bytes Wn.winL at hz
 have hm := h.ml
 have hh := h.hi
 rcases List.mem_append.1 hz with hz | hz
 ·rcases List.mem_append.1 hz with hz | hz
  ·exact putL_byte _ (by omega) z hz
  ·exact putL_byte _ (by omega) z hz
 ·exact putL_byte _ (by omega) z hz
theorem Stt.byteM {s : Stt} (h : s.ok) (hw : ∀ y ∈ s.ws.xs, y.ok) (hp : ∀ z ∈ s.ps.xs, PnOk z) (l1 : s.ws.xs.length ≤ 100) (l2 : s.ps.xs.length ≤ 200) : ∀ z ∈ s.bytes, 0 ≤ z ∧ z < 256 := fun z hz => by
 rw [Stt.bytes_sp] at hz
 unfold Sp.bytes Stt.sp at hz
 simp only [List.mem_append] at hz
 have h1 := h.e1
 have h2 := h.n1
 have h3 := h.c1
 rcases hz with hz | hz | hz | hz | hz | hz | hz | hz
 ·exact putL_byte _ (by omega) z hz
 ·exact putL_byte _ (by omega) z hz
 ·exact putL_byte _ (by omega) z hz
 ·exact h.db z hz
 ·exact putL_byte _ (by omega) z hz
 ·exact flat_byte (fun y hy => wd_byte (hw y hy)) z hz
 ·exact putL_byte _ (by omega) z hz
 ·exact flat_byte (fun y hy z hz => putL_byte _ (by have := (hp y hy).hi; omega) z hz) z hz
theorem run_bs83 (w : World) : (Instr.buildSlice 57 1 #[(0, .int .u8 83)]).run Tryz.prog w = .ok (.slice (some ⟨w.heap.size, 0, none⟩) 1 1) (w.alloc (.cells #[.int .u8 83] 5)) := by kernel_rfl
theorem run_bsP (a b : Option Addr) (n m c d : Nat) (w : World) : (Instr.buildSlice 141 2 #[(0, .slice a n c), (1, .slice b m d)]).run Tryz.prog w = .ok (.slice (some ⟨w.heap.size, 0, none⟩) 2 2) (w.alloc (.cells #[.slice a n c, .slice b m d] 57)) := by kernel_rfl
theorem row83 (w : World) : RowAt (w.alloc (.cells #[.int .u8 83] 5)) (some ⟨w.heap.size, 0, none⟩) [83] :=
 ⟨by unfold maxLen; simp, by simp, Or.inr ⟨_, _, rfl, by simp, range_new w #[.int .u8 83] 5⟩⟩
theorem iszDg : (Tryz.prog.info? 32).map (·.size) = some 32 := by kernel_rfl
theorem zeroDg (w : World) : (zeroValue 32).run Tryz.prog w = .ok (.agg (v8 zeros32).toArray) w := by kernel_rfl
def Stt.dig (s : Stt) : List Int := sha (83 :: s.bytes)
theorem strL_add (t : ByteArray) : strL (⟨#[83]⟩ ++ t) = 83 :: strL t := by
 simp [strL, ByteArray.data_append]
set_option maxRecDepth 100000 in
set_option maxHeartbeats 1000000 in
theorem sdigest_any (x : Stt) (w : World) (hG : Glob w) (xo : x.ok) (xa : x.At w) (hw : x.ws.xs.length ≤ 100) (hp : x.ps.xs.length ≤ 200) : Calls Tryz.prog 13 #[.agg x.cells.toArray] w fun e w' => e = .returned (.agg (v8 x.dig).toArray) ∧ Below w.heap.size w w' := by
 have hlen := Stt.b3_le xo hw hp (fun y hy => xa.ws.2.1 y hy) (fun z hz => xa.ps.2.1 z hz) x.ps.xs.length
 obtain ⟨m, hm⟩ : ∃ m, Hid (x.dig = m) := ⟨_, hide rfl⟩
 have hml : m.length = 32 := by rw [← hm.out]; exact sha_length _
 rw [hm.out]
 have HM : Hid (sha (83 :: x.bytes) = m) := hm
 clear hm
 have hz1 : zeros32.length = 32 := by decide
 have hdz : ∀ w : World, (zeroValue 32).run Tryz.prog w = .ok (.agg (v8 zeros32).toArray) w := zeroDg
 obtain ⟨hB0, hr0, hs0⟩ := boxed_new w x.cells 36
 have hix : (Tryz.prog.info? 36).map (·.size) = some x.cells.length := by rw [Stt.len xo]; exact iszSt
 have cb := fun w0 (h0 : x.At w0) => sbytesOf_any x w0 xo h0 hw hp
 change x.bytes.length ≤ 5000 at hlen
 generalize x.bytes = F at *
 obtain ⟨q, hq⟩ : ∃ q, Hid (x.cells = q) := ⟨_, hide rfl⟩
 simp only [hq.out] at hB0 hr0 hs0 hix cb ⊢
 go_enter Tryz.func13, Tryz.ntmps13
 go_upto_region 0 with fail
 try simp only [Act.put]
 refine pl_begin ?_
 refine pl_run (d := some 1) (v := .pointer (some ⟨w.heap.size, 0, none⟩)) (w' := w.alloc (.cells q.toArray 36)) (by rfl) (ex_boxR rfl rfl) rfl ?_
 simp only [nz]
 obtain ⟨W0, hW0⟩ : ∃ W, w.alloc (.cells q.toArray 36) = W := ⟨_, rfl⟩
 rw [hW0] at hB0 hr0 hs0 ⊢
 clear hW0
 obtain ⟨hB1, -, hs1⟩ := boxed_new W0 (v8 zeros32) 32
 have ht1 := there_newN W0 (v8 zeros32).toArray 32 (n := 32) (by simp [v8_length, hz1])
 refine pl_run (d := some 2) (v := .pointer (some ⟨W0.heap.size, 0, none⟩)) (w' := W0.alloc (.cells (v8 zeros32).toArray 32)) (by rfl) (ex_alloc rfl (hdz _)) rfl ?_
 simp only [nz]
 refine pl_nil ?_
 obtain ⟨W1, hW1⟩ : ∃ W, W0.alloc (.cells (v8 zeros32).toArray 32) = W := ⟨_, rfl⟩
 rw [hW1] at hB1 hs1 ht1 ⊢
 clear hW1
 have hr1 := range_below hr0 hB1 hs0
 have B1 := hB0.trans (hB1.mono (by omega))
 have xa1 := xa.below B1
 obtain ⟨A, hA⟩ : ∃ X, W0.heap.size = X := ⟨_, rfl⟩
 obtain ⟨C, hC⟩ : ∃ X, w.heap.size = X := ⟨_, rfl⟩
 rw [hA] at hs1 ht1 hs0
 rw [hC] at hs0 hr1
 have hwA : w.heap.size ≤ A := by omega
 simp only [hA, hC]
 clear hr0 hB0 hB1 hA hdz
 have hb2 : Below W1.heap.size W1 (W1.alloc (.cells #[.int .u8 83] 5)) := (Below.refl _ _).alloc (Nat.le_refl _) _
 have r83 := row83 W1
 go_upto_region 1 with fail
 try simp only [Act.put]
 refine pl_begin ?_
 refine pl_run (d := some 3) (v := .slice (some ⟨W1.heap.size, 0, none⟩) 1 1) (w' := W1.alloc (.cells #[.int .u8 83] 5)) (by rfl) (ex_bsi rfl rfl (run_bs83 _)) rfl ?_
 simp only [nz]
 obtain ⟨w2, hw2⟩ : ∃ w2, W1.alloc (.cells #[.int .u8 83] 5) = w2 := ⟨_, rfl⟩
 rw [hw2] at hb2 r83 ⊢
 clear hw2
 have hr2 := range_below hr1 hb2 (by omega)
 have xa2 := xa1.below hb2
 refine pl_t 4 (.agg q.toArray) (by rfl) (ex_mid rfl rfl hr2 Tryz.underlying36 rfl hix) rfl ?_
 simp only [nz]
 refine pl_call (d := some 5) (by rfl) (by go_simp; first | done | exact ⟨rfl, rfl⟩ | with_reducible rfl) rfl ?_
 refine (cb w2 xa2).mono ?_
 rintro _ w3 ⟨v3, rfl, m3, hb3⟩
 obtain ⟨a3, cap3, rfl, hc3, hm3, rowF⟩ := m3.rowAt (by unfold maxLen; omega)
 refine ⟨_, rfl, ?_⟩
 simp only [nz]
 have r83' := r83.below hb3
 have hP := partsS2 w3 ⟨some ⟨W1.heap.size, 0, none⟩, 1, [83]⟩ ⟨a3, cap3, F⟩ ⟨r83', by simp, by show 1 ≤ maxLen; unfold maxLen; omega⟩ ⟨rowF, hc3, hm3⟩
 have hcat : cat [(⟨some ⟨W1.heap.size, 0, none⟩, 1, [83]⟩ : Part), ⟨a3, cap3, F⟩] = 83 :: F := by simp [cat]
 have hb4 : Below w3.heap.size w3 (w3.alloc (.cells #[.slice (some ⟨W1.heap.size, 0, none⟩) 1 1, .slice a3 F.length cap3] 57)) := (Below.refl _ _).alloc (Nat.le_refl _) _
 have B3 := (B1.trans (hb2.mono B1.size)).trans (hb3.mono (Nat.le_trans B1.size hb2.size))
 have B4 := B3.trans (hb4.mono B3.size)
 have cs := sum_any (some ⟨w3.heap.size, 0, none⟩) 2 _ (w3.alloc (.cells #[.slice (some ⟨W1.heap.size, 0, none⟩) 1 1, .slice a3 F.length cap3] 57)) (hG.below B4) hP (by rw [hcat]; simp; omega)
 rw [hcat, HM.out] at cs
 simp only [List.length_cons, List.length_nil, Nat.zero_add] at cs
 have ht4 := there_below (there_below (there_below ht1 hb2 hs1) hb3 (by have := hb2.size; omega)) hb4 (by have := hb2.size; have := hb3.size; omega)
 have sA4 := Nat.lt_of_lt_of_le hs1 (Nat.le_trans hb2.size (Nat.le_trans hb3.size hb4.size))
 clear hP hcat m3 rowF r83 r83' cb xa1 xa2 hr1 hr2 ht1 hb2 hb3 B1 B3
 refine pl_run (d := some 6) (v := .slice (some ⟨w3.heap.size, 0, none⟩) 2 2) (w' := w3.alloc (.cells #[.slice (some ⟨W1.heap.size, 0, none⟩) 1 1, .slice a3 F.length cap3] 57)) (by rfl) (ex_bs2 rfl rfl rfl (run_bsP _ _ _ _ _ _ _)) rfl ?_
 simp only [nz]
 refine pl_call (d := some 7) (by rfl) (by go_simp; first | done | exact ⟨rfl, rfl⟩ | with_reducible rfl) rfl ?_
 refine (cs).mono ?_
 rintro _ w5 ⟨rfl, hb5⟩
 refine ⟨_, rfl, ?_⟩
 simp only [nz]
 have ht5 := there_below ht4 hb5 sA4
 have B5 := B4.trans (hb5.mono B4.size)
 have hth : w5.there A 0 (v8 m).length := by rw [v8_length, hml]; exact ht5
 have hid : (Tryz.prog.info? 32).map (·.size) = some (v8 m).length := by rw [v8_length, hml]; exact iszDg
 refine pl_store (w' := w5.setCells A 0 (v8 m)) (by rfl) (ex_put (cs := (v8 m).toArray) rfl rfl rfl (by simpa using hth) (by simpa using hid) (all_one (v8_one m))) rfl ?_
 refine pl_nil ?_
 have hrs := run_loadVar_mid (P := Tryz.prog) (w5.setCells A 0 (v8 m)) A 0 32 (v8 m) _ (World.rangeAt_setCells_same w5 A 0 (v8 m) hth) Tryz.underlying32 rfl hid
 have HB := hide (below_sets hwA (v8 m) 0 _ B5)
 clear cs ht4 ht5 hth B4 B5 hb4 hb5
 go_wp2_with fail
 refine bodyPost_ret (results_cell rfl _ _ _ rfl hrs) rfl ?_
 exact ⟨rfl, HB.out⟩
def Lb (w : World) (X : Nat) (x : Stt) (wr : World) (a : Option Addr) (zs : List Int) : Prop := RowAt wr a zs ∧ Below w.heap.size w wr ∧ wr.rangeAt X 0 x.cells ∧ X < wr.heap.size
theorem mine_row {W : World} {B : Nat} {v : Value} {zs : List Int} (h : Mine W B v zs) (hl : zs.length ≤ 100000) : ∃ a c, v = .slice a zs.length c ∧ RowAt W a zs := by
 obtain ⟨a, c, e, -, -, r⟩ := h.rowAt (by unfold maxLen; omega)
 exact ⟨a, c, e, r⟩
set_option maxRecDepth 100000 in
set_option maxHeartbeats 8000000 in
theorem xsbytes_any (x : Stt) (w : World) (xo : x.ok) (xa : x.At w) (hw : x.ws.xs.length ≤ 100) (hp : x.ps.xs.length ≤ 200) : Calls Tryz.prog 59 #[.agg x.cells.toArray] w fun e w' => e = .returned (.string (strOf x.bytes)) ∧ Below w.heap.size w w' := by
 obtain ⟨i0, hi, hz0, hz1, hz2⟩ := info_parts Wn.info5
 have cp := fun a cap zs n w0 h0 hl hn => refPut_any a cap zs n w0 h0 hl hn
 have cw := fun a cap zs (y : Wd) w0 h0 hl (ho : y.ok) => Wn.refWPut_any a cap zs y.b y.m w0 h0 hl ho.ml ho.hi
 have cd := fun w0 => bytes_any x.d w0 xo.dl
 have h1 := xo.e1
 have h2 := xo.n1
 have h3 := xo.c1
 have g1 := putL9 x.e h1
 have g2 := putL9 x.n h2
 have g3 := putL9 x.c h3
 have okw := fun y hy => xa.ws.2.1 y hy
 have okp := fun z hz => xa.ps.2.1 z hz
 have l1 := Stt.b1_le xo hw
 have l2 := fun k => Stt.b2_le xo hw okw k
 have l3 := fun k => Stt.b3_le xo hw hp okw okp k
 have hix : (Tryz.prog.info? 36).map (·.size) = some x.cells.length := by rw [Stt.len xo]; exact iszSt
 obtain ⟨hB0, hr0, hs0⟩ := boxed_new w x.cells 36
 have mw : x.ws.xs.length ≤ maxLen := xa.ws.1
 have mp : x.ps.xs.length ≤ maxLen := xa.ps.1
 obtain ⟨q, hq⟩ : ∃ q, Hid (x.cells = q) := ⟨_, hide rfl⟩
 rw [hq.out]
 rw [hq.out] at hB0 hr0 hs0
 go_enter Tryz.func59, Tryz.ntmps59
 go_upto_region 0 with fail
 try simp only [Act.put]
 refine pl_begin ?_
 refine pl_run (d := some 1) (v := .pointer (some ⟨w.heap.size, 0, none⟩)) (w' := w.alloc (.cells q.toArray 36)) (by rfl) (ex_boxR rfl rfl) rfl ?_
 simp only [nz]
 refine pl_t 2 (?_) (by rfl) ?_ rfl ?_
 rotate_left
 ·go_simp
  try with_reducible rfl
 simp only [nz]
 refine pl_nil ?_
 obtain ⟨W0, hW0⟩ : ∃ W, w.alloc (.cells q.toArray 36) = W := ⟨_, rfl⟩
 rw [hW0] at hB0 hr0 hs0 ⊢
 clear hW0
 obtain ⟨X, hX⟩ : ∃ X, w.heap.size = X := ⟨_, rfl⟩
 rw [hX] at hr0 hs0
 simp only [hX]
 have hwX : w.heap.size ≤ X := by omega
 clear hX
 go_upto_region 1 with fail
 have r8 : W0.drew.rangeAt X 0 x.cells := by rw [hq.out]; exact (World.rangeAt_drew _ _ _ _).2 hr0
 have B8 : Below w.heap.size w W0.drew := hB0.drew
 have hX8 : X < W0.drew.heap.size := hs0
 refine hs_begin (S := (Below W0.drew.heap.size W0.drew)) 10 rfl (by kernel_rfl) ?_
 obtain ⟨w8, hw8⟩ : ∃ W, W0.drew = W := ⟨_, rfl⟩
 rw [hw8] at r8 B8 hX8 ⊢
 clear hw8 hr0 hB0 hs0
 have hS : (Below w8.heap.size w8) w8 := Below.refl _ _
 have p8 := st_parts xo r8
 refine hs_t 0 6 (?_) rfl (by kernel_rfl) (by kernel_rfl) (by kernel_rfl) (by rfl) ?_ hS rfl ?_
 rotate_left
 ·intro w' hw
  go_simp
  try with_reducible rfl
 simp only [nz]
 refine hs_t 1 7 (.int .i64 x.e) rfl (by kernel_rfl) (by kernel_rfl) (by kernel_rfl) (by rfl) (fun w' hw => pl_one rfl rfl ((hw.cell (p := ⟨X, 0, none⟩) hX8).trans p8.e) Tryz.underlying3 rfl) hS rfl ?_
 simp only [nz]
 refine hs_t 3 9 (?_) rfl (by kernel_rfl) (by kernel_rfl) (by kernel_rfl) (by rfl) ?_ hS rfl ?_
 rotate_left
 ·intro w' hw
  go_simp
  try with_reducible rfl
 simp only [nz]
 refine hs_t 4 10 (.int .i64 x.n) rfl (by kernel_rfl) (by kernel_rfl) (by kernel_rfl) (by rfl) (fun w' hw => pl_one rfl rfl ((hw.cell (p := ⟨X, 1, none⟩) hX8).trans p8.n) Tryz.underlying3 rfl) hS rfl ?_
 simp only [nz]
 refine hs_t 6 12 (?_) rfl (by kernel_rfl) (by kernel_rfl) (by kernel_rfl) (by rfl) ?_ hS rfl ?_
 rotate_left
 ·intro w' hw
  go_simp
  try with_reducible rfl
 simp only [nz]
 refine hs_t 7 13 (.int .i64 x.c) rfl (by kernel_rfl) (by kernel_rfl) (by kernel_rfl) (by rfl) (fun w' hw => pl_one rfl rfl ((hw.cell (p := ⟨X, 2, none⟩) hX8).trans p8.c) Tryz.underlying3 rfl) hS rfl ?_
 simp only [nz]
 refine hs_call (i := 2) (d := some 8) rfl (by kernel_rfl) (by rfl) (by go_simp; first | done | exact ⟨rfl, rfl⟩ | with_reducible rfl) rfl ?_
 refine (cp none 0 [] x.e w8 (nil_row _) (by simp) h1).mono ?_
 rintro _ wa ⟨va, rfl, ma, hb_wa⟩
 have hS : (Below w8.heap.size w8) wa := hS.trans (hb_wa.mono hS.size)
 refine ⟨_, rfl, hS, ?_⟩
 simp only [nz]
 obtain ⟨aa, ca, rfl, -, -, ra⟩ := ma.rowAt (by simp; unfold maxLen; omega)
 simp only [List.nil_append] at ra
 refine hs_call (i := 5) (d := some 11) rfl (by kernel_rfl) (by rfl) (by go_simp; first | done | exact ⟨rfl, rfl⟩ | with_reducible rfl) rfl ?_
 refine (cp aa ca (putL x.e) x.n wa ra (by omega) h2).mono ?_
 rintro _ wb ⟨vb, rfl, mb, hb_wb⟩
 have hS : (Below w8.heap.size w8) wb := hS.trans (hb_wb.mono hS.size)
 refine ⟨_, rfl, hS, ?_⟩
 simp only [nz]
 obtain ⟨z2, hz2'⟩ : ∃ z, Hid (putL x.e ++ putL x.n = z) := ⟨_, hide rfl⟩
 have lz2 : z2.length ≤ 18 := by rw [← hz2'.out, List.length_append]; omega
 rw [hz2'.out] at mb
 obtain ⟨ab, cb, rfl, -, -, rb⟩ := mb.rowAt (by unfold maxLen; omega)
 refine hs_call (i := 8) (d := some 14) rfl (by kernel_rfl) (by rfl) (by go_simp; first | done | exact ⟨rfl, rfl⟩ | with_reducible rfl) rfl ?_
 refine (cp ab cb z2 x.c wb rb (by omega) h3).mono ?_
 rintro _ wc ⟨vc, rfl, mc, hb_wc⟩
 have hS : (Below w8.heap.size w8) wc := hS.trans (hb_wc.mono hS.size)
 refine ⟨_, rfl, hS, ?_⟩
 simp only [nz]
 obtain ⟨zs, hz3'⟩ : ∃ z, Hid (z2 ++ putL x.c = z) := ⟨_, hide rfl⟩
 have hzl : zs.length ≤ 27 := by rw [← hz3'.out, List.length_append]; omega
 rw [hz3'.out] at mc
 obtain ⟨ac, cc, rfl, -, -, rc⟩ := mc.rowAt (by unfold maxLen; omega)
 refine hs_t 9 3 (?_) rfl (by kernel_rfl) (by kernel_rfl) (by kernel_rfl) (by rfl) ?_ hS rfl ?_
 rotate_left
 ·intro w' hw
  go_simp
  try with_reducible rfl
 simp only [nz]
 refine hs_done (by kernel_rfl) ?_
 have B2 := B8.trans (hS.mono B8.size)
 have r2 := range_below r8 hS hX8
 have hX2 := Nat.lt_of_lt_of_le hX8 hS.size
 have p2 := st_parts xo r2
 have hXb : X < wb.heap.size := by have := hb_wa.size; have := hb_wb.size; omega
 have hS0 : w8.heap.size ≤ wb.heap.size := Nat.le_trans hb_wa.size hb_wb.size
 have hS1 := B8.size
 clear ra rb ma mb p8 hb_wa hb_wb hS r8 B8 hX8
 have hd32 : (Tryz.prog.info? 32).map (·.size) = some (v8 x.d).length := by rw [v8_length, xo.dl]; exact iszDg
 obtain ⟨z4, hz4⟩ : ∃ z, Hid (zs ++ x.d = z) := ⟨_, hide rfl⟩
 have lz4 : z4.length ≤ 59 := by rw [← hz4.out, List.length_append, xo.dl]; omega
 have hb1e : Hid (z4 ++ putL (x.ws.xs.length : Int) = x.b2 0) := hide (by rw [← hz4.out, ← hz3'.out, ← hz2'.out, Stt.b2_zero]; rfl)
 go_upto_region 2 with fail
 try simp only [Act.put]
 refine pl_begin ?_
 refine pl_t 15 (?_) (by rfl) ?_ rfl ?_
 rotate_left
 ·go_simp
  try with_reducible rfl
 simp only [nz]
 refine pl_t 16 (?_) (by rfl) ?_ rfl ?_
 rotate_left
 ·go_simp
  try with_reducible rfl
 simp only [nz]
 refine pl_t 17 (.agg (v8 x.d).toArray) (by rfl) (ex_mid rfl rfl p2.d Tryz.underlying32 rfl hd32) rfl ?_
 simp only [nz]
 refine pl_call (d := some 18) (by rfl) (by go_simp; first | done | exact ⟨rfl, rfl⟩ | with_reducible rfl) rfl ?_
 refine (cd wc).mono ?_
 rintro _ wd ⟨vd, rfl, od, hb_wd⟩
 have md : Mine wd wc.heap.size vd x.d := Mine.mk' _ od rfl rfl xo.db
 obtain ⟨ad, cdd, rfl, -, -, rd⟩ := md.rowAt (by rw [xo.dl]; unfold maxLen; omega)
 have mc' := mc.below hb_wd
 have dl := xo.dl
 have hzz := hb_wc.size
 obtain ⟨v6, w6, hrun, hown, hgr⟩ := run_append_own_src (P := Tryz.prog) wd wb.heap.size 57 57 57 5 i0 (.int .u8 0) 1 1 Tryz.underlying57 hi hz0 hz1 hz2 rfl _ zs.length _ mc'.1 (.slice ad x.d.length cdd) x.d.length (v8 x.d) (rd.src cdd) (by unfold maxLen; omega) (by omega) (by have := hb_wd.size; omega)
 have hM : Mine w6 wb.heap.size v6 (zs ++ x.d) := Mine.mk' _ hown (by simp) (by simp [v8]) (fun z hz => by
  rcases List.mem_append.1 hz with hz | hz
  ·exact mc'.2 z hz
  ·exact xo.db z hz)
 rw [hz4.out] at hM
 have hb6 : Below wb.heap.size wd w6 := own_low (Below.refl _ _) (by have := hb_wd.size; omega) mc'.1 hgr
 obtain ⟨a6, c6, rfl, r6⟩ := mine_row hM (by omega)
 refine ⟨_, rfl, ?_⟩
 simp only [nz]
 refine pl_run (d := some 19) (v := .slice a6 z4.length c6) (w' := w6) (by rfl) (exec_append rfl rfl rfl hrun) rfl ?_
 simp only [nz]
 refine pl_t 3 (?_) (by rfl) ?_ rfl ?_
 rotate_left
 ·go_simp
  try with_reducible rfl
 simp only [nz]
 refine pl_nil ?_
 have B6 := (B2.trans (hb_wd.mono B2.size)).trans (hb6.mono (by have := hS0; have := B2.size; omega))
 have r6x : w6.rangeAt X 0 x.cells := range_below (range_below r2 hb_wd hX2) hb6 hXb
 have hX6 : X < w6.heap.size := by have := hb6.size; have := hb_wd.size; omega
 have p6 := st_parts xo r6x
 clear hrun hown hgr hM mc mc' md od rd rc r2 p2 hb_wd hb6 cd B2 hd32 hX2
 have hp5 := p6.ws
 unfold Sl.val at hp5
 go_upto_region 3 with fail
 try simp only [Act.put]
 refine pl_begin ?_
 refine pl_t 20 (?_) (by rfl) ?_ rfl ?_
 rotate_left
 ·go_simp
  try with_reducible rfl
 simp only [nz]
 refine pl_t 21 (?_) (by rfl) ?_ rfl ?_
 rotate_left
 ·go_simp
  try with_reducible rfl
 simp only [nz]
 refine pl_t 22 (.slice x.ws.a x.ws.xs.length x.ws.cap) (by rfl) (pl_one rfl rfl hp5 Tryz.underlying33 rfl) rfl ?_
 simp only [nz]
 refine pl_t 23 (?_) (by rfl) ?_ rfl ?_
 rotate_left
 ·go_simp
  try with_reducible rfl
 simp only [nz]
 refine pl_call (d := some 24) (by rfl) (by go_simp; first | done | exact ⟨rfl, rfl⟩ | with_reducible rfl) rfl ?_
 refine (cp a6 c6 z4 (x.ws.xs.length : Int) w6 r6 (by omega) (by unfold maxLen at mw; omega)).mono ?_
 rintro _ w7 ⟨v7, rfl, m7, hb_w7⟩
 rw [hb1e.out] at m7
 obtain ⟨a7, c7, rfl, r7⟩ := mine_row m7 (by have := l2 0; omega)
 refine ⟨_, rfl, ?_⟩
 simp only [nz]
 refine pl_t 3 (?_) (by rfl) ?_ rfl ?_
 rotate_left
 ·go_simp
  try with_reducible rfl
 simp only [nz]
 refine pl_nil ?_
 have HL0 : Hid (Lb w X x w7 a7 (x.b2 0)) := hide ⟨r7, B6.trans (hb_w7.mono B6.size), range_below r6x hb_w7 hX6, Nat.lt_of_lt_of_le hX6 hb_w7.size⟩
 clear m7 r7 r6 B6 r6x hX6 p6 hp5 hb_w7 hb1e
 go_upto_region 4 with fail
 try simp only [Act.put]
 refine pl_begin ?_
 refine pl_t 4 (?_) (by rfl) ?_ rfl ?_
 rotate_left
 ·go_simp
  try with_reducible rfl
 simp only [nz]
 refine pl_nil ?_
 go_wp2_with fail
 go_loopw [3, 4] (fun bv iv wr => ∃ (k : Nat) (a : Option Addr) (c : Nat), k ≤ x.ws.xs.length ∧ bv = .slice a (x.b2 k).length c ∧ iv = .int .i64 (k : Int) ∧ Hid (Lb w X x wr a (x.b2 k))) (fun _ iv _ => x.ws.xs.length - (intOf iv).toNat)
 case atStart => exact ⟨0, a7, c7, by omega, rfl, rfl, HL0⟩
 case round =>
  clear HL0
  obtain ⟨k, a, c, hk, rfl, rfl, HL⟩ := hrel
  obtain ⟨hrow, hB, hr, hXs⟩ := HL.out
  have p := st_parts xo hr
  by_cases hlt : k < x.ws.xs.length
  ·have k1 : (k : Int) < x.ws.xs.length := by omega
   obtain ⟨b, off, hab, hb, hre⟩ := RowsAt.elem (xa.ws.below hB) k hlt
   have hre : wr.rangeAt b (off + k * 2) (Wd.cells x.ws.xs[k]) := hre
   have oky := okw _ (List.getElem_mem hlt)
   have HS := hide (x.b2_succ k hlt)
   have hl2 := l2 k
   have hl2' := l2 (k + 1)
   obtain ⟨y, hy⟩ : ∃ y, Hid (x.ws.xs[k] = y) := ⟨_, hide rfl⟩
   rw [hy.out] at hre oky HS
   clear hy
   have hiy : (Tryz.prog.info? 79).map (·.size) = some y.cells.length := iszW
   have hpw := p.ws
   unfold Sl.val at hpw
   rw [hab] at hpw
   have cy : Calls Tryz.prog 99 #[.slice a (x.b2 k).length c, .agg y.cells.toArray] wr fun e w' => ∃ v, e = .returned v ∧ Mine w' wr.heap.size v (x.b2 k ++ y.bytes) ∧ Below wr.heap.size wr w' := cw a c (x.b2 k) y wr hrow (by omega) oky
   rw [← HS.out] at cy
   obtain ⟨wl, hwl⟩ : ∃ n, x.ws.xs.length = n := ⟨_, rfl⟩
   rw [hwl] at hpw
   go_upto_region 5 with fail
   try simp only [Act.put]
   refine pl_begin ?_
   refine pl_t 25 (?_) (by rfl) ?_ rfl ?_
   rotate_left
   ·go_simp
    try with_reducible rfl
   simp only [nz]
   refine pl_t 26 (?_) (by rfl) ?_ rfl ?_
   rotate_left
   ·go_simp
    try with_reducible rfl
   simp only [nz]
   refine pl_t 27 (.slice (some ⟨b, off, none⟩) wl x.ws.cap) (by rfl) (pl_one rfl rfl hpw Tryz.underlying33 rfl) rfl ?_
   simp only [nz]
   refine pl_t 28 (?_) (by rfl) ?_ rfl ?_
   rotate_left
   ·go_simp
    try with_reducible rfl
   simp only [nz]
   refine pl_t 29 (.bool true) (by rfl) (by rw [hwl] at k1; go_simp) rfl ?_
   simp only [nz]
   refine pl_nil ?_
   rw [hwl] at k1
   go_upto_region 7 with fail
   try simp only [Act.put]
   refine pl_begin ?_
   refine pl_t 32 (?_) (by rfl) ?_ rfl ?_
   rotate_left
   ·go_simp
    try with_reducible rfl
   simp only [nz]
   refine pl_t 33 (?_) (by rfl) ?_ rfl ?_
   rotate_left
   ·go_simp
    try with_reducible rfl
   simp only [nz]
   refine pl_t 34 (.slice (some ⟨b, off, none⟩) wl x.ws.cap) (by rfl) (pl_one rfl rfl hpw Tryz.underlying33 rfl) rfl ?_
   simp only [nz]
   refine pl_t 35 (?_) (by rfl) ?_ rfl ?_
   rotate_left
   ·go_simp
    try with_reducible rfl
   simp only [nz]
   refine pl_t 36 (.pointer (some ⟨b, off + k * 2, none⟩)) (by rfl) (by go_simp) rfl ?_
   simp only [nz]
   refine pl_t 37 (.agg y.cells.toArray) (by rfl) (ex_mid rfl rfl hre Tryz.underlying79 rfl hiy) rfl ?_
   simp only [nz]
   refine pl_call (d := some 38) (by rfl) (by go_simp; first | done | exact ⟨rfl, rfl⟩ | with_reducible rfl) rfl ?_
   refine (cy).mono ?_
   rintro _ w7 ⟨v7, rfl, m7, hb7⟩
   obtain ⟨a7, c7, rfl, r7⟩ := mine_row m7 (by omega)
   refine ⟨_, rfl, ?_⟩
   simp only [nz]
   refine pl_t 3 (?_) (by rfl) ?_ rfl ?_
   rotate_left
   ·go_simp
    try with_reducible rfl
   simp only [nz]
   refine pl_nil ?_
   have HL1 : Hid (Lb w X x w7 a7 (x.b2 (k + 1))) := hide ⟨r7, hB.trans (hb7.mono hB.size), range_below hr hb7 hXs, Nat.lt_of_lt_of_le hXs hb7.size⟩
   rw [← hwl] at k1
   clear HL hrow hB hr hXs p hab hb hre oky HS hiy hpw cy m7 r7 hb7 hl2 hl2'
   go_wp2_with fail
   go_roundw
   case rel => exact ⟨k + 1, a7, c7, by omega, rfl, by go_num, HL1⟩
   case measure => simp [intOf]; omega
  ·have hkN : k = x.ws.xs.length := by omega
   subst hkN
   have k1 : ¬ ((x.ws.xs.length : Int) < x.ws.xs.length) := by omega
   have hb3e := hide x.b3_zero
   have hl2 := l2 x.ws.xs.length
   have hl30 := l3 0
   have hp5 := p.ws
   have hp6 := p.ps
   unfold Sl.val at hp5 hp6
   obtain ⟨zs2, hz2e⟩ : ∃ z, x.b2 x.ws.xs.length = z := ⟨_, rfl⟩
   have hb3e := hb3e.out
   rw [hz2e] at hb3e hrow hl2
   replace hb3e := hide hb3e
   rw [hz2e]
   go_upto_region 5 with fail
   try simp only [Act.put]
   refine pl_begin ?_
   refine pl_t 25 (?_) (by rfl) ?_ rfl ?_
   rotate_left
   ·go_simp
    try with_reducible rfl
   simp only [nz]
   refine pl_t 26 (?_) (by rfl) ?_ rfl ?_
   rotate_left
   ·go_simp
    try with_reducible rfl
   simp only [nz]
   refine pl_t 27 (.slice x.ws.a x.ws.xs.length x.ws.cap) (by rfl) (pl_one rfl rfl hp5 Tryz.underlying33 rfl) rfl ?_
   simp only [nz]
   refine pl_t 28 (?_) (by rfl) ?_ rfl ?_
   rotate_left
   ·go_simp
    try with_reducible rfl
   simp only [nz]
   refine pl_t 29 (.bool false) (by rfl) (by go_simp) rfl ?_
   simp only [nz]
   refine pl_nil ?_
   go_upto_region 8 with fail
   try simp only [Act.put]
   refine pl_begin ?_
   refine pl_t 39 (?_) (by rfl) ?_ rfl ?_
   rotate_left
   ·go_simp
    try with_reducible rfl
   simp only [nz]
   refine pl_t 40 (?_) (by rfl) ?_ rfl ?_
   rotate_left
   ·go_simp
    try with_reducible rfl
   simp only [nz]
   refine pl_t 41 (.slice x.ps.a x.ps.xs.length x.ps.cap) (by rfl) (pl_one rfl rfl hp6 Tryz.underlying34 rfl) rfl ?_
   simp only [nz]
   refine pl_t 42 (?_) (by rfl) ?_ rfl ?_
   rotate_left
   ·go_simp
    try with_reducible rfl
   simp only [nz]
   refine pl_call (d := some 43) (by rfl) (by go_simp; first | done | exact ⟨rfl, rfl⟩ | with_reducible rfl) rfl ?_
   refine (cp a c zs2 (x.ps.xs.length : Int) wr hrow (by omega) (by unfold maxLen at mp; omega)).mono ?_
   rintro _ w7 ⟨v7, rfl, m7, hb_w7⟩
   rw [← hb3e.out] at m7
   obtain ⟨a7, c7, rfl, r7⟩ := mine_row m7 (by omega)
   refine ⟨_, rfl, ?_⟩
   simp only [nz]
   refine pl_t 3 (?_) (by rfl) ?_ rfl ?_
   rotate_left
   ·go_simp
    try with_reducible rfl
   simp only [nz]
   refine pl_nil ?_
   have HP0 : Hid (Lb w X x w7 a7 (x.b3 0)) := hide ⟨r7, hB.trans (hb_w7.mono hB.size), range_below hr hb_w7 hXs, Nat.lt_of_lt_of_le hXs hb_w7.size⟩
   clear HL m7 r7 hrow hB hr hXs p hb_w7 hb3e hp5 hp6 hz2e k1 hlt
   go_upto_region 9 with fail
   try simp only [Act.put]
   refine pl_begin ?_
   refine pl_t 5 (?_) (by rfl) ?_ rfl ?_
   rotate_left
   ·go_simp
    try with_reducible rfl
   simp only [nz]
   refine pl_nil ?_
   go_wp2_with fail
   go_loopw [3, 5] (fun bv iv wr => ∃ (k : Nat) (a : Option Addr) (c : Nat), k ≤ x.ps.xs.length ∧ bv = .slice a (x.b3 k).length c ∧ iv = .int .i64 (k : Int) ∧ Hid (Lb w X x wr a (x.b3 k))) (fun _ iv _ => x.ps.xs.length - (intOf iv).toNat)
   case atStart => exact ⟨0, a7, c7, by omega, rfl, rfl, HP0⟩
   case round =>
    clear HP0
    obtain ⟨k, a, c, hk, rfl, rfl, HL⟩ := hrel
    obtain ⟨hrow, hB, hr, hXs⟩ := HL.out
    have p := st_parts xo hr
    have hl2 := l3 k
    have hl2' := l3 (k + 1)
    by_cases hlt : k < x.ps.xs.length
    ·have k1 : (k : Int) < x.ps.xs.length := by omega
     obtain ⟨b, off, hab, hb, hre⟩ := RowsAt.elem (xa.ps.below hB) k hlt
     have hre := hre 0 _ rfl
     have oky : PnOk x.ps.xs[k] := okp _ (List.getElem_mem hlt)
     have HS := hide (x.b3_succ k hlt)
     obtain ⟨y, hy⟩ : ∃ y, Hid (x.ps.xs[k] = y) := ⟨_, hide rfl⟩
     rw [hy.out] at hre oky HS
     clear hy
     have hre : wr.cell? ⟨b, off + k, none⟩ = some (.int .i64 y) := by simpa [PnE] using hre
     have hpw := p.ps
     unfold Sl.val at hpw
     rw [hab] at hpw
     have cy := cp a c (x.b3 k) y wr hrow (by omega) oky.hi
     rw [← HS.out] at cy
     obtain ⟨wl, hwl⟩ : ∃ n, x.ps.xs.length = n := ⟨_, rfl⟩
     rw [hwl] at hpw
     go_upto_region 10 with fail
     try simp only [Act.put]
     refine pl_begin ?_
     refine pl_t 44 (?_) (by rfl) ?_ rfl ?_
     rotate_left
     ·go_simp
      try with_reducible rfl
     simp only [nz]
     refine pl_t 45 (?_) (by rfl) ?_ rfl ?_
     rotate_left
     ·go_simp
      try with_reducible rfl
     simp only [nz]
     refine pl_t 46 (.slice (some ⟨b, off, none⟩) wl x.ps.cap) (by rfl) (pl_one rfl rfl hpw Tryz.underlying34 rfl) rfl ?_
     simp only [nz]
     refine pl_t 47 (?_) (by rfl) ?_ rfl ?_
     rotate_left
     ·go_simp
      try with_reducible rfl
     simp only [nz]
     refine pl_t 48 (.bool true) (by rfl) (by rw [hwl] at k1; go_simp) rfl ?_
     simp only [nz]
     refine pl_nil ?_
     rw [hwl] at k1
     go_upto_region 12 with fail
     try simp only [Act.put]
     refine pl_begin ?_
     refine pl_t 51 (?_) (by rfl) ?_ rfl ?_
     rotate_left
     ·go_simp
      try with_reducible rfl
     simp only [nz]
     refine pl_t 52 (?_) (by rfl) ?_ rfl ?_
     rotate_left
     ·go_simp
      try with_reducible rfl
     simp only [nz]
     refine pl_t 53 (.slice (some ⟨b, off, none⟩) wl x.ps.cap) (by rfl) (pl_one rfl rfl hpw Tryz.underlying34 rfl) rfl ?_
     simp only [nz]
     refine pl_t 54 (?_) (by rfl) ?_ rfl ?_
     rotate_left
     ·go_simp
      try with_reducible rfl
     simp only [nz]
     refine pl_t 55 (.pointer (some ⟨b, off + k, none⟩)) (by rfl) (by go_simp) rfl ?_
     simp only [nz]
     refine pl_t 56 (.int .i64 y) (by rfl) (pl_one rfl rfl hre Tryz.underlying3 rfl) rfl ?_
     simp only [nz]
     refine pl_call (d := some 57) (by rfl) (by go_simp; first | done | exact ⟨rfl, rfl⟩ | with_reducible rfl) rfl ?_
     refine (cy).mono ?_
     rintro _ w7 ⟨v7, rfl, m7, hb7⟩
     obtain ⟨a7, c7, rfl, r7⟩ := mine_row m7 (by omega)
     refine ⟨_, rfl, ?_⟩
     simp only [nz]
     refine pl_t 3 (?_) (by rfl) ?_ rfl ?_
     rotate_left
     ·go_simp
      try with_reducible rfl
     simp only [nz]
     refine pl_nil ?_
     have HL1 : Hid (Lb w X x w7 a7 (x.b3 (k + 1))) := hide ⟨r7, hB.trans (hb7.mono hB.size), range_below hr hb7 hXs, Nat.lt_of_lt_of_le hXs hb7.size⟩
     rw [← hwl] at k1
     clear HL hrow hB hr hXs p hab hb hre oky HS hpw cy m7 r7 hb7 hl2 hl2'
     go_wp2_with fail
     go_roundw
     case rel => exact ⟨k + 1, a7, c7, by omega, rfl, by go_num, HL1⟩
     case measure => simp [intOf]; omega
    ·have hkN : k = x.ps.xs.length := by omega
     subst hkN
     have k1 : ¬ ((x.ps.xs.length : Int) < x.ps.xs.length) := by omega
     have hp6 := p.ps
     unfold Sl.val at hp6
     have hcv := RowAt.str hrow c
     have HB := hide hB
     have hbe : x.b3 x.ps.xs.length = x.bytes := rfl
     rw [hbe] at hcv
     rw [hbe]
     clear HL hrow hB hr hXs p hl2 hl2' hbe
     go_upto_region 10 with fail
     try simp only [Act.put]
     refine pl_begin ?_
     refine pl_t 44 (?_) (by rfl) ?_ rfl ?_
     rotate_left
     ·go_simp
      try with_reducible rfl
     simp only [nz]
     refine pl_t 45 (?_) (by rfl) ?_ rfl ?_
     rotate_left
     ·go_simp
      try with_reducible rfl
     simp only [nz]
     refine pl_t 46 (.slice x.ps.a x.ps.xs.length x.ps.cap) (by rfl) (pl_one rfl rfl hp6 Tryz.underlying34 rfl) rfl ?_
     simp only [nz]
     refine pl_t 47 (?_) (by rfl) ?_ rfl ?_
     rotate_left
     ·go_simp
      try with_reducible rfl
     simp only [nz]
     refine pl_t 48 (.bool false) (by rfl) (by go_simp) rfl ?_
     simp only [nz]
     refine pl_nil ?_
     go_upto_region 13 with fail
     try simp only [Act.put]
     refine pl_begin ?_
     refine pl_t 58 (?_) (by rfl) ?_ rfl ?_
     rotate_left
     ·go_simp
      try with_reducible rfl
     simp only [nz]
     refine pl_t 59 (.string (strOf x.bytes)) (by rfl) (ex_conv rfl rfl hcv) rfl ?_
     simp only [nz]
     refine pl_t 2 (?_) (by rfl) ?_ rfl ?_
     rotate_left
     ·go_simp
      try with_reducible rfl
     simp only [nz]
     refine pl_nil ?_
     clear hp6 hcv
     go_wp2_with fail
     go_ret
     exact ⟨rfl, HB.out⟩
set_option maxRecDepth 100000 in
set_option maxHeartbeats 1000000 in
theorem xsdigest_any (x : Stt) (w : World) (xo : x.ok) (xa : x.At w) (hw : x.ws.xs.length ≤ 100) (hp : x.ps.xs.length ≤ 200) : Calls Tryz.prog 20 #[.agg x.cells.toArray] w fun e w' => e = .returned (.agg (v8 x.dig).toArray) ∧ Below w.heap.size w w' := by
 have hlen := Stt.b3_le xo hw hp (fun y hy => xa.ws.2.1 y hy) (fun z hz => xa.ps.2.1 z hz) x.ps.xs.length
 have hby := Stt.byteM xo (fun y hy => xa.ws.2.1 y hy) (fun z hz => xa.ps.2.1 z hz) hw hp
 obtain ⟨m, hm⟩ : ∃ m, Hid (x.dig = m) := ⟨_, hide rfl⟩
 have hml : m.length = 32 := by rw [← hm.out]; exact sha_length _
 rw [hm.out]
 have HM : Hid (sha (83 :: x.bytes) = m) := hm
 clear hm
 have hz1 : zeros32.length = 32 := by decide
 have hdz : ∀ w : World, (zeroValue 32).run Tryz.prog w = .ok (.agg (v8 zeros32).toArray) w := zeroDg
 obtain ⟨hB0, hr0, hs0⟩ := boxed_new w x.cells 36
 have hix : (Tryz.prog.info? 36).map (·.size) = some x.cells.length := by rw [Stt.len xo]; exact iszSt
 have cb := fun w0 (h0 : x.At w0) => xsbytes_any x w0 xo h0 hw hp
 have hSL : strL (⟨#[83]⟩ ++ strOf x.bytes) = 83 :: x.bytes := by rw [strL_add, strL_strOf hby]
 change x.bytes.length ≤ 5000 at hlen
 have cv := fun w0 => bytes_of (⟨#[83]⟩ ++ strOf x.bytes) (by rw [← strL_length, hSL, List.length_cons]; omega) w0
 rw [hSL] at cv
 have cs := fun a cap w0 (h0 : RowAt w0 a (83 :: x.bytes)) => refSum_any a cap (83 :: x.bytes) w0 h0 (by simp; omega)
 rw [HM.out] at cs
 have hSz : (strOf x.bytes).size ≤ 5000 := by rw [← strL_length, strL_strOf hby]; exact hlen
 obtain ⟨S, hS⟩ : ∃ S, strOf x.bytes = S := ⟨_, rfl⟩
 rw [hS] at hSz
 simp only [hS] at cb cv
 clear hSL hby
 generalize (83 : Int) :: x.bytes = F at *
 obtain ⟨q, hq⟩ : ∃ q, Hid (x.cells = q) := ⟨_, hide rfl⟩
 simp only [hq.out] at hB0 hr0 hs0 hix cb ⊢
 go_enter Tryz.func20, Tryz.ntmps20
 go_upto_region 0 with fail
 try simp only [Act.put]
 refine pl_begin ?_
 refine pl_run (d := some 1) (v := .pointer (some ⟨w.heap.size, 0, none⟩)) (w' := w.alloc (.cells q.toArray 36)) (by rfl) (ex_boxR rfl rfl) rfl ?_
 simp only [nz]
 obtain ⟨W0, hW0⟩ : ∃ W, w.alloc (.cells q.toArray 36) = W := ⟨_, rfl⟩
 rw [hW0] at hB0 hr0 hs0 ⊢
 clear hW0
 obtain ⟨hB1, -, hs1⟩ := boxed_new W0 (v8 zeros32) 32
 have ht1 := there_newN W0 (v8 zeros32).toArray 32 (n := 32) (by simp [v8_length, hz1])
 refine pl_run (d := some 2) (v := .pointer (some ⟨W0.heap.size, 0, none⟩)) (w' := W0.alloc (.cells (v8 zeros32).toArray 32)) (by rfl) (ex_alloc rfl (hdz _)) rfl ?_
 simp only [nz]
 refine pl_nil ?_
 obtain ⟨W1, hW1⟩ : ∃ W, W0.alloc (.cells (v8 zeros32).toArray 32) = W := ⟨_, rfl⟩
 rw [hW1] at hB1 hs1 ht1 ⊢
 clear hW1
 have hr1 := range_below hr0 hB1 hs0
 have B1 := hB0.trans (hB1.mono (by omega))
 have xa1 := xa.below B1
 obtain ⟨A, hA⟩ : ∃ X, W0.heap.size = X := ⟨_, rfl⟩
 obtain ⟨C, hC⟩ : ∃ X, w.heap.size = X := ⟨_, rfl⟩
 rw [hA] at hs1 ht1 hs0
 rw [hC] at hs0 hr1
 have hwA : w.heap.size ≤ A := by omega
 simp only [hA, hC]
 clear hr0 hB0 hB1 hA hdz
 go_upto_region 1 with fail
 try simp only [Act.put]
 refine pl_begin ?_
 refine pl_t 3 (.agg q.toArray) (by rfl) (ex_mid rfl rfl hr1 Tryz.underlying36 rfl hix) rfl ?_
 simp only [nz]
 refine pl_call (d := some 4) (by rfl) (by go_simp; first | done | exact ⟨rfl, rfl⟩ | with_reducible rfl) rfl ?_
 refine (cb W1 xa1).mono ?_
 rintro _ w2 ⟨rfl, hb2⟩
 refine ⟨_, rfl, ?_⟩
 simp only [nz]
 refine pl_t 5 (.string (⟨#[83]⟩ ++ S)) (by rfl) (by go_simp; omega) rfl ?_
 simp only [nz]
 obtain ⟨c6, w3, hcv, r3, hb3⟩ := cv w2
 refine pl_run (d := some 6) (v := .slice (some ⟨w2.heap.size, 0, none⟩) F.length c6) (w' := w3) (by rfl) (ex_conv rfl rfl hcv) rfl ?_
 simp only [nz]
 refine pl_call (d := some 7) (by rfl) (by go_simp; first | done | exact ⟨rfl, rfl⟩ | with_reducible rfl) rfl ?_
 refine (cs _ c6 w3 r3).mono ?_
 rintro _ w5 ⟨rfl, hb5⟩
 refine ⟨_, rfl, ?_⟩
 simp only [nz]
 have ht5 := there_below (there_below (there_below ht1 hb2 hs1) hb3 (by have := hb2.size; omega)) hb5 (by have := hb2.size; have := hb3.size; omega)
 have B5 := ((B1.trans (hb2.mono B1.size)).trans (hb3.mono (Nat.le_trans B1.size hb2.size))).trans (hb5.mono (Nat.le_trans B1.size (Nat.le_trans hb2.size hb3.size)))
 have hth : w5.there A 0 (v8 m).length := by rw [v8_length, hml]; exact ht5
 have hid : (Tryz.prog.info? 32).map (·.size) = some (v8 m).length := by rw [v8_length, hml]; exact iszDg
 refine pl_store (w' := w5.setCells A 0 (v8 m)) (by rfl) (ex_put (cs := (v8 m).toArray) rfl rfl rfl (by simpa using hth) (by simpa using hid) (all_one (v8_one m))) rfl ?_
 refine pl_nil ?_
 have hrs := run_loadVar_mid (P := Tryz.prog) (w5.setCells A 0 (v8 m)) A 0 32 (v8 m) _ (World.rangeAt_setCells_same w5 A 0 (v8 m) hth) Tryz.underlying32 rfl hid
 have HB := hide (below_sets hwA (v8 m) 0 _ B5)
 clear cs cv hcv ht1 ht5 hth B1 B5 hb2 hb3 hb5 hr1 xa1 r3 cb
 go_wp2_with fail
 refine bodyPost_ret (results_cell rfl _ _ _ rfl hrs) rfl ?_
 exact ⟨rfl, HB.out⟩
end Go.Proofs.YtnfijfnnpbenfaaGreatDoor
namespace Go.Proofs.YtnfijfnnpbenfaaGreatDoor.Qs
open Go.RowKit
open Sha
end Go.Proofs.YtnfijfnnpbenfaaGreatDoor.Qs
namespace Go.Proofs.YtnfijfnnpbenfaaGreatDoor.Sha
open Go.Proofs.YtnfijfnnpbenfaaGreatDoor.Qs
open Go.RowKit
open Sha
def macKey (zs : List Int) : List Int := if 64 < zs.length then sha zs else zs
def macBlock (zs : List Int) : List Int := macKey zs ++ List.replicate (64 - (macKey zs).length) 0
end Go.Proofs.YtnfijfnnpbenfaaGreatDoor.Sha
namespace Go.Proofs.YtnfijfnnpbenfaaGreatDoor.Qs
open Go.RowKit
open Sha
theorem isz52 : (Tryz.prog.info? 144).map (·.size) = some 64 := by kernel_rfl
theorem macKey_len (zs : List Int) : (macKey zs).length ≤ 64 := by
 unfold macKey
 split
 ·rw [sha_length]; omega
 ·omega
theorem macBlock_len (zs : List Int) : (macBlock zs).length = 64 := by
 have := macKey_len zs
 simp [macBlock]; omega
theorem new64 (w : World) : (w.alloc (.cells (Array.replicate 64 (.int .u8 0)) 144)).rangeAt w.heap.size 0 (v8 (List.replicate 64 (0 : Int))) ∧ (w.alloc (.cells (Array.replicate 64 (.int .u8 0)) 144)).there w.heap.size 0 64 := new_bytes w 64 144
theorem copy_head (w : World) (B : Nat) (a : Option Addr) (cap : Nat) (ks : List Int) (hl : ks.length ≤ 64) (h : RowAt w a ks) (hT : w.there B 0 64) (hz : w.rangeAt B 0 (v8 (List.replicate 64 (0 : Int)))) :
  ∃ w', (Builtin.copy_ #[57, 57] 3 #[.slice (some ⟨B, 0, none⟩) 64 64, .slice a ks.length cap]).run Tryz.prog w = .ok (goInt ks.length) w' ∧ w'.rangeAt B 0 (v8 (ks ++ List.replicate (64 - ks.length) (0 : Int))) ∧ w' = w.setCells B 0 (v8 ks) := by
 rcases h.2.2 with rfl | ⟨b, off, rfl, hb, hr⟩
 ·exact ⟨w, run_copy_none (P := Tryz.prog) w 57 57 3 5 _ a 64 64 0 cap Tryz.underlying57 isz8 rfl, by simpa using hz, rfl⟩
 ·refine ⟨w.setCells B 0 (v8 ks), ?_, ?_, rfl⟩
  ·have := run_copy_cells (P := Tryz.prog) w 57 57 3 5 B 0 64 64 ⟨b, off, none⟩ ks.length cap (v8 ks) Tryz.underlying57 isz8 (by rw [v8_length]; exact (Nat.min_eq_left hl).symm) (fun j v hv => by rw [Addr.add_mid]; exact hr j v hv) (fun j hj => by rw [v8_length] at hj; exact (hT j (by omega)).1) (fun j hj => by rw [v8_length] at hj; exact (hT j (by omega)).2) (v8_one _)
   rw [v8_length] at this
   exact this
  ·have e0 : List.replicate 64 (0 : Int) = [] ++ List.replicate ks.length (0 : Int) ++ List.replicate (64 - ks.length) (0 : Int) := by
    rw [List.nil_append, List.replicate_append_replicate]; congr 1; omega
   rw [e0, v8_append, v8_append] at hz
   have := range_fill (vs := v8 ks) hz (by simp) (by
    rw [v8_length]
    have := there_part hT 0 ks.length (by omega)
    simpa [v8] using this)
   rw [← v8_append, ← v8_append] at this
   simpa [v8] using this
set_option maxRecDepth 20000 in
set_option maxHeartbeats 1000000 in
theorem blockOf_any (a : Option Addr) (cap : Nat) (zs : List Int) (w : World) (hG : Glob w) (h : RowAt w a zs) (hc : zs.length ≤ cap) (hm : cap ≤ maxLen) (hl : zs.length ≤ 1000000) :
   Calls Tryz.prog 84 #[.slice a zs.length cap] w fun e w' => e = .returned (.agg (v8 (macBlock zs)).toArray) ∧ Below w.heap.size w w' := by
  go_enter Tryz.func84, Tryz.ntmps84
  go_upto_region 2 with fail
  go_name_world w1 hw1
  obtain ⟨hB1, hZ, hT, hT0, hz1⟩ : Below w.heap.size w w1 ∧ w1.rangeAt (w.heap.size + 1) 0 (v8 (List.replicate 64 (0 : Int))) ∧ w1.there (w.heap.size + 1) 0 64 ∧ w1.there w.heap.size 0 64 ∧ w1.heap.size = w.heap.size + 2 := by
    have q := new64 (w.alloc (.cells (Array.replicate 64 (.int .u8 0)) 144))
    have q2 := World.there_alloc (new64 w).2 (.cells (Array.replicate 64 (.int .u8 0)) 144)
    have es : (w.alloc (.cells (Array.replicate 64 (.int .u8 0)) 144)).heap.size = w.heap.size + 1 := by simp
    have hB : Below w.heap.size w ((w.alloc (.cells (Array.replicate 64 (.int .u8 0)) 144)).alloc (.cells (Array.replicate 64 (.int .u8 0)) 144)) := ((Below.refl _ _).alloc (Nat.le_refl _) _).alloc (by simp) _
    have hs : ((w.alloc (.cells (Array.replicate 64 (.int .u8 0)) 144)).alloc (.cells (Array.replicate 64 (.int .u8 0)) 144)).heap.size = w.heap.size + 2 := by simp
    rw [es] at q
    rw [show (w.alloc (.cells (Array.replicate 64 (.int .u8 0)) 144)).alloc (.cells (Array.replicate 64 (.int .u8 0)) 144) = w1 from hw1] at q q2 hB hs
    exact ⟨hB, q.1, q.2, q2, hs⟩
  clear hw1
  have HZ1 : Hid (w1.heap.size = w.heap.size + 2) := hz1
  clear hz1
  have fin : ∀ (w3 : World) (ks : List Int), ks = macKey zs → w3.rangeAt (w.heap.size + 1) 0 (v8 (ks ++ List.replicate (64 - ks.length) (0 : Int))) → w3.rangeAt (w.heap.size + 1) 0 (v8 (macBlock zs)) := fun w3 ks e hr => by rw [e] at hr; exact hr
  by_cases hlt : 64 < zs.length
  · have hltI : (64 : Int) < zs.length := by omega
    have ek : macKey zs = sha zs := by unfold macKey; rw [if_pos hlt]
    have hat : (⟨a, cap, zs⟩ : Part).at w1 := Part.at.below (w := w) ⟨h, hc, hm⟩ hB1
    have hP := one_part w1 #[.slice a zs.length cap] ⟨a, cap, zs⟩ hat rfl
    have hBp : Below w.heap.size w (w1.alloc (.cells #[.slice a zs.length cap] 57)) := hB1.alloc hB1.size _
    have hcz : cat [(⟨a, cap, zs⟩ : Part)] = zs := by simp [cat]
    have c1 := sum_any _ 1 _ _ (hG.below hBp) hP (by rw [hcz]; omega)
    rw [hcz] at c1
    simp only [List.length_cons, List.length_nil, Nat.zero_add] at c1
    have hBq : Below w1.heap.size w1 (w1.alloc (.cells #[.slice a zs.length cap] 57)) := (Below.refl _ _).alloc (Nat.le_refl _) _
    obtain ⟨d, hd⟩ : ∃ d, Hid (sha zs = d) := ⟨_, rfl⟩
    have hdl : d.length = 32 := by rw [← hd.out]; exact sha_length zs
    have hdo : ∀ z ∈ d, 0 ≤ z ∧ z < 256 := by rw [← hd.out]; exact sha_ok zs
    rw [hd.out] at c1 ek
    clear hP hat hcz
    go_wp2_with fail
    refine c1.mono ?_
    rintro e w2 ⟨rfl, hw2⟩
    have hw2' : Below w1.heap.size w1 w2 := hBq.trans (hw2.mono hBq.size)
    clear c1 hw2 hBq hBp
    have hd1 : (v8 d).length = 32 := by rw [v8_length, hdl]
    have F := fresh_store w2 (Array.replicate 32 (.int .u8 0)) 32 (v8 d) (by rw [hd1]; rfl)
    have hi24 : (Tryz.prog.info? 32).map (·.size) = some (v8 d).toArray.size := by rw [List.size_toArray, hd1]; exact isz24
    have hN24 : (w2.alloc (.cells (Array.replicate 32 (.int .u8 0)) 32)).there w2.heap.size 0 (v8 d).toArray.size := by
      have e : (v8 d).toArray.size = 32 := by rw [List.size_toArray, hd1]
      rw [e]; exact (new_bytes w2 32 32).2
    have h1d := all_oneCell_toArray (v8_one d)
    go_upto_region 4 with (refine wpList_store_mid (op := ⟨none, .store 32 (.tmp 4) (.tmp 10), _, _, _, none⟩) rfl 32 _ _ rfl _ _ (v8 d).toArray rfl rfl hN24 hi24 h1d ?_)
    go_name_world w4 hw4
    rw [show (w2.alloc (.cells (Array.replicate 32 (.int .u8 0)) 32)).setCells w2.heap.size 0 (v8 d) = w4 from hw4] at F
    obtain ⟨hRd, hBd, hzd, _⟩ := F
    have hw4' : Below w1.heap.size w1 w4 := hw2'.trans (hBd.mono hw2'.size)
    have hB4 : Below w.heap.size w w4 := hB1.trans (hw4'.mono hB1.size)
    have hZ4 := range_below hZ hw4' (by have := HZ1.out; omega)
    have hT4 := there_below hT hw4' (by have := HZ1.out; omega)
    have hT04 := there_below hT0 hw4' (by have := HZ1.out; omega)
    have hrow : RowAt w4 (some ⟨w2.heap.size, 0, none⟩) d := ⟨by rw [hdl]; unfold maxLen; omega, hdo, Or.inr ⟨_, _, rfl, by omega, hRd⟩⟩
    obtain ⟨w3, hcp, hr3, hw3⟩ := copy_head w4 (w.heap.size + 1) (some ⟨w2.heap.size, 0, none⟩) 32 d (by omega) hrow hT4 hZ4
    have hsl := slice_all (w := w4) Tryz.underlying144 isz8 (w.heap.size + 1) 0 (by omega)
    have hsl2 := slice_all (w := w4) Tryz.underlying32 isz8 w2.heap.size 0 (by omega)
    have hR3 := fin w3 d ek.symm hr3
    have hB3 : Below w.heap.size w w3 := by rw [hw3]; exact below_sets (Nat.le_succ _) _ _ _ hB4
    have hT3 : w3.there w.heap.size 0 64 := by rw [hw3]; exact World.there_setCells hT04 _ _ _
    have hml := macBlock_len zs
    rw [hdl] at hcp
    clear fin hr3 ek hw4 hN24 hi24 h1d hd1 hZ hT hT0 hB1
    simp only [Act.put]
    go_upto_region 6 with fail
    rw [← hw3]
    obtain ⟨cs, hcs⟩ : ∃ cs, Hid (v8 (macBlock zs) = cs) := ⟨_, rfl⟩
    have hcl : cs.length = 64 := by rw [← hcs.out, v8_length, hml]
    have h1c : ∀ v ∈ cs, v.oneCell' = true := by rw [← hcs.out]; exact v8_one _
    rw [hcs.out] at hR3
    have hi : (Tryz.prog.info? 144).map (·.size) = some cs.length := by rw [hcl]; exact isz52
    clear hw3
    refine wp_region_list ?_
    refine wpList_load_mid rfl 144 _ rfl _ _ rfl cs _ hR3 Tryz.underlying144 rfl hi ?_
    refine wpList_store_mid rfl 144 _ _ rfl _ _ cs.toArray rfl rfl (by simpa [hcl] using hT3) (by simpa using hi) (all_oneCell_toArray h1c) ?_
    have hRr := World.rangeAt_setCells_same w3 w.heap.size 0 cs (by rw [hcl]; exact hT3)
    have hBl := below_sets (Nat.le_refl w.heap.size) cs 0 w3 hB3
    generalize w3.setCells w.heap.size 0 cs = wx at *
    have hrs := run_loadVar_mid (P := Tryz.prog) wx w.heap.size 0 144 cs _ hRr Tryz.underlying144 rfl hi
    clear hi
    go_wp2_with fail
    refine bodyPost_ret (v := .agg cs.toArray) (by simp [results, Tryz.results84, Act.put, asAddr, hrs]) rfl ⟨by rw [hcs.out], hBl⟩
  · have hltI : ¬ (64 : Int) < zs.length := by omega
    have ek : macKey zs = zs := by unfold macKey; rw [if_neg hlt]
    obtain ⟨w3, hcp, hr3, hw3⟩ := copy_head w1 (w.heap.size + 1) a cap zs (by omega) (h.below hB1) hT hZ
    have hsl := slice_all (w := w1) Tryz.underlying144 isz8 (w.heap.size + 1) 0 (by omega)
    have hR3 := fin w3 zs ek.symm hr3
    have hB3 : Below w.heap.size w w3 := by rw [hw3]; exact below_sets (Nat.le_succ _) _ _ _ hB1
    have hT3 : w3.there w.heap.size 0 64 := by rw [hw3]; exact World.there_setCells hT0 _ _ _
    have hml := macBlock_len zs
    clear fin hr3 ek
    go_upto_region 6 with fail
    rw [← hw3]
    obtain ⟨cs, hcs⟩ : ∃ cs, Hid (v8 (macBlock zs) = cs) := ⟨_, rfl⟩
    have hcl : cs.length = 64 := by rw [← hcs.out, v8_length, hml]
    have h1c : ∀ v ∈ cs, v.oneCell' = true := by rw [← hcs.out]; exact v8_one _
    rw [hcs.out] at hR3
    have hi : (Tryz.prog.info? 144).map (·.size) = some cs.length := by rw [hcl]; exact isz52
    clear hw3
    refine wp_region_list ?_
    refine wpList_load_mid rfl 144 _ rfl _ _ rfl cs _ hR3 Tryz.underlying144 rfl hi ?_
    refine wpList_store_mid rfl 144 _ _ rfl _ _ cs.toArray rfl rfl (by simpa [hcl] using hT3) (by simpa using hi) (all_oneCell_toArray h1c) ?_
    have hRr := World.rangeAt_setCells_same w3 w.heap.size 0 cs (by rw [hcl]; exact hT3)
    have hBl := below_sets (Nat.le_refl w.heap.size) cs 0 w3 hB3
    generalize w3.setCells w.heap.size 0 cs = wx at *
    have hrs := run_loadVar_mid (P := Tryz.prog) wx w.heap.size 0 144 cs _ hRr Tryz.underlying144 rfl hi
    clear hi
    go_wp2_with fail
    refine bodyPost_ret (v := .agg cs.toArray) (by simp [results, Tryz.results84, asAddr, hrs]) rfl ⟨by rw [hcs.out], hBl⟩
def xorB (x z : Int) : Int := bits .xor .u8 z x
theorem xorB_ok (x z : Int) : 0 ≤ xorB x z ∧ xorB x z < 256 := by
 unfold xorB
 show 0 ≤ IntKind.u8.wrap _ ∧ IntKind.u8.wrap _ < 256
 rw [IntKind.wrap_u8]; omega
def xorL (x : Int) (zs : List Int) : List Int := zs.map (xorB x)
theorem xorL_ok (x : Int) (zs : List Int) : ∀ z ∈ xorL x zs, 0 ≤ z ∧ z < 256 := fun z hz => by
 obtain ⟨u, _, rfl⟩ := List.mem_map.1 hz; exact xorB_ok x u
theorem xorL_len (x : Int) (zs : List Int) : (xorL x zs).length = zs.length := by simp [xorL]
theorem parts_src {w : World} {a : Option Addr} {ps : List Part} (h : PartsAt w a ps) (cap : Nat) : Src Tryz.prog 1 141 (.slice a ps.length cap) ps.length (ps.map Part.val) w := by
 have one : ∀ u ∈ ps.map Part.val, u.oneCell' = true := fun u hu => by
  obtain ⟨p, _, rfl⟩ := List.mem_map.1 hu; rfl
 cases a with
 | none =>
  have : ps = [] := by
   rcases h.2.2 with q | ⟨b, off, hx, _⟩
   ·exact q
   ·cases hx
  subst this
  exact Src.ofNil w Tryz.underlying141 cap
 | some y =>
  refine Src.ofSlice w Tryz.underlying141 y ps.length cap _ (by simp) (fun j u hu => ?_) one
  rcases h.2.2 with rfl | ⟨b, off, hx, _, hr⟩
  ·simp at hu
  ·cases hx
   rw [Addr.add_mid]
   exact hr j u hu
set_option maxRecDepth 20000 in
set_option maxHeartbeats 1000000 in
theorem macC_any (x : Int) (K : Nat) (kb : List Int) (a : Option Addr) (cap : Nat) (ps : List Part) (w : World) (hG : Glob w) (hkl : kb.length = 64) (hK : w.rangeAt K 0 (v8 kb)) (hKs : K < w.heap.size) (h : PartsAt w a ps) (hn : (cat ps).length < 1000000) (hpl : ps.length ≤ 100000) :
   Calls Tryz.prog 85 #[.int .u8 x, .slice a ps.length cap, .pointer (some ⟨K, 0, none⟩)] w fun e w' => e = .returned (.agg (v8 (sha (xorL x kb ++ cat ps))).toArray) ∧ Below w.heap.size w w' := by
  have hBr : Below w.heap.size w (w.alloc (.cells (Array.replicate 32 (.int .u8 0)) 32)) := (Below.refl _ _).alloc (Nat.le_refl _) _
  have hT0 := (new_bytes w 32 32).2
  have hK1 := range_below hK hBr hKs
  have hvl : (v8 kb).length = 64 := by rw [v8_length, hkl]
  have hi : (Tryz.prog.info? 144).map (·.size) = some (v8 kb).length := by rw [hvl]; exact isz52
  have hi' : (Tryz.prog.info? 144).map (·.size) = some (v8 kb).toArray.size := by rw [List.size_toArray]; exact hi
  have hN := (new64 (w.alloc (.cells (Array.replicate 32 (.int .u8 0)) 32))).2
  have hN' : ((w.alloc (.cells (Array.replicate 32 (.int .u8 0)) 32)).alloc (.cells (Array.replicate 64 (.int .u8 0)) 144)).there (w.heap.size + 1) 0 (v8 kb).toArray.size := by
    have e : (v8 kb).toArray.size = 64 := by rw [List.size_toArray, hvl]
    rw [e]
    have es : (w.alloc (.cells (Array.replicate 32 (.int .u8 0)) 32)).heap.size = w.heap.size + 1 := by simp
    rw [es] at hN
    exact hN
  have h1c := all_oneCell_toArray (v8_one kb)
  have F := fresh_store (w.alloc (.cells (Array.replicate 32 (.int .u8 0)) 32)) (Array.replicate 64 (.int .u8 0)) 144 (v8 kb) (by rw [hvl]; rfl)
  have es : (w.alloc (.cells (Array.replicate 32 (.int .u8 0)) 32)).heap.size = w.heap.size + 1 := by simp
  rw [es] at F
  clear hN
  go_enter Tryz.func85, Tryz.ntmps85
  go_upto_region 2 with (first | refine wpList_load_mid (op := ⟨some 9, .load 144 (.tmp 2), _, _, _, none⟩) rfl 144 _ rfl _ _ rfl (v8 kb) _ hK1 Tryz.underlying144 rfl hi ?_ | refine wpList_store_mid (op := ⟨none, .store 144 (.tmp 6) (.tmp 9), _, _, _, none⟩) rfl 144 _ _ rfl _ _ (v8 kb).toArray rfl rfl hN' hi' h1c ?_)
  go_name_world w1 hw1
  rw [show ((w.alloc (.cells (Array.replicate 32 (.int .u8 0)) 32)).alloc (.cells (Array.replicate 64 (.int .u8 0)) 144)).setCells (w.heap.size + 1) 0 (v8 kb) = w1 from hw1] at F
  obtain ⟨hR1, hB1', hz1, hT1⟩ := F
  have hB1 : Below w.heap.size w w1 := hBr.trans (hB1'.mono (by omega))
  have hT01 := there_below hT0 hB1' (by omega)
  have hT1' : w1.there (w.heap.size + 1) 0 64 := by simpa using hT1
  clear hw1 hB1' hT1 hN' hi hi' h1c hvl hK1 hT0 hBr es hz1
  simp only [Act.put]
  go_wp2_with fail
  go_loopw [10] (fun i wr => ∃ k : Nat, k ≤ 64 ∧ i = .int .i64 (k : Int) ∧ wr.rangeAt (w.heap.size + 1) 0 (v8 (xorL x (kb.take k) ++ kb.drop k)) ∧ wr.there (w.heap.size + 1) 0 64 ∧ wr.there w.heap.size 0 32 ∧ Below w.heap.size w wr ∧ w.heap.size + 1 < wr.heap.size) (fun i _ => 64 - (intOf i).toNat)
  case atStart => exact ⟨0, by omega, rfl, by simpa [xorL] using hR1, hT1', hT01, hB1, World.block_lt_of_cell? w1 _ (hR1 0 (.int .u8 (kb.getD 0 0)) (by
      have h0 : 0 < kb.length := by omega
      simp [v8, List.getElem?_eq_getElem h0]))⟩
  case round =>
    clear hR1 hT1' hT01 hB1
    obtain ⟨k, hk, rfl, hR, hT, hT0, hB, hsz⟩ := hrel
    by_cases hlt : k < 64
    · have hlk : k < kb.length := by omega
      obtain ⟨z, hz⟩ : ∃ z, Hid (kb[k] = z) := ⟨kb[k], (rfl : kb[k] = kb[k])⟩
      have hcell : wr.cell? ⟨w.heap.size + 1, k, none⟩ = some (.int .u8 z) := by
        have := hR k (.int .u8 z) (by
          unfold v8
          rw [List.map_append, List.getElem?_append_right (by rw [List.length_map, xorL_len, List.length_take]; omega), List.length_map, xorL_len, List.length_take_of_le (by omega), Nat.sub_self, List.getElem?_map, List.getElem?_drop, Nat.add_zero, List.getElem?_eq_getElem hlk, hz.out]
          rfl)
        rwa [Nat.zero_add] at this
      have hf := (hT k (by omega)).2
      rw [Nat.zero_add] at hf
      have HE : Hid (bits .xor .u8 z x = xorB x z) := rfl
      go_wp2_with fail
      rw [HE.out]
      go_roundw
      case rel =>
        refine ⟨k + 1, by omega, by go_num, ?_, there_set hT _ _, there_set hT0 _ _, hB.setCell (p := ⟨w.heap.size + 1, k, none⟩) (by simp) _, by simpa using hsz⟩
        have := range_set hR k (.int .u8 (xorB x z))
        rw [Nat.zero_add, v8_set] at this
        have e1 : (xorL x (kb.take k) ++ kb.drop k).set k (xorB x z) = xorL x (kb.take (k + 1)) ++ kb.drop (k + 1) := by
          have hl : (xorL x (kb.take k)).length = k := by rw [xorL_len, List.length_take_of_le (by omega)]
          rw [List.set_append_right _ _ (by omega), hl, Nat.sub_self, List.drop_eq_getElem_cons hlk, hz.out, List.set_cons_zero, List.take_succ_eq_append_getElem hlk, hz.out]
          simp [xorL]
        rw [e1] at this
        exact this
      case measure => simp [intOf]; omega
    · have hk64 : k = 64 := by omega
      have hkI : ¬ (k : Int) < 64 := by omega
      have hR64 : wr.rangeAt (w.heap.size + 1) 0 (v8 (xorL x kb)) := by
        rw [List.take_of_length_le (by omega), List.drop_eq_nil_of_le (by omega), List.append_nil] at hR
        exact hR
      clear hR hk64
      have hPw := h.below hB
      obtain ⟨i0, hi, hz0, hz1, hz2⟩ := info_parts infoP
      obtain ⟨w3, hmk, hown3, hgr3⟩ := run_makeSlice_owned (P := Tryz.prog) wr (w.heap.size + 2) 141 57 i0 (.slice none 0 0) 1 Tryz.underlying141 hi hz0 hz1 .i64 .i64 (1 + ps.length) (by omega) (by rw [hz2]; omega) (by unfold maxLen; omega) (by omega)
      have hmk' : (Instr.makeSlice 141 (.int .i64 0) (.int .i64 (1 + (ps.length : Int)))).run Tryz.prog wr = .ok (.slice (some ⟨wr.heap.size, 0, none⟩) 0 (1 + ps.length)) w3 := by
        have := hmk
        rw [show ((1 + ps.length : Nat) : Int) = 1 + (ps.length : Int) by omega] at this
        exact this
      have hw3 : Below (w.heap.size + 2) wr w3 := (Below.refl _ _).grown hgr3 (by omega) (fun _ h => by cases h)
      have hs3 : wr.heap.size ≤ w3.heap.size := hw3.size
      clear hmk hgr3
      obtain ⟨c0, hc0⟩ : ∃ c0, Hid (1 + ps.length = c0) := ⟨_, rfl⟩
      have hown4 := owns_below hown3 ((Below.refl w3.heap.size w3).alloc (Nat.le_refl _) (.cells #[.slice (some ⟨w.heap.size + 1, 0, none⟩) 64 64] 57))
      have hB4 : Below (w.heap.size + 2) wr (w3.alloc (.cells #[.slice (some ⟨w.heap.size + 1, 0, none⟩) 64 64] 57)) := hw3.alloc (by omega) _
      have hxl : (xorL x kb).length = 64 := by rw [xorL_len, hkl]
      have hsrc : Src Tryz.prog 1 141 (.slice (some ⟨w3.heap.size, 0, none⟩) 1 1) 1 [.slice (some ⟨w.heap.size + 1, 0, none⟩) 64 64] (w3.alloc (.cells #[.slice (some ⟨w.heap.size + 1, 0, none⟩) 64 64] 57)) := by
        have := one_src w3 ⟨some ⟨w.heap.size + 1, 0, none⟩, 64, xorL x kb⟩
        unfold Part.val at this
        rw [hxl] at this
        exact this
      have hsl := slice_all (w := w3) Tryz.underlying144 isz8 (w.heap.size + 1) 0 (by omega)
      go_wp2_with (at_builtin; refine wpList_append_own_src _ rfl _ _ 141 141 rfl (w.heap.size + 2) 57 i0 (.slice none 0 0) 1 24 Tryz.underlying141 hi hz0 hz1 hz2 rfl _ 0 _ rfl hown4 _ 1 _ rfl hsrc ?c1 ?c2 ?c3 ?_)
      case c1 => unfold maxLen; omega
      case c3 => omega
      intro v5 w5 hown5 hgr5
      have hB5 := below_grown hB4 (by simp; omega) hown4 hgr5
      have hown5' : w5.ownsRow (w.heap.size + 2) 57 1 v5 1 [.slice (some ⟨w.heap.size + 1, 0, none⟩) 64 64] := by simpa using hown5
      have hs5 : wr.heap.size ≤ w5.heap.size := hB5.size
      have hBw5 : Below w.heap.size w w5 := hB.trans (hB5.mono (by omega))
      have hP5 := h.below hBw5
      have hsrc5 := parts_src hP5 cap
      clear hown4 hB4 hsrc hgr5 hown3 hmk' hsl hw3 hown5
      obtain ⟨va, vc, rfl⟩ : ∃ a c, v5 = .slice a 1 c := by
        rcases own_range hown5' with ⟨_, h0, _⟩ | ⟨g, c, e, _⟩
        · omega
        · exact ⟨_, c, e⟩
      go_wp2_with (at_builtin; refine wpList_append_own_src _ rfl _ _ 141 141 rfl (w.heap.size + 2) 57 i0 (.slice none 0 0) 1 24 Tryz.underlying141 hi hz0 hz1 hz2 rfl _ 1 _ rfl hown5' _ ps.length _ rfl hsrc5 ?d1 ?d2 ?d3 ?_)
      case d1 => unfold maxLen; omega
      case d2 => omega
      case d3 => omega
      intro v6 w6 hown6 hgr6
      have hB6 := below_grown hB5 (by omega) hown5' hgr6
      have hBw6 : Below w.heap.size w w6 := hB.trans (hB6.mono (by omega))
      have hs6 : wr.heap.size ≤ w6.heap.size := hB6.size
      have hR6 := range_below hR64 hB6 (by omega)
      have hT6 := there_below hT0 hB6 (by omega)
      have hat : (⟨some ⟨w.heap.size + 1, 0, none⟩, 64, xorL x kb⟩ : Part).at w6 := ⟨⟨by rw [hxl]; unfold maxLen; omega, xorL_ok x kb, Or.inr ⟨_, _, rfl, by omega, hR6⟩⟩, by show (xorL x kb).length ≤ 64; omega, by show 64 ≤ maxLen; unfold maxLen; omega⟩
      have hown7 : w6.ownsRow (w.heap.size + 2) 57 1 v6 ((⟨some ⟨w.heap.size + 1, 0, none⟩, 64, xorL x kb⟩ : Part) :: ps).length (((⟨some ⟨w.heap.size + 1, 0, none⟩, 64, xorL x kb⟩ : Part) :: ps).map Part.val) := by
        have e : ((⟨some ⟨w.heap.size + 1, 0, none⟩, 64, xorL x kb⟩ : Part) :: ps).map Part.val = [.slice (some ⟨w.heap.size + 1, 0, none⟩) 64 64] ++ ps.map Part.val := by
          simp only [List.map_cons, Part.val, hxl]; rfl
        rw [e, List.length_cons, Nat.add_comm ps.length 1]
        exact hown6
      obtain ⟨av, cv, rfl, hPA⟩ := own_parts hown7 (fun p hp => by
        rcases List.mem_cons.1 hp with rfl | hp
        · exact hat
        · exact (h.2.1 p hp).below hBw6) (by simp; unfold maxLen; omega)
      have hcat : cat ((⟨some ⟨w.heap.size + 1, 0, none⟩, 64, xorL x kb⟩ : Part) :: ps) = xorL x kb ++ cat ps := by simp [cat]
      have c1 := sum_any av cv _ w6 (hG.below hBw6) hPA (by rw [hcat, List.length_append, hxl]; omega)
      rw [hcat] at c1
      have hlen : ((⟨some ⟨w.heap.size + 1, 0, none⟩, 64, xorL x kb⟩ : Part) :: ps).length = 1 + ps.length := by simp; omega
      rw [hlen] at c1 ⊢
      obtain ⟨d, hd⟩ : ∃ d, Hid (v8 (sha (xorL x kb ++ cat ps)) = d) := ⟨_, rfl⟩
      have hdl : d.length = 32 := by rw [← hd.out, v8_length, sha_length]
      have h1d : ∀ v ∈ d, v.oneCell' = true := by rw [← hd.out]; exact v8_one _
      rw [hd.out] at c1
      clear hown6 hown7 hPA hcat hlen hgr6 hB6 hB5 hown5' hsrc5 hP5 hat hR6
      go_wp2_with fail
      refine c1.mono ?_
      rintro e w7 ⟨rfl, hw7⟩
      have hB7 := hBw6.trans (hw7.mono hBw6.size)
      have hT7 := there_below hT6 hw7 (by omega)
      have hi24 : (Tryz.prog.info? 32).map (·.size) = some d.toArray.size := by rw [List.size_toArray, hdl]; exact isz24
      have hsz24 : d.toArray.size = 32 := by rw [List.size_toArray, hdl]
      have hT7' : w7.there w.heap.size 0 d.toArray.size := by rw [hsz24]; exact hT7
      clear c1 hw7
      go_wp2_with (refine wpList_store_mid (op := ⟨none, .store 32 (.tmp 5) (.tmp 31), _, _, _, none⟩) rfl 32 _ _ rfl _ _ d.toArray rfl rfl hT7' hi24 (all_oneCell_toArray h1d) ?_)
      have hRr := World.rangeAt_setCells_same w7 w.heap.size 0 d (by rw [hdl]; exact hT7)
      have hBl := below_sets (Nat.le_refl w.heap.size) d 0 w7 hB7
      have hrs := run_loadVar_mid (P := Tryz.prog) (w7.setCells w.heap.size 0 d) w.heap.size 0 32 d _ hRr Tryz.underlying32 rfl (by rw [hdl]; exact isz24)
      refine bodyPost_ret (v := .agg d.toArray) (by simp [results, Tryz.results85, Act.put, asAddr, hrs]) rfl ⟨by rw [hd.out], hBl⟩
end Go.Proofs.YtnfijfnnpbenfaaGreatDoor.Qs
namespace Go.Proofs.YtnfijfnnpbenfaaGreatDoor.Sha
open Go.Proofs.YtnfijfnnpbenfaaGreatDoor.Qs
open Go.RowKit
open Sha
def mac (key zs : List Int) : List Int := sha (xorL 92 (macBlock key) ++ sha (xorL 54 (macBlock key) ++ zs))
end Go.Proofs.YtnfijfnnpbenfaaGreatDoor.Sha
namespace Go.Proofs.YtnfijfnnpbenfaaGreatDoor.Qs
open Go.RowKit
open Sha
theorem mac_length (key zs : List Int) : (mac key zs).length = 32 := sha_length _
theorem mac_ok (key zs : List Int) : ∀ z ∈ mac key zs, 0 ≤ z ∧ z < 256 := sha_ok _
theorem there24 (w : World) (d : List Int) (hd : d.length = 32) : (w.alloc (.cells (Array.replicate 32 (.int .u8 0)) 32)).there w.heap.size 0 (v8 d).toArray.size := by
 have e : (v8 d).toArray.size = 32 := by rw [List.size_toArray, v8_length, hd]
 rw [e]; exact (new_bytes w 32 32).2
theorem info24 (d : List Int) (hd : d.length = 32) : (Tryz.prog.info? 32).map (·.size) = some (v8 d).toArray.size := by rw [List.size_toArray, v8_length, hd]; exact isz24
set_option maxRecDepth 20000 in
set_option maxHeartbeats 1000000 in
theorem mac_any (ka : Option Addr) (kc : Nat) (key : List Int) (a : Option Addr) (cap : Nat) (ps : List Part) (w : World) (hG : Glob w) (hk : RowAt w ka key) (hkc : key.length ≤ kc) (hkm : kc ≤ maxLen) (hkl : key.length ≤ 1000000) (h : PartsAt w a ps) (hn : (cat ps).length < 1000000) (hpl : ps.length ≤ 100000) :
   Calls Tryz.prog 44 #[.slice ka key.length kc, .slice a ps.length cap] w fun e w' => e = .returned (.agg (v8 (mac key (cat ps))).toArray) ∧ Below w.heap.size w w' := by
  have hB0 : Below w.heap.size w (w.alloc (.cells (Array.replicate 32 (.int .u8 0)) 32)) := (Below.refl _ _).alloc (Nat.le_refl _) _
  have hT0 := (new_bytes w 32 32).2
  have cb := blockOf_any ka kc key _ (hG.below hB0) (hk.below hB0) hkc hkm hkl
  obtain ⟨kb, hkb⟩ : ∃ kb, Hid (macBlock key = kb) := ⟨_, rfl⟩
  have hbl : kb.length = 64 := by rw [← hkb.out]; exact macBlock_len key
  have HM : Hid (mac key (cat ps) = sha (xorL 92 kb ++ sha (xorL 54 kb ++ cat ps))) := by rw [← hkb.out]; rfl
  rw [hkb.out] at cb
  clear hkb
  have hsb : (v8 kb).length = 64 := by rw [v8_length, hbl]
  go_enter Tryz.func44, Tryz.ntmps44
  go_wp2_with fail
  refine cb.mono ?_
  rintro e w1 ⟨rfl, hw1⟩
  clear cb
  have hB1 := hB0.trans (hw1.mono hB0.size)
  have hs1 := hw1.size
  simp only [World.size_alloc] at hs1
  have hT1 := there_below hT0 hw1 (by simp)
  have F := fresh_store w1 (Array.replicate 64 (.int .u8 0)) 144 (v8 kb) (by rw [hsb]; rfl)
  have hN : (w1.alloc (.cells (Array.replicate 64 (.int .u8 0)) 144)).there w1.heap.size 0 (v8 kb).toArray.size := by
    have e : (v8 kb).toArray.size = 64 := by rw [List.size_toArray, hsb]
    rw [e]; exact (new64 w1).2
  have hi : (Tryz.prog.info? 144).map (·.size) = some (v8 kb).toArray.size := by rw [List.size_toArray, hsb]; exact isz52
  have h1c := all_oneCell_toArray (v8_one kb)
  go_upto_region 3 with (refine wpList_store_mid (op := ⟨none, .store 144 (.tmp 5) (.tmp 9), _, _, _, none⟩) rfl 144 _ _ rfl _ _ (v8 kb).toArray rfl rfl hN hi h1c ?_)
  go_name_world w2 hw2
  rw [show (w1.alloc (.cells (Array.replicate 64 (.int .u8 0)) 144)).setCells w1.heap.size 0 (v8 kb) = w2 from hw2] at F
  obtain ⟨hR2, hB2', hz2', _⟩ := F
  have hz2 : w1.heap.size < w2.heap.size := by omega
  clear hz2'
  clear hw2 hN hi h1c hw1 hT0 hB0
  have hB2 := hB1.trans (hB2'.mono hB1.size)
  have hT2 := there_below hT1 hB2' (by omega)
  have c1 := macC_any 54 w1.heap.size kb a cap ps w2 (hG.below hB2) hbl hR2 (by omega) (h.below hB2) hn hpl
  obtain ⟨d, hd⟩ : ∃ d, Hid (sha (xorL 54 kb ++ cat ps) = d) := ⟨_, rfl⟩
  have hdl : d.length = 32 := by rw [← hd.out]; exact sha_length _
  have hdo : ∀ z ∈ d, 0 ≤ z ∧ z < 256 := by rw [← hd.out]; exact sha_ok _
  rw [hd.out] at c1 HM
  clear hd hB1 hT1
  try simp only [Act.put]
  go_wp2_with fail
  refine c1.mono ?_
  rintro e w3 ⟨rfl, hw3⟩
  clear c1
  have hB3 := hB2.trans (hw3.mono hB2.size)
  have hT3 := there_below hT2 hw3 (by omega)
  have hR3 := range_below hR2 hw3 (by omega)
  have hs3 := hw3.size
  have F := fresh_store w3 (Array.replicate 32 (.int .u8 0)) 32 (v8 d) (by rw [v8_length, hdl]; rfl)
  have hN := there24 w3 d hdl
  have hi := info24 d hdl
  have h1c := all_oneCell_toArray (v8_one d)
  go_upto_region 4 with (refine wpList_store_mid (op := ⟨none, .store 32 (.tmp 7) (.tmp 13), _, _, _, none⟩) rfl 32 _ _ rfl _ _ (v8 d).toArray rfl rfl hN hi h1c ?_)
  go_name_world w4 hw4
  rw [show (w3.alloc (.cells (Array.replicate 32 (.int .u8 0)) 32)).setCells w3.heap.size 0 (v8 d) = w4 from hw4] at F
  obtain ⟨hR4, hB4', hz4', _⟩ := F
  have hz4 : w3.heap.size < w4.heap.size := by omega
  clear hz4'
  clear hw4 hN hi h1c hw3 hR2 hT2
  have hB4 := hB3.trans (hB4'.mono hB3.size)
  have hT4 := there_below hT3 hB4' (by omega)
  have hR4k := range_below hR3 hB4' (by omega)
  have hsl := slice_all (w := w4) Tryz.underlying32 isz8 w3.heap.size 0 (by omega)
  have hat : (⟨some ⟨w3.heap.size, 0, none⟩, 32, d⟩ : Part).at w4 := ⟨⟨by rw [hdl]; unfold maxLen; omega, hdo, Or.inr ⟨_, _, rfl, by omega, hR4⟩⟩, by show d.length ≤ 32; omega, by show 32 ≤ maxLen; unfold maxLen; omega⟩
  have hP := one_part w4 #[.slice (some ⟨w3.heap.size, 0, none⟩) 32 32] ⟨some ⟨w3.heap.size, 0, none⟩, 32, d⟩ hat (by simp only [Part.val, hdl])
  have hBp : Below w.heap.size w (w4.alloc (.cells #[.slice (some ⟨w3.heap.size, 0, none⟩) 32 32] 57)) := hB4.alloc hB4.size _
  have hBq : Below w4.heap.size w4 (w4.alloc (.cells #[.slice (some ⟨w3.heap.size, 0, none⟩) 32 32] 57)) := (Below.refl _ _).alloc (Nat.le_refl _) _
  have hcz : cat [(⟨some ⟨w3.heap.size, 0, none⟩, 32, d⟩ : Part)] = d := by simp [cat]
  have c2 := macC_any 92 w1.heap.size kb _ 1 _ _ (hG.below hBp) hbl (range_below hR4k hBq (by omega)) (by simp; omega) hP (by rw [hcz]; omega) (by simp)
  rw [hcz] at c2
  simp only [List.length_cons, List.length_nil, Nat.zero_add] at c2
  obtain ⟨m, hm⟩ : ∃ m, Hid (sha (xorL 92 kb ++ d) = m) := ⟨_, rfl⟩
  have hml : m.length = 32 := by rw [← hm.out]; exact sha_length _
  rw [hm.out] at c2 HM
  clear hP hat hcz hm
  try simp only [Act.put]
  go_wp2_with fail
  refine c2.mono ?_
  rintro e w5 ⟨rfl, hw5⟩
  clear c2
  have hB5 := hBp.trans (hw5.mono hBp.size)
  have hT5' := there_below (there_below hT4 hBq (by omega)) hw5 (by simp; omega)
  have hT5 : w5.there w.heap.size 0 (v8 m).toArray.size := by
    have e : (v8 m).toArray.size = 32 := by rw [List.size_toArray, v8_length, hml]
    rw [e]; exact hT5'
  have hi := info24 m hml
  have h1c := all_oneCell_toArray (v8_one m)
  clear hw5 hBq hBp
  go_wp2_with (refine wpList_store_mid (op := ⟨none, .store 32 (.tmp 4) (.tmp 17), _, _, _, none⟩) rfl 32 _ _ rfl _ _ (v8 m).toArray rfl rfl hT5 hi h1c ?_)
  have hRr := World.rangeAt_setCells_same w5 w.heap.size 0 (v8 m) (by rw [v8_length, hml]; exact hT5')
  have hBl := below_sets (Nat.le_refl w.heap.size) (v8 m) 0 w5 hB5
  have hrs := run_loadVar_mid (P := Tryz.prog) (w5.setCells w.heap.size 0 (v8 m)) w.heap.size 0 32 (v8 m) _ hRr Tryz.underlying32 rfl (by simpa using hi)
  refine bodyPost_ret (v := .agg (v8 m).toArray) (by simp [results, Tryz.results44, Act.put, asAddr, hrs]) rfl ⟨by rw [HM.out], hBl⟩
end Go.Proofs.YtnfijfnnpbenfaaGreatDoor.Qs
