/- Check of both; append(dst, src...) where dst is a row of the call's own (or nil) and src is whatever yields cells (a slice with an address, a nil slice, an empt -/
import Derived.Test.YtnfijfnnpbenfaaGreatDoorJM0
import Derived.Test.YtnfijfnnpbenfaaGreatDoorJM1
import Derived.Test.YtnfijfnnpbenfaaGreatDoorJM2
import Derived.Test.YtnfijfnnpbenfaaGreatDoorJM3
import Derived.Test.YtnfijfnnpbenfaaGreatDoorJM5
import Derived.Test.YtnfijfnnpbenfaaGreatDoorJM9
import Derived.Test.YtnfijfnnpbenfaaGreatDoorJM8
import Derived.Test.YtnfijfnnpbenfaaGreatDoorJM11
import Derived.Test.YtnfijfnnpbenfaaGreatDoorJM4
import Derived.WalkKit
import Derived.Deep.AppendSrc
import Derived.Test.YtnfijfnnpbenfaaGreatDoorRows
import Derived.Test.YtnfijfnnpbenfaaGreatDoorChecked
import Derived.WalkSpells
import Derived.RegionTactic
import Derived.ChangeAlike
import Derived.BigRegion
import Derived.Outline
import Derived.Deep.MidRow
import Derived.Below
import Derived.OwnWalk
import Derived.Laws.IdiomCopy
import Derived.Maps.OwnSet
import Derived.Deep.RegionHeld3
import Derived.Test.YtnfijfnnpbenfaaGreatDoorProg
import Derived.WalkLawsBesides
import Derived.Deep.OwnRows
import Derived.ProofKit
import Derived.OpenShut
import Derived.ShutString
import Derived.ChangeOld
namespace Go.Proofs.YtnfijfnnpbenfaaGreatDoor
open Go.RowKit
open Sha Tal
set_option linter.unusedVariables false
set_option linter.unusedSimpArgs false
open Qs (KeysAt SigsAt qcheckV okS checkOf refSignOf keysOf mostI)
theorem strOf_auxM : ∀ (zs : List Int) (r : ByteArray), (zs.foldl (fun r n => r.push (UInt8.ofNat n.toNat)) r).size = r.size + zs.length
  | [], r => by simp
  | z :: zs, r => by rw [List.foldl_cons, strOf_auxM zs, ByteArray.size_push, List.length_cons]; omega
theorem strOf_sizeM (zs : List Int) : (strOf zs).size = zs.length := by unfold strOf; rw [strOf_auxM]; simp
theorem parse_good {c : Ld.Cfg} {zs : List Int} (h : (parseS c zs).2 = 0) : (parseS c zs).1.good c = true := by
 unfold parseS at h ⊢
 split
 ·rename_i hd
  rw [if_pos hd] at h
  exact absurd h hd
 ·rename_i hd
  rw [if_neg hd] at h
  split
  ·assumption
  ·rename_i hg
   rw [if_neg hg] at h
   exact absurd h (by decide)
def bodyS (p : Sp) : ByteArray := optS (inB (p.e - 1) 1048576) (markL (p.e - 1) (sha (83 :: p.bytes)))
theorem bodyS_le (p : Sp) (h1 : -9223372036854775807 ≤ p.e) (h : p.e ≤ 9223372036854775807) : (bodyS p).size ≤ 1000 := by
 unfold bodyS optS
 split
 ·rw [← strL_length]
  have hl := markL_len (e := p.e - 1) (d := sha (83 :: p.bytes)) (by omega) (sha_length _)
  have hb := hl
  rw [strL_length]
  have : (strOf (markL (p.e - 1) (sha (83 :: p.bytes)))).size = (markL (p.e - 1) (sha (83 :: p.bytes))).length := strOf_sizeM _
  omega
 ·exact Nat.zero_le _
def chkS (V : Sp → Int) (c : Ld.Cfg) (zs : List Int) : Sp × Int := if (parseS c zs).2 ≠ 0 then (Sp.zero, (parseS c zs).2) else if (parseS c zs).1.e < 2 then (Sp.zero, 230) else if V (parseS c zs).1 ≠ 0 then (Sp.zero, V (parseS c zs).1) else ((parseS c zs).1, 0)
theorem dig_sp (x : Stt) : x.dig = sha (83 :: x.sp.bytes) := by unfold Stt.dig; rw [Stt.bytes_sp]
set_option maxRecDepth 100000 in
set_option maxHeartbeats 4000000 in
theorem ccheck_any (p : Option Addr) (ks : List (List Int)) (c : Ld.Cfg) (sb : ByteArray) (a : Option Addr) (cap : Nat) (rs : List Qs.Sg) (w : World) (hG : Glob w) (hk : KeysAt w p ks) (hks : ks ≠ []) (hs : sb.size ≤ 5000) (hat : SigsAt w a rs) (hlr : rs.length ≤ 100) :
  Calls Tryz.prog 7 #[.pointer p, .agg (cfgL c).toArray, .string sb, .slice a rs.length cap] w fun en w' => ParsA w (chkS (fun s => qcheckV (okS ks (bodyS s)) c.n rs (mostI c.n)) c (strL sb)) en w' := by
 obtain ⟨V, hV⟩ : ∃ V : Sp → Int, (fun s => qcheckV (okS ks (bodyS s)) c.n rs (mostI c.n)) = V := ⟨_, rfl⟩
 have hVs : ∀ s, V s = qcheckV (okS ks (bodyS s)) c.n rs (mostI c.n) := fun s => by rw [← hV]
 rw [hV]
 clear hV
 have cK := fun w0 h0 => Qs.klen_any p ks w0 h0
 have hkl : ks.length ≠ 0 := fun h => hks (List.eq_nil_of_length_eq_zero h)
 obtain ⟨kn, hkn⟩ : ∃ n, ks.length = n := ⟨_, rfl⟩
 simp only [hkn] at cK
 rw [hkn] at hkl
 have hknb : ((kn : Int) == 0) = false := by simpa using hkl
 have cQ := fun s w0 g k t => Qs.qcheck_any p ks c.n (bodyS s) a cap rs (mostI c.n) (by omega) w0 g k hks t
 have cM := fun w0 => Qs.most_any c.n w0
 obtain ⟨zc, hz0, hzl, hz1, hzr, hbn⟩ : ∃ z : List Value, Hid (z = Stt.zero.cells) ∧ z.length = 37 ∧ (∀ v ∈ z, v.oneCell' = true) ∧ (∀ w : World, (zeroValue 36).run Tryz.prog w = .ok (.agg z.toArray) w) ∧ (∀ w : World, (Instr.build 36 #[]).run Tryz.prog w = .ok (.agg z.toArray) w) := ⟨_, hide rfl, Stt.len Stt.zero_ok, Stt.one _, zeroS0, build_s0⟩
 have iu := iszCf c
 have hpg := parse_good (c := c) (zs := strL sb)
 have cP := fun w0 => sparse_any c sb w0 (by omega)
 unfold chkS
 unfold ParsA at cP
 generalize parseS c (strL sb) = pp at cP hpg ⊢
 obtain ⟨sp, d⟩ := pp
 simp only at cP hpg ⊢
 obtain ⟨PP, hPP⟩ : ∃ P, Hid ((if d ≠ 0 then (Sp.zero, d) else if sp.e < 2 then (Sp.zero, 230) else if V sp ≠ 0 then (Sp.zero, V sp) else (sp, 0)) = P) := ⟨_, hide rfl⟩
 rw [hPP.out]
 have HG := hide hG
 have HK := hide hk
 have HT := hide hat
 obtain ⟨hB0, hr0, hs0⟩ := boxed_new w (cfgL c) 23
 have hu0 : (cfgL c)[0]? = some (.int .i64 c.n) := rfl
 obtain ⟨u, hu⟩ : ∃ u, Hid (cfgL c = u) := ⟨_, hide rfl⟩
 rw [hu.out] at hB0 hr0 hs0 iu hu0
 simp only [hu.out] at cP ⊢
 obtain ⟨mo, hmo⟩ : ∃ m, Hid (mostI c.n = m) := ⟨_, hide rfl⟩
 simp only [hmo.out] at cQ cM
 obtain ⟨rl, hrl⟩ : ∃ n, rs.length = n := ⟨_, rfl⟩
 rw [hrl] at hlr
 simp only [hrl] at cQ ⊢
 go_enter Tryz.func7, Tryz.ntmps7
 go_upto_region 0 with fail
 try simp only [Act.put]
 refine pl_begin ?_
 refine pl_run (d := some 5) (v := .pointer (some ⟨w.heap.size, 0, none⟩)) (w' := w.alloc (.cells u.toArray 23)) (by rfl) (ex_boxR rfl rfl) rfl ?_
 simp only [nz]
 obtain ⟨W0, hW0⟩ : ∃ W, w.alloc (.cells u.toArray 23) = W := ⟨_, rfl⟩
 rw [hW0] at hB0 hr0 hs0 ⊢
 clear hW0
 obtain ⟨hB1, -, hs1⟩ := boxed_new W0 zc 36
 have th1 := there_newN W0 zc.toArray 36 (n := 37) (by simp [hzl])
 refine pl_run (d := some 8) (v := .pointer (some ⟨W0.heap.size, 0, none⟩)) (w' := W0.alloc (.cells zc.toArray 36)) (by rfl) (ex_alloc rfl (hzr _)) rfl ?_
 simp only [nz]
 refine pl_t 9 (?_) (by rfl) ?_ rfl ?_
 rotate_left
 ·go_simp
  try with_reducible rfl
 simp only [nz]
 refine pl_nil ?_
 obtain ⟨W1, hW1⟩ : ∃ W, W0.alloc (.cells zc.toArray 36) = W := ⟨_, rfl⟩
 rw [hW1] at hB1 hs1 th1 ⊢
 clear hW1
 have rc1 := range_below hr0 hB1 hs0
 have B1 := hB0.trans (hB1.mono (by omega))
 obtain ⟨A, hA⟩ : ∃ X, W0.heap.size = X := ⟨_, rfl⟩
 obtain ⟨C, hC⟩ : ∃ X, w.heap.size = X := ⟨_, rfl⟩
 have HA : Hid (w.heap.size ≤ A) := hide (by omega)
 rw [hA] at hs1 th1 hs0
 rw [hC] at hs0 rc1
 have sA1 := hs1
 have sc1 : C < W1.heap.size := by omega
 simp only [hA, hC]
 clear hr0 hB0 hB1 hA hs0 hs1 hC hG hk hat
 have k1 := HK.out.below B1
 go_upto_region 1 with fail
 try simp only [Act.put]
 refine pl_begin ?_
 refine pl_t 14 (?_) (by rfl) ?_ rfl ?_
 rotate_left
 ·go_simp
  try with_reducible rfl
 simp only [nz]
 refine pl_call (d := some 15) (by rfl) (by go_simp; first | done | exact ⟨rfl, rfl⟩ | with_reducible rfl) rfl ?_
 refine (cK W1 k1).mono ?_
 rintro _ wk ⟨rfl, hx⟩
 obtain rfl := hx.symm
 clear hx
 refine ⟨_, rfl, ?_⟩
 simp only [nz]
 refine pl_t 16 (.bool false) (by rfl) (by go_simp <;> (try simp [*])) rfl ?_
 simp only [nz]
 refine pl_nil ?_
 clear k1 cK hknb
 go_upto_region 3 with fail
 try simp only [Act.put]
 refine pl_begin ?_
 refine pl_t 19 (.agg u.toArray) (by rfl) (ex_mid rfl rfl rc1 Tryz.underlying23 rfl iu) rfl ?_
 simp only [nz]
 refine pl_t 20 (?_) (by rfl) ?_ rfl ?_
 rotate_left
 ·go_simp
  try with_reducible rfl
 simp only [nz]
 refine pl_call (d := some 21) (by rfl) (by go_simp; first | done | exact ⟨rfl, rfl⟩ | with_reducible rfl) rfl ?_
 refine (cP W1).mono ?_
 rintro _ w2 ⟨x, rfl, xs, xo, xa, xl, hb2⟩
 refine ⟨_, rfl, ?_⟩
 simp only [nz]
 have hxl : x.cells.length = 37 := Stt.len xo
 have hx1 := Stt.one x
 have hix : (Tryz.prog.info? 36).map (·.size) = some x.cells.length := by rw [hxl]; exact iszSt
 refine pl_t 18 (?_) (by rfl) ?_ rfl ?_
 rotate_left
 ·go_simp
  try with_reducible rfl
 simp only [nz]
 refine pl_t 22 (?_) (by rfl) ?_ rfl ?_
 rotate_left
 ·go_simp
  try with_reducible rfl
 simp only [nz]
 refine pl_t 23 (?_) (by rfl) ?_ rfl ?_
 rotate_left
 ·go_simp
  try with_reducible rfl
 simp only [nz]
 refine pl_run (d := some 10) (v := .pointer (some ⟨w2.heap.size, 0, none⟩)) (w' := w2.alloc (.cells zc.toArray 36)) (by rfl) (ex_alloc rfl (hzr _)) rfl ?_
 simp only [nz]
 refine pl_store (w' := (w2.alloc (.cells zc.toArray 36)).setCells w2.heap.size 0 x.cells) (by rfl) (ex_put (cs := x.cells.toArray) rfl rfl rfl (there_newN _ _ _ (by simp [hzl, hxl])) (by simpa using hix) (all_one hx1)) rfl ?_
 refine pl_t 11 (?_) (by rfl) ?_ rfl ?_
 rotate_left
 ·go_simp
  try with_reducible rfl
 simp only [nz]
 refine pl_nil ?_
 obtain ⟨rx, hF2, hF3, -⟩ := fresh_store w2 zc.toArray 36 x.cells (by simp [hzl, hxl])
 have hb23 := hb2.trans (hF2.mono hb2.size)
 have B3 := B1.trans (hb23.mono B1.size)
 have rc3 := range_below rc1 hb23 sc1
 have th3 := there_below th1 hb23 sA1
 have sA3 := Nat.lt_of_lt_of_le sA1 hb23.size
 have sc3 := Nat.lt_of_lt_of_le sc1 hb23.size
 have xa3 := xa.below hF2
 have HX : Hid (x.sp = sp ∧ x.ok ∧ x.Lo (A + 1)) := hide ⟨xs, xo, xl.mono (by have := hb2.size; omega)⟩
 obtain ⟨S, hS0⟩ : ∃ X, w2.heap.size = X := ⟨_, rfl⟩
 simp only [hS0] at rx hF3 xa3 ⊢
 obtain ⟨w3, hw3⟩ : ∃ W, (w2.alloc (.cells zc.toArray 36)).setCells S 0 x.cells = W := ⟨_, rfl⟩
 simp only [hS0] at B3 rc3 th3 sA3 sc3 
 simp only [hw3] at rx hF3 xa3 B3 rc3 th3 sA3 sc3  ⊢
 have sS3 : S < w3.heap.size := by omega
 clear hF2 hF3 hw3 hS0 hb2 hb23 rc1 th1 B1 sA1 sc1 xa cP xl
 go_upto_region 4 with fail
 by_cases hd : d = 0
 rotate_left
 ·have hdn : (d != 0) = true := by simpa using hd
  have HPE : Hid (PP = (Sp.zero, d)) := hide (by rw [← hPP.out, if_pos hd])
  clear hPP hd hpg
  try simp only [Act.put]
  refine pl_begin ?_
  refine pl_t 25 (?_) (by rfl) ?_ rfl ?_
  rotate_left
  ·go_simp
   try with_reducible rfl
  simp only [nz]
  refine pl_t 26 (.bool true) (by rfl) (by go_simp <;> (try simp [*])) rfl ?_
  simp only [nz]
  refine pl_t 24 (?_) (by rfl) ?_ rfl ?_
  rotate_left
  ·go_simp
   try with_reducible rfl
  simp only [nz]
  refine pl_nil ?_
  go_upto_region 5 with fail
  try simp only [Act.put]
  refine pl_begin ?_
  refine pl_t 27 (.agg zc.toArray) (by rfl) (ex_build (parts := []) rfl rfl (hbn _)) rfl ?_
  simp only [nz]
  refine pl_t 28 (?_) (by rfl) ?_ rfl ?_
  rotate_left
  ·go_simp
   try with_reducible rfl
  simp only [nz]
  refine pl_store (w' := w3.setCells A 0 zc) (by rfl) (ex_put (cs := zc.toArray) rfl rfl rfl (by simpa [hzl] using th3) (by simpa [hzl] using iszSt) (all_one hz1)) rfl ?_
  refine pl_t 9 (?_) (by rfl) ?_ rfl ?_
  rotate_left
  ·go_simp
   try with_reducible rfl
  simp only [nz]
  refine pl_nil ?_
  have hrs := run_loadVar_mid (P := Tryz.prog) (w3.setCells A 0 zc) A 0 36 zc _ (World.rangeAt_setCells_same w3 A 0 zc (by rw [hzl]; exact th3)) Tryz.underlying36 rfl (by rw [hzl]; exact iszSt)
  have HF : Hid (ParsA w PP (.returned (.tuple #[.agg zc.toArray, .int .i64 d])) (w3.setCells A 0 zc)) := hide (by
   rw [HPE.out]
   exact pars_out (x := Stt.zero) hz0.out.symm HA.out B3 rfl rfl Stt.zero_ok (Stt.zero_at _) (Stt.zero_lo _))
  clear HPE rx xa3 B3 rc3 th3 sA3 sc3 sS3 HX cQ cM
  go_wp2_with fail
  refine bodyPost_ret (results_ct rfl _ _ _ rfl hrs) rfl ?_
  exact HF.out
 subst hd
 try simp only [Act.put]
 refine pl_begin ?_
 refine pl_t 25 (?_) (by rfl) ?_ rfl ?_
 rotate_left
 ·go_simp
  try with_reducible rfl
 simp only [nz]
 refine pl_t 26 (.bool false) (by rfl) (by go_simp) rfl ?_
 simp only [nz]
 refine pl_t 24 (?_) (by rfl) ?_ rfl ?_
 rotate_left
 ·go_simp
  try with_reducible rfl
 simp only [nz]
 refine pl_nil ?_
 have hgx := hpg rfl
 rw [← xs, ← Stt.good_sp] at hgx
 have hfit := fit_of_good xo xa3 hgx
 have hwl : x.ws.xs.length ≤ 100 := by have := hfit.wl; show x.sp.ws.length ≤ 100; omega
 have hpl : x.ps.xs.length ≤ 200 := by have := hfit.pl; show x.sp.ps.length ≤ 200; omega
 have he1 : x.e ≤ 1048577 := hfit.e1
 have hxe : x.e = sp.e := congrArg Sp.e xs
 have rx0 : w3.cell? ⟨S, 0, none⟩ = some (.int .i64 sp.e) := by rw [← hxe]; exact rx 0 _ rfl
 go_upto_region 6 with fail
 by_cases h2 : sp.e < 2
 ·have HPE : Hid (PP = (Sp.zero, 230)) := hide (by rw [← hPP.out, if_neg (by simp), if_pos h2])
  clear hPP hpg
  try simp only [Act.put]
  refine pl_begin ?_
  refine pl_t 30 (?_) (by rfl) ?_ rfl ?_
  rotate_left
  ·go_simp
   try with_reducible rfl
  simp only [nz]
  refine pl_t 31 (.int .i64 sp.e) (by rfl) (pl_one rfl rfl rx0 Tryz.underlying3 rfl) rfl ?_
  simp only [nz]
  refine pl_t 32 (.bool true) (by rfl) (by go_simp) rfl ?_
  simp only [nz]
  refine pl_t 29 (?_) (by rfl) ?_ rfl ?_
  rotate_left
  ·go_simp
   try with_reducible rfl
  simp only [nz]
  refine pl_nil ?_
  go_upto_region 7 with fail
  try simp only [Act.put]
  refine pl_begin ?_
  refine pl_t 33 (.agg zc.toArray) (by rfl) (ex_build (parts := []) rfl rfl (hbn _)) rfl ?_
  simp only [nz]
  refine pl_store (w' := w3.setCells A 0 zc) (by rfl) (ex_put (cs := zc.toArray) rfl rfl rfl (by simpa [hzl] using th3) (by simpa [hzl] using iszSt) (all_one hz1)) rfl ?_
  refine pl_t 9 (?_) (by rfl) ?_ rfl ?_
  rotate_left
  ·go_simp
   try with_reducible rfl
  simp only [nz]
  refine pl_nil ?_
  have hrs := run_loadVar_mid (P := Tryz.prog) (w3.setCells A 0 zc) A 0 36 zc _ (World.rangeAt_setCells_same w3 A 0 zc (by rw [hzl]; exact th3)) Tryz.underlying36 rfl (by rw [hzl]; exact iszSt)
  have HF : Hid (ParsA w PP (.returned (.tuple #[.agg zc.toArray, .int .i64 230])) (w3.setCells A 0 zc)) := hide (by
   rw [HPE.out]
   exact pars_out (x := Stt.zero) hz0.out.symm HA.out B3 rfl rfl Stt.zero_ok (Stt.zero_at _) (Stt.zero_lo _))
  clear HPE rx xa3 B3 rc3 th3 sA3 sc3 sS3 HX cQ cM rx0
  go_wp2_with fail
  refine bodyPost_ret (results_ct rfl _ _ _ rfl hrs) rfl ?_
  exact HF.out
 try simp only [Act.put]
 refine pl_begin ?_
 refine pl_t 30 (?_) (by rfl) ?_ rfl ?_
 rotate_left
 ·go_simp
  try with_reducible rfl
 simp only [nz]
 refine pl_t 31 (.int .i64 sp.e) (by rfl) (pl_one rfl rfl rx0 Tryz.underlying3 rfl) rfl ?_
 simp only [nz]
 refine pl_t 32 (.bool false) (by rfl) (by go_simp) rfl ?_
 simp only [nz]
 refine pl_t 29 (?_) (by rfl) ?_ rfl ?_
 rotate_left
 ·go_simp
  try with_reducible rfl
 simp only [nz]
 refine pl_nil ?_
 have hpe1 : sp.e ≤ 1048577 := by omega
 have hb := bodyS_le sp (by omega) (by omega)
 have cQ := cQ sp
 rw [show qcheckV (okS ks (bodyS sp)) c.n rs mo = V sp by rw [hVs, hmo.out]] at cQ
 have cD := fun w0 g h => sdigest_any x w0 g xo h hwl hpl
 rw [dig_sp, xs] at cD
 have cMk := fun w0 => mark13_any (sp.e - 1) (sha (83 :: sp.bytes)) (by omega) (sha_length _) (sha_ok _) w0
 have cMk : ∀ w0, Calls Tryz.prog 12 #[.int .i64 (sp.e - 1), .agg (v8 (sha (83 :: sp.bytes))).toArray] w0 fun er w' => er = .returned (.string (bodyS sp)) ∧ Below w0.heap.size w0 w' := cMk
 generalize bodyS sp = body at cQ cMk hb
 generalize sha (83 :: sp.bytes) = dg at cD cMk
 obtain ⟨q, hq⟩ : ∃ q, Hid (x.cells = q) := ⟨_, hide rfl⟩
 rw [hq.out] at rx hxl hx1 hix
 simp only [hq.out] at cD
 obtain ⟨v, hv⟩ : ∃ v, V sp = v := ⟨_, rfl⟩
 simp only [hv] at cQ
 have HPV : Hid (PP = if v ≠ 0 then (Sp.zero, v) else (sp, 0)) := hide (by rw [← hPP.out, if_neg (by simp), if_neg h2, hv])
 obtain ⟨e1, he1'⟩ : ∃ e, sp.e - 1 = e := ⟨_, rfl⟩
 simp only [he1'] at cMk
 have hsub : IntKind.i64.wrap (sp.e - 1) = e1 := by rw [IntKind.wrap_i64]; omega
 obtain ⟨se, hse⟩ : ∃ e, sp.e = e := ⟨_, rfl⟩
 rw [hse] at rx0 hsub
 have rcQ := rc3
 have rxQ := rx
 have thQ := th3
 have xaQ := xa3
 have BQ := B3
 have sAQ := sA3
 have scQ := sc3
 have sSQ := sS3
 clear hPP hpg hVs hv rc3 rx th3 xa3 B3 sA3 sc3 sS3 hgx hfit hwl hpl hxe xs he1 hpe1 he1' hse h2
 go_upto_region 8 with fail
 have rc8 : w3.drew.rangeAt C 0 u := (World.rangeAt_drew _ _ _ _).2 rcQ
 have rx8 : w3.drew.rangeAt S 0 q := (World.rangeAt_drew _ _ _ _).2 rxQ
 have th8 : w3.drew.there A 0 37 := thQ
 have xa8 : x.At w3.drew := xaQ.below ((Below.refl _ _).drew)
 have B8 : Below w.heap.size w w3.drew := BQ.drew
 have sA8 : A < w3.drew.heap.size := sAQ
 have sc8 : C < w3.drew.heap.size := scQ
 have sS8 : S < w3.drew.heap.size := sSQ
 have rx08 : w3.drew.cell? ⟨S, 0, none⟩ = some (.int .i64 se) := rx0
 refine hs_begin (S := (Below w3.drew.heap.size w3.drew)) 7 rfl (by kernel_rfl) ?_
 obtain ⟨w8, hw8⟩ : ∃ W, w3.drew = W := ⟨_, rfl⟩
 rw [hw8] at rc8 rx8 rx08 th8 xa8 B8 sA8 sc8 sS8 ⊢
 clear hw8 rcQ rxQ thQ xaQ BQ sAQ scQ sSQ
 have hS : (Below w8.heap.size w8) w8 := Below.refl _ _
 refine hs_t 0 34 (?_) rfl (by kernel_rfl) (by kernel_rfl) (by kernel_rfl) (by rfl) ?_ hS rfl ?_
 rotate_left
 ·intro w' hw
  go_simp
  try with_reducible rfl
 simp only [nz]
 refine hs_t 1 35 (.int .i64 se) rfl (by kernel_rfl) (by kernel_rfl) (by kernel_rfl) (by rfl) (fun w' hw => pl_one rfl rfl ((hw.cell (p := ⟨S, 0, none⟩) sS8).trans rx08) Tryz.underlying3 rfl) hS rfl ?_
 simp only [nz]
 refine hs_t 2 36 (.int .i64 e1) rfl (by kernel_rfl) (by kernel_rfl) (by kernel_rfl) (by rfl) (fun w' hw => by go_simp <;> (try simp [hsub])) hS rfl ?_
 simp only [nz]
 refine hs_t 3 37 (.agg q.toArray) rfl (by kernel_rfl) (by kernel_rfl) (by kernel_rfl) (by rfl) (fun w' hw => ex_mid rfl rfl (range_below rx8 hw sS8) Tryz.underlying36 rfl hix) hS rfl ?_
 simp only [nz]
 refine hs_call (i := 4) (d := some 38) rfl (by kernel_rfl) (by rfl) (by go_simp; first | done | exact ⟨rfl, rfl⟩ | with_reducible rfl) rfl ?_
 refine (cD w8 (HG.out.below B8) xa8).mono ?_
 rintro _ wa ⟨rfl, hb_wa⟩
 have hS : (Below w8.heap.size w8) wa := hS.trans (hb_wa.mono hS.size)
 refine ⟨_, rfl, hS, ?_⟩
 simp only [nz]
 refine hs_call (i := 5) (d := some 39) rfl (by kernel_rfl) (by rfl) (by go_simp; first | done | exact ⟨rfl, rfl⟩ | with_reducible rfl) rfl ?_
 refine (cMk wa).mono ?_
 rintro _ wb ⟨rfl, hb_wb⟩
 have hS : (Below w8.heap.size w8) wb := hS.trans (hb_wb.mono hS.size)
 refine ⟨_, rfl, hS, ?_⟩
 simp only [nz]
 refine hs_t 6 12 (?_) rfl (by kernel_rfl) (by kernel_rfl) (by kernel_rfl) (by rfl) ?_ hS rfl ?_
 rotate_left
 ·intro w' hw
  go_simp
  try with_reducible rfl
 simp only [nz]
 refine hs_done (by kernel_rfl) ?_
 have rcQ := range_below rc8 hS sc8
 have rxQ := range_below rx8 hS sS8
 have thQ := there_below th8 hS sA8
 have xaQ := xa8.below hS
 have BQ := B8.trans (hS.mono B8.size)
 have sAQ := Nat.lt_of_lt_of_le sA8 hS.size
 have scQ := Nat.lt_of_lt_of_le sc8 hS.size
 have sSQ := Nat.lt_of_lt_of_le sS8 hS.size
 clear rc8 rx8 rx08 th8 xa8 B8 sA8 sc8 sS8 hS hb_wa hb_wb cD cMk rx0
 go_upto_region 9 with fail
 have rc8 : wb.drew.rangeAt C 0 u := (World.rangeAt_drew _ _ _ _).2 rcQ
 have rx8 : wb.drew.rangeAt S 0 q := (World.rangeAt_drew _ _ _ _).2 rxQ
 have th8 : wb.drew.there A 0 37 := thQ
 have xa8 : x.At wb.drew := xaQ.below ((Below.refl _ _).drew)
 have B8 : Below w.heap.size w wb.drew := BQ.drew
 have sA8 : A < wb.drew.heap.size := sAQ
 have sc8 : C < wb.drew.heap.size := scQ
 have sS8 : S < wb.drew.heap.size := sSQ
 have ru08 : wb.drew.cell? ⟨C, 0, none⟩ = some (.int .i64 c.n) := by simpa using ((World.rangeAt_drew _ _ _ _).2 rcQ) 0 _ hu0
 refine hs_begin (S := (Below wb.drew.heap.size wb.drew)) 10 rfl (by kernel_rfl) ?_
 obtain ⟨w8, hw8⟩ : ∃ W, wb.drew = W := ⟨_, rfl⟩
 rw [hw8] at rc8 rx8 ru08 th8 xa8 B8 sA8 sc8 sS8 ⊢
 clear hw8 rcQ rxQ thQ xaQ BQ sAQ scQ sSQ
 have hS : (Below w8.heap.size w8) w8 := Below.refl _ _
 refine hs_t 0 40 (?_) rfl (by kernel_rfl) (by kernel_rfl) (by kernel_rfl) (by rfl) ?_ hS rfl ?_
 rotate_left
 ·intro w' hw
  go_simp
  try with_reducible rfl
 simp only [nz]
 refine hs_t 1 41 (?_) rfl (by kernel_rfl) (by kernel_rfl) (by kernel_rfl) (by rfl) ?_ hS rfl ?_
 rotate_left
 ·intro w' hw
  go_simp
  try with_reducible rfl
 simp only [nz]
 refine hs_t 2 42 (.int .i64 c.n) rfl (by kernel_rfl) (by kernel_rfl) (by kernel_rfl) (by rfl) (fun w' hw => pl_one rfl rfl ((hw.cell (p := ⟨C, 0, none⟩) sc8).trans ru08) Tryz.underlying3 rfl) hS rfl ?_
 simp only [nz]
 refine hs_t 3 43 (?_) rfl (by kernel_rfl) (by kernel_rfl) (by kernel_rfl) (by rfl) ?_ hS rfl ?_
 rotate_left
 ·intro w' hw
  go_simp
  try with_reducible rfl
 simp only [nz]
 refine hs_t 4 44 (?_) rfl (by kernel_rfl) (by kernel_rfl) (by kernel_rfl) (by rfl) ?_ hS rfl ?_
 rotate_left
 ·intro w' hw
  go_simp
  try with_reducible rfl
 simp only [nz]
 refine hs_t 5 45 (?_) rfl (by kernel_rfl) (by kernel_rfl) (by kernel_rfl) (by rfl) ?_ hS rfl ?_
 rotate_left
 ·intro w' hw
  go_simp
  try with_reducible rfl
 simp only [nz]
 refine hs_t 6 46 (.int .i64 c.n) rfl (by kernel_rfl) (by kernel_rfl) (by kernel_rfl) (by rfl) (fun w' hw => pl_one rfl rfl ((hw.cell (p := ⟨C, 0, none⟩) sc8).trans ru08) Tryz.underlying3 rfl) hS rfl ?_
 simp only [nz]
 refine hs_call (i := 7) (d := some 47) rfl (by kernel_rfl) (by rfl) (by go_simp; first | done | exact ⟨rfl, rfl⟩ | with_reducible rfl) rfl ?_
 refine (cM w8).mono ?_
 rintro _ wc ⟨rfl, hx⟩
 obtain rfl := hx.symm
 clear hx
 refine ⟨_, rfl, hS, ?_⟩
 simp only [nz]
 refine hs_call (i := 8) (d := some 48) rfl (by kernel_rfl) (by rfl) (by go_simp; first | done | exact ⟨rfl, rfl⟩ | with_reducible rfl) rfl ?_
 refine (cQ w8 (HG.out.below B8) (HK.out.below B8) (by omega) (HT.out.below B8)).mono ?_
 rintro _ wd ⟨rfl, hb_wd⟩
 have hS : (Below w8.heap.size w8) wd := hS.trans (hb_wd.mono hS.size)
 refine ⟨_, rfl, hS, ?_⟩
 simp only [nz]
 refine hs_t 9 13 (?_) rfl (by kernel_rfl) (by kernel_rfl) (by kernel_rfl) (by rfl) ?_ hS rfl ?_
 rotate_left
 ·intro w' hw
  go_simp
  try with_reducible rfl
 simp only [nz]
 refine hs_done (by kernel_rfl) ?_
 have rcQ := range_below rc8 hS sc8
 have rxQ := range_below rx8 hS sS8
 have thQ := there_below th8 hS sA8
 have xaQ := xa8.below hS
 have BQ := B8.trans (hS.mono B8.size)
 have sAQ := Nat.lt_of_lt_of_le sA8 hS.size
 have scQ := Nat.lt_of_lt_of_le sc8 hS.size
 have sSQ := Nat.lt_of_lt_of_le sS8 hS.size
 clear rc8 rx8 ru08 th8 xa8 B8 sA8 sc8 sS8 hS hb_wd cM cQ
 have xaZ := xaQ
 go_upto_region 10 with fail
 by_cases hv : v = 0
 rotate_left
 ·have hvn : (v != 0) = true := by simpa using hv
  have HPE : Hid (PP = (Sp.zero, v)) := hide (by rw [HPV.out, if_pos hv])
  clear HPV hv
  try simp only [Act.put]
  refine pl_begin ?_
  refine pl_t 49 (?_) (by rfl) ?_ rfl ?_
  rotate_left
  ·go_simp
   try with_reducible rfl
  simp only [nz]
  refine pl_t 50 (.bool true) (by rfl) (by go_simp <;> (try simp [*])) rfl ?_
  simp only [nz]
  refine pl_nil ?_
  go_upto_region 11 with fail
  try simp only [Act.put]
  refine pl_begin ?_
  refine pl_t 51 (.agg zc.toArray) (by rfl) (ex_build (parts := []) rfl rfl (hbn _)) rfl ?_
  simp only [nz]
  refine pl_t 52 (?_) (by rfl) ?_ rfl ?_
  rotate_left
  ·go_simp
   try with_reducible rfl
  simp only [nz]
  refine pl_store (w' := wd.setCells A 0 zc) (by rfl) (ex_put (cs := zc.toArray) rfl rfl rfl (by simpa [hzl] using thQ) (by simpa [hzl] using iszSt) (all_one hz1)) rfl ?_
  refine pl_t 9 (?_) (by rfl) ?_ rfl ?_
  rotate_left
  ·go_simp
   try with_reducible rfl
  simp only [nz]
  refine pl_nil ?_
  have hrs := run_loadVar_mid (P := Tryz.prog) (wd.setCells A 0 zc) A 0 36 zc _ (World.rangeAt_setCells_same wd A 0 zc (by rw [hzl]; exact thQ)) Tryz.underlying36 rfl (by rw [hzl]; exact iszSt)
  have HF : Hid (ParsA w PP (.returned (.tuple #[.agg zc.toArray, .int .i64 v])) (wd.setCells A 0 zc)) := hide (by
   rw [HPE.out]
   exact pars_out (x := Stt.zero) hz0.out.symm HA.out BQ rfl rfl Stt.zero_ok (Stt.zero_at _) (Stt.zero_lo _))
  clear HPE rcQ rxQ thQ xaQ BQ sAQ scQ sSQ HX xaZ
  go_wp2_with fail
  refine bodyPost_ret (results_ct rfl _ _ _ rfl hrs) rfl ?_
  exact HF.out
 subst hv
 have HPE : Hid (PP = (sp, 0)) := hide (by rw [HPV.out, if_neg (by simp)])
 clear HPV
 try simp only [Act.put]
 refine pl_begin ?_
 refine pl_t 49 (?_) (by rfl) ?_ rfl ?_
 rotate_left
 ·go_simp
  try with_reducible rfl
 simp only [nz]
 refine pl_t 50 (.bool false) (by rfl) (by go_simp) rfl ?_
 simp only [nz]
 refine pl_nil ?_
 go_upto_region 12 with fail
 try simp only [Act.put]
 refine pl_begin ?_
 refine pl_t 53 (.agg q.toArray) (by rfl) (ex_mid rfl rfl rxQ Tryz.underlying36 rfl hix) rfl ?_
 simp only [nz]
 refine pl_store (w' := wd.setCells A 0 q) (by rfl) (ex_put (cs := q.toArray) rfl rfl rfl (by simpa [hxl] using thQ) (by simpa using hix) (all_one hx1)) rfl ?_
 refine pl_t 9 (?_) (by rfl) ?_ rfl ?_
 rotate_left
 ·go_simp
  try with_reducible rfl
 simp only [nz]
 refine pl_nil ?_
 have hrs := run_loadVar_mid (P := Tryz.prog) (wd.setCells A 0 q) A 0 36 q _ (World.rangeAt_setCells_same wd A 0 q (by rw [hxl]; exact thQ)) Tryz.underlying36 rfl (by rw [hxl]; exact iszSt)
 have HF : Hid (ParsA w PP (.returned (.tuple #[.agg q.toArray, .int .i64 0])) (wd.setCells A 0 q)) := hide (by
  rw [HPE.out]
  exact pars_out (x := x) hq.out HA.out BQ rfl HX.out.1 HX.out.2.1 xaZ HX.out.2.2)
 clear HPE rcQ rxQ thQ xaQ BQ sAQ scQ sSQ HX xaZ
 go_wp2_with fail
 refine bodyPost_ret (results_ct rfl _ _ _ rfl hrs) rfl ?_
 exact HF.out
set_option maxRecDepth 100000 in
set_option maxHeartbeats 4000000 in
theorem xccheck_any (seed : ByteArray) (N : Int) (c : Ld.Cfg) (sb : ByteArray) (a : Option Addr) (cap : Nat) (rs : List Qs.Sg) (w : World) (hsd : seed.size ≤ 100000) (hN : N ≤ 100000) (hs : sb.size ≤ 5000) (hat : SigsAt w a rs) (hlr : rs.length ≤ 100) :
  Calls Tryz.prog 8 #[.agg #[.string seed, .int .i64 N], .agg (cfgL c).toArray, .string sb, .slice a rs.length cap] w fun en w' => ParsA w (chkS (fun s => qcheckV (fun g => checkOf (refSignOf seed N g.n (bodyS s)) g.t) c.n rs (mostI c.n)) c (strL sb)) en w' := by
 obtain ⟨V, hV⟩ : ∃ V : Sp → Int, (fun s => qcheckV (fun g => checkOf (refSignOf seed N g.n (bodyS s)) g.t) c.n rs (mostI c.n)) = V := ⟨_, rfl⟩
 have hVs : ∀ s, V s = qcheckV (fun g => checkOf (refSignOf seed N g.n (bodyS s)) g.t) c.n rs (mostI c.n) := fun s => by rw [← hV]
 rw [hV]
 clear hV
 have cQ := fun s hb w0 t => Qs.refQCheck_any seed N c.n (bodyS s) a cap rs (mostI c.n) (by omega) w0 hsd hN hb t
 have cM := fun w0 => Qs.refMost_any c.n w0
 obtain ⟨zc, hz0, hzl, hz1, hzr, hbn⟩ : ∃ z : List Value, Hid (z = Stt.zero.cells) ∧ z.length = 37 ∧ (∀ v ∈ z, v.oneCell' = true) ∧ (∀ w : World, (zeroValue 36).run Tryz.prog w = .ok (.agg z.toArray) w) ∧ (∀ w : World, (Instr.build 36 #[]).run Tryz.prog w = .ok (.agg z.toArray) w) := ⟨_, hide rfl, Stt.len Stt.zero_ok, Stt.one _, zeroS0, build_s0⟩
 have iu := iszCf c
 have hpg := parse_good (c := c) (zs := strL sb)
 have cP := fun w0 => xsparse_any c sb w0 (by omega)
 unfold chkS
 unfold ParsA at cP
 generalize parseS c (strL sb) = pp at cP hpg ⊢
 obtain ⟨sp, d⟩ := pp
 simp only at cP hpg ⊢
 obtain ⟨PP, hPP⟩ : ∃ P, Hid ((if d ≠ 0 then (Sp.zero, d) else if sp.e < 2 then (Sp.zero, 230) else if V sp ≠ 0 then (Sp.zero, V sp) else (sp, 0)) = P) := ⟨_, hide rfl⟩
 rw [hPP.out]
 have HT := hide hat
 have ik : (Tryz.prog.info? 28).map (·.size) = some [Value.string seed, .int .i64 N].length := by kernel_rfl
 obtain ⟨hBk, hrk, hsk⟩ := boxed_new w [Value.string seed, .int .i64 N] 28
 obtain ⟨kq, hkq⟩ : ∃ k, Hid ([Value.string seed, .int .i64 N] = k) := ⟨_, hide rfl⟩
 have hkv : (Value.agg #[.string seed, .int .i64 N]) = .agg kq.toArray := by rw [← hkq.out]
 rw [hkq.out] at ik hBk hrk hsk
 simp only [hkv] at cQ ⊢
 have hu0 : (cfgL c)[0]? = some (.int .i64 c.n) := rfl
 obtain ⟨u, hu⟩ : ∃ u, Hid (cfgL c = u) := ⟨_, hide rfl⟩
 rw [hu.out] at iu hu0
 simp only [hu.out] at cP ⊢
 obtain ⟨mo, hmo⟩ : ∃ m, Hid (mostI c.n = m) := ⟨_, hide rfl⟩
 simp only [hmo.out] at cQ cM
 obtain ⟨rl, hrl⟩ : ∃ n, rs.length = n := ⟨_, rfl⟩
 rw [hrl] at hlr
 simp only [hrl] at cQ ⊢
 clear hkv
 go_enter Tryz.func8, Tryz.ntmps8
 go_upto_region 0 with fail
 try simp only [Act.put]
 refine pl_begin ?_
 refine pl_run (d := some 4) (v := .pointer (some ⟨w.heap.size, 0, none⟩)) (w' := w.alloc (.cells kq.toArray 28)) (by rfl) (ex_boxR rfl rfl) rfl ?_
 simp only [nz]
 obtain ⟨Wk, hWk⟩ : ∃ W, w.alloc (.cells kq.toArray 28) = W := ⟨_, rfl⟩
 rw [hWk] at hBk hrk hsk ⊢
 clear hWk
 obtain ⟨hB0, hr0, hs0⟩ := boxed_new Wk u 23
 refine pl_run (d := some 5) (v := .pointer (some ⟨Wk.heap.size, 0, none⟩)) (w' := Wk.alloc (.cells u.toArray 23)) (by rfl) (ex_boxR rfl rfl) rfl ?_
 simp only [nz]
 obtain ⟨W0, hW0⟩ : ∃ W, Wk.alloc (.cells u.toArray 23) = W := ⟨_, rfl⟩
 rw [hW0] at hB0 hr0 hs0 ⊢
 clear hW0
 obtain ⟨hB1, -, hs1⟩ := boxed_new W0 zc 36
 have th1 := there_newN W0 zc.toArray 36 (n := 37) (by simp [hzl])
 refine pl_run (d := some 8) (v := .pointer (some ⟨W0.heap.size, 0, none⟩)) (w' := W0.alloc (.cells zc.toArray 36)) (by rfl) (ex_alloc rfl (hzr _)) rfl ?_
 simp only [nz]
 refine pl_t 9 (?_) (by rfl) ?_ rfl ?_
 rotate_left
 ·go_simp
  try with_reducible rfl
 simp only [nz]
 refine pl_nil ?_
 obtain ⟨W1, hW1⟩ : ∃ W, W0.alloc (.cells zc.toArray 36) = W := ⟨_, rfl⟩
 rw [hW1] at hB1 hs1 th1 ⊢
 clear hW1
 have rc1 := range_below hr0 hB1 hs0
 have rk1 := range_below (range_below hrk hB0 hsk) hB1 (by omega)
 have B1 := (hBk.trans (hB0.mono (by omega))).trans (hB1.mono (by omega))
 obtain ⟨A, hA⟩ : ∃ X, W0.heap.size = X := ⟨_, rfl⟩
 obtain ⟨C, hC⟩ : ∃ X, Wk.heap.size = X := ⟨_, rfl⟩
 obtain ⟨K, hK⟩ : ∃ X, w.heap.size = X := ⟨_, rfl⟩
 have HA : Hid (w.heap.size ≤ A) := hide (by omega)
 rw [hA] at hs1 th1 hs0
 rw [hC] at hs0 rc1 hsk
 rw [hK] at rk1 hsk
 have sA1 := hs1
 have sc1 : C < W1.heap.size := by omega
 have sk1 : K < W1.heap.size := by omega
 simp only [hA, hC, hK]
 clear hr0 hrk hB0 hBk hB1 hA hs0 hs1 hC hK hat hsk
 go_upto_region 1 with fail
 try simp only [Act.put]
 refine pl_begin ?_
 refine pl_t 13 (.agg u.toArray) (by rfl) (ex_mid rfl rfl rc1 Tryz.underlying23 rfl iu) rfl ?_
 simp only [nz]
 refine pl_t 14 (?_) (by rfl) ?_ rfl ?_
 rotate_left
 ·go_simp
  try with_reducible rfl
 simp only [nz]
 refine pl_call (d := some 15) (by rfl) (by go_simp; first | done | exact ⟨rfl, rfl⟩ | with_reducible rfl) rfl ?_
 refine (cP W1).mono ?_
 rintro _ w2 ⟨x, rfl, xs, xo, xa, xl, hb2⟩
 refine ⟨_, rfl, ?_⟩
 simp only [nz]
 have hxl : x.cells.length = 37 := Stt.len xo
 have hx1 := Stt.one x
 have hix : (Tryz.prog.info? 36).map (·.size) = some x.cells.length := by rw [hxl]; exact iszSt
 refine pl_t 12 (?_) (by rfl) ?_ rfl ?_
 rotate_left
 ·go_simp
  try with_reducible rfl
 simp only [nz]
 refine pl_t 16 (?_) (by rfl) ?_ rfl ?_
 rotate_left
 ·go_simp
  try with_reducible rfl
 simp only [nz]
 refine pl_t 17 (?_) (by rfl) ?_ rfl ?_
 rotate_left
 ·go_simp
  try with_reducible rfl
 simp only [nz]
 refine pl_run (d := some 10) (v := .pointer (some ⟨w2.heap.size, 0, none⟩)) (w' := w2.alloc (.cells zc.toArray 36)) (by rfl) (ex_alloc rfl (hzr _)) rfl ?_
 simp only [nz]
 refine pl_store (w' := (w2.alloc (.cells zc.toArray 36)).setCells w2.heap.size 0 x.cells) (by rfl) (ex_put (cs := x.cells.toArray) rfl rfl rfl (there_newN _ _ _ (by simp [hzl, hxl])) (by simpa using hix) (all_one hx1)) rfl ?_
 refine pl_t 11 (?_) (by rfl) ?_ rfl ?_
 rotate_left
 ·go_simp
  try with_reducible rfl
 simp only [nz]
 refine pl_nil ?_
 obtain ⟨rx, hF2, hF3, -⟩ := fresh_store w2 zc.toArray 36 x.cells (by simp [hzl, hxl])
 have hb23 := hb2.trans (hF2.mono hb2.size)
 have B3 := B1.trans (hb23.mono B1.size)
 have rc3 := range_below rc1 hb23 sc1
 have th3 := there_below th1 hb23 sA1
 have sA3 := Nat.lt_of_lt_of_le sA1 hb23.size
 have sc3 := Nat.lt_of_lt_of_le sc1 hb23.size
 have xa3 := xa.below hF2
 have HX : Hid (x.sp = sp ∧ x.ok ∧ x.Lo (A + 1)) := hide ⟨xs, xo, xl.mono (by have := hb2.size; omega)⟩
 obtain ⟨S, hS0⟩ : ∃ X, w2.heap.size = X := ⟨_, rfl⟩
 have rk3 := range_below rk1 hb23 sk1
 have sk3 := Nat.lt_of_lt_of_le sk1 hb23.size
 simp only [hS0] at rx hF3 xa3 ⊢
 obtain ⟨w3, hw3⟩ : ∃ W, (w2.alloc (.cells zc.toArray 36)).setCells S 0 x.cells = W := ⟨_, rfl⟩
 simp only [hS0] at B3 rc3 th3 sA3 sc3 rk3 sk3
 simp only [hw3] at rx hF3 xa3 B3 rc3 th3 sA3 sc3 rk3 sk3 ⊢
 have sS3 : S < w3.heap.size := by omega
 clear rk1 sk1 hF2 hF3 hw3 hS0 hb2 hb23 rc1 th1 B1 sA1 sc1 xa cP xl
 go_upto_region 2 with fail
 by_cases hd : d = 0
 rotate_left
 ·have hdn : (d != 0) = true := by simpa using hd
  have HPE : Hid (PP = (Sp.zero, d)) := hide (by rw [← hPP.out, if_pos hd])
  clear hPP hd hpg
  try simp only [Act.put]
  refine pl_begin ?_
  refine pl_t 18 (?_) (by rfl) ?_ rfl ?_
  rotate_left
  ·go_simp
   try with_reducible rfl
  simp only [nz]
  refine pl_t 19 (.bool true) (by rfl) (by go_simp <;> (try simp [*])) rfl ?_
  simp only [nz]
  refine pl_nil ?_
  go_upto_region 3 with fail
  try simp only [Act.put]
  refine pl_begin ?_
  refine pl_t 20 (.agg zc.toArray) (by rfl) (ex_build (parts := []) rfl rfl (hbn _)) rfl ?_
  simp only [nz]
  refine pl_t 21 (?_) (by rfl) ?_ rfl ?_
  rotate_left
  ·go_simp
   try with_reducible rfl
  simp only [nz]
  refine pl_store (w' := w3.setCells A 0 zc) (by rfl) (ex_put (cs := zc.toArray) rfl rfl rfl (by simpa [hzl] using th3) (by simpa [hzl] using iszSt) (all_one hz1)) rfl ?_
  refine pl_t 9 (?_) (by rfl) ?_ rfl ?_
  rotate_left
  ·go_simp
   try with_reducible rfl
  simp only [nz]
  refine pl_nil ?_
  have hrs := run_loadVar_mid (P := Tryz.prog) (w3.setCells A 0 zc) A 0 36 zc _ (World.rangeAt_setCells_same w3 A 0 zc (by rw [hzl]; exact th3)) Tryz.underlying36 rfl (by rw [hzl]; exact iszSt)
  have HF : Hid (ParsA w PP (.returned (.tuple #[.agg zc.toArray, .int .i64 d])) (w3.setCells A 0 zc)) := hide (by
   rw [HPE.out]
   exact pars_out (x := Stt.zero) hz0.out.symm HA.out B3 rfl rfl Stt.zero_ok (Stt.zero_at _) (Stt.zero_lo _))
  clear HPE rx xa3 B3 rc3 rk3 th3 sA3 sc3 sk3 sS3 HX cQ cM
  go_wp2_with fail
  refine bodyPost_ret (results_ct rfl _ _ _ rfl hrs) rfl ?_
  exact HF.out
 subst hd
 try simp only [Act.put]
 refine pl_begin ?_
 refine pl_t 18 (?_) (by rfl) ?_ rfl ?_
 rotate_left
 ·go_simp
  try with_reducible rfl
 simp only [nz]
 refine pl_t 19 (.bool false) (by rfl) (by go_simp) rfl ?_
 simp only [nz]
 refine pl_nil ?_
 have hgx := hpg rfl
 rw [← xs, ← Stt.good_sp] at hgx
 have hfit := fit_of_good xo xa3 hgx
 have hwl : x.ws.xs.length ≤ 100 := by have := hfit.wl; show x.sp.ws.length ≤ 100; omega
 have hpl : x.ps.xs.length ≤ 200 := by have := hfit.pl; show x.sp.ps.length ≤ 200; omega
 have he1 : x.e ≤ 1048577 := hfit.e1
 have hxe : x.e = sp.e := congrArg Sp.e xs
 have rx0 : w3.cell? ⟨S, 0, none⟩ = some (.int .i64 sp.e) := by rw [← hxe]; exact rx 0 _ rfl
 go_upto_region 4 with fail
 by_cases h2 : sp.e < 2
 ·have HPE : Hid (PP = (Sp.zero, 230)) := hide (by rw [← hPP.out, if_neg (by simp), if_pos h2])
  clear hPP hpg
  try simp only [Act.put]
  refine pl_begin ?_
  refine pl_t 22 (?_) (by rfl) ?_ rfl ?_
  rotate_left
  ·go_simp
   try with_reducible rfl
  simp only [nz]
  refine pl_t 23 (.int .i64 sp.e) (by rfl) (pl_one rfl rfl rx0 Tryz.underlying3 rfl) rfl ?_
  simp only [nz]
  refine pl_t 24 (.bool true) (by rfl) (by go_simp) rfl ?_
  simp only [nz]
  refine pl_nil ?_
  go_upto_region 5 with fail
  try simp only [Act.put]
  refine pl_begin ?_
  refine pl_t 25 (.agg zc.toArray) (by rfl) (ex_build (parts := []) rfl rfl (hbn _)) rfl ?_
  simp only [nz]
  refine pl_store (w' := w3.setCells A 0 zc) (by rfl) (ex_put (cs := zc.toArray) rfl rfl rfl (by simpa [hzl] using th3) (by simpa [hzl] using iszSt) (all_one hz1)) rfl ?_
  refine pl_t 9 (?_) (by rfl) ?_ rfl ?_
  rotate_left
  ·go_simp
   try with_reducible rfl
  simp only [nz]
  refine pl_nil ?_
  have hrs := run_loadVar_mid (P := Tryz.prog) (w3.setCells A 0 zc) A 0 36 zc _ (World.rangeAt_setCells_same w3 A 0 zc (by rw [hzl]; exact th3)) Tryz.underlying36 rfl (by rw [hzl]; exact iszSt)
  have HF : Hid (ParsA w PP (.returned (.tuple #[.agg zc.toArray, .int .i64 230])) (w3.setCells A 0 zc)) := hide (by
   rw [HPE.out]
   exact pars_out (x := Stt.zero) hz0.out.symm HA.out B3 rfl rfl Stt.zero_ok (Stt.zero_at _) (Stt.zero_lo _))
  clear HPE rx xa3 B3 rc3 rk3 th3 sA3 sc3 sk3 sS3 HX cQ cM rx0
  go_wp2_with fail
  refine bodyPost_ret (results_ct rfl _ _ _ rfl hrs) rfl ?_
  exact HF.out
 try simp only [Act.put]
 refine pl_begin ?_
 refine pl_t 22 (?_) (by rfl) ?_ rfl ?_
 rotate_left
 ·go_simp
  try with_reducible rfl
 simp only [nz]
 refine pl_t 23 (.int .i64 sp.e) (by rfl) (pl_one rfl rfl rx0 Tryz.underlying3 rfl) rfl ?_
 simp only [nz]
 refine pl_t 24 (.bool false) (by rfl) (by go_simp) rfl ?_
 simp only [nz]
 refine pl_nil ?_
 have hpe1 : sp.e ≤ 1048577 := by omega
 have hb := bodyS_le sp (by omega) (by omega)
 have cQ := fun w0 t => cQ sp (by omega) w0 t
 rw [show qcheckV (fun g => checkOf (refSignOf seed N g.n (bodyS sp)) g.t) c.n rs mo = V sp by rw [hVs, hmo.out]] at cQ
 have cD := fun w0 h => xsdigest_any x w0 xo h hwl hpl
 rw [dig_sp, xs] at cD
 have cMk : ∀ w0, Calls Tryz.prog 19 #[.int .i64 (sp.e - 1), .agg (v8 (sha (83 :: sp.bytes))).toArray] w0 fun er w' => er = .returned (.string (bodyS sp)) ∧ Below w0.heap.size w0 w' := fun w0 => xmark13_any (sp.e - 1) (sha (83 :: sp.bytes)) (by omega) (sha_length _) (sha_ok _) w0
 generalize bodyS sp = body at cQ cMk hb
 generalize sha (83 :: sp.bytes) = dg at cD cMk
 obtain ⟨q, hq⟩ : ∃ q, Hid (x.cells = q) := ⟨_, hide rfl⟩
 rw [hq.out] at rx hxl hx1 hix
 simp only [hq.out] at cD
 obtain ⟨v, hv⟩ : ∃ v, V sp = v := ⟨_, rfl⟩
 simp only [hv] at cQ
 have HPV : Hid (PP = if v ≠ 0 then (Sp.zero, v) else (sp, 0)) := hide (by rw [← hPP.out, if_neg (by simp), if_neg h2, hv])
 obtain ⟨e1, he1'⟩ : ∃ e, sp.e - 1 = e := ⟨_, rfl⟩
 simp only [he1'] at cMk
 have hsub : IntKind.i64.wrap (sp.e - 1) = e1 := by rw [IntKind.wrap_i64]; omega
 obtain ⟨se, hse⟩ : ∃ e, sp.e = e := ⟨_, rfl⟩
 rw [hse] at rx0 hsub
 have rcQ := rc3
 have rxQ := rx
 have thQ := th3
 have xaQ := xa3
 have BQ := B3
 have sAQ := sA3
 have scQ := sc3
 have sSQ := sS3
 clear hPP hpg hVs hv rc3 rx th3 xa3 B3 sA3 sc3 sS3 hgx hfit hwl hpl hxe xs he1 hpe1 he1' hse h2
 go_upto_region 6 with fail
 have rc8 : w3.drew.rangeAt C 0 u := (World.rangeAt_drew _ _ _ _).2 rcQ
 have rx8 : w3.drew.rangeAt S 0 q := (World.rangeAt_drew _ _ _ _).2 rxQ
 have th8 : w3.drew.there A 0 37 := thQ
 have xa8 : x.At w3.drew := xaQ.below ((Below.refl _ _).drew)
 have B8 : Below w.heap.size w w3.drew := BQ.drew
 have sA8 : A < w3.drew.heap.size := sAQ
 have sc8 : C < w3.drew.heap.size := scQ
 have sS8 : S < w3.drew.heap.size := sSQ
 have rx08 : w3.drew.cell? ⟨S, 0, none⟩ = some (.int .i64 se) := rx0
 have ru08 : w3.drew.cell? ⟨C, 0, none⟩ = some (.int .i64 c.n) := by simpa using ((World.rangeAt_drew _ _ _ _).2 rcQ) 0 _ hu0
 have rk8 : w3.drew.rangeAt K 0 kq := (World.rangeAt_drew _ _ _ _).2 rk3
 have sk8 : K < w3.drew.heap.size := sk3
 refine hs_begin (S := (Below w3.drew.heap.size w3.drew)) 15 rfl (by kernel_rfl) ?_
 obtain ⟨w8, hw8⟩ : ∃ W, w3.drew = W := ⟨_, rfl⟩
 rw [hw8] at rc8 rx8 rx08 ru08 rk8 sk8 th8 xa8 B8 sA8 sc8 sS8 ⊢
 clear hw8 rcQ rxQ thQ xaQ BQ sAQ scQ sSQ
 have hS : (Below w8.heap.size w8) w8 := Below.refl _ _
 refine hs_t 0 26 (.agg kq.toArray) rfl (by kernel_rfl) (by kernel_rfl) (by kernel_rfl) (by rfl) (fun w' hw => ex_mid rfl rfl (range_below rk8 hw sk8) Tryz.underlying28 rfl ik) hS rfl ?_
 simp only [nz]
 refine hs_t 1 27 (?_) rfl (by kernel_rfl) (by kernel_rfl) (by kernel_rfl) (by rfl) ?_ hS rfl ?_
 rotate_left
 ·intro w' hw
  go_simp
  try with_reducible rfl
 simp only [nz]
 refine hs_t 2 28 (.int .i64 c.n) rfl (by kernel_rfl) (by kernel_rfl) (by kernel_rfl) (by rfl) (fun w' hw => pl_one rfl rfl ((hw.cell (p := ⟨C, 0, none⟩) sc8).trans ru08) Tryz.underlying3 rfl) hS rfl ?_
 simp only [nz]
 refine hs_t 3 29 (?_) rfl (by kernel_rfl) (by kernel_rfl) (by kernel_rfl) (by rfl) ?_ hS rfl ?_
 rotate_left
 ·intro w' hw
  go_simp
  try with_reducible rfl
 simp only [nz]
 refine hs_t 4 30 (.int .i64 se) rfl (by kernel_rfl) (by kernel_rfl) (by kernel_rfl) (by rfl) (fun w' hw => pl_one rfl rfl ((hw.cell (p := ⟨S, 0, none⟩) sS8).trans rx08) Tryz.underlying3 rfl) hS rfl ?_
 simp only [nz]
 refine hs_t 5 31 (.int .i64 e1) rfl (by kernel_rfl) (by kernel_rfl) (by kernel_rfl) (by rfl) (fun w' hw => by go_simp <;> (try simp [hsub])) hS rfl ?_
 simp only [nz]
 refine hs_t 6 32 (.agg q.toArray) rfl (by kernel_rfl) (by kernel_rfl) (by kernel_rfl) (by rfl) (fun w' hw => ex_mid rfl rfl (range_below rx8 hw sS8) Tryz.underlying36 rfl hix) hS rfl ?_
 simp only [nz]
 refine hs_t 9 35 (?_) rfl (by kernel_rfl) (by kernel_rfl) (by kernel_rfl) (by rfl) ?_ hS rfl ?_
 rotate_left
 ·intro w' hw
  go_simp
  try with_reducible rfl
 simp only [nz]
 refine hs_t 10 36 (?_) rfl (by kernel_rfl) (by kernel_rfl) (by kernel_rfl) (by rfl) ?_ hS rfl ?_
 rotate_left
 ·intro w' hw
  go_simp
  try with_reducible rfl
 simp only [nz]
 refine hs_t 11 37 (.int .i64 c.n) rfl (by kernel_rfl) (by kernel_rfl) (by kernel_rfl) (by rfl) (fun w' hw => pl_one rfl rfl ((hw.cell (p := ⟨C, 0, none⟩) sc8).trans ru08) Tryz.underlying3 rfl) hS rfl ?_
 simp only [nz]
 refine hs_call (i := 7) (d := some 33) rfl (by kernel_rfl) (by rfl) (by go_simp; first | done | exact ⟨rfl, rfl⟩ | with_reducible rfl) rfl ?_
 refine (cD w8 xa8).mono ?_
 rintro _ wa ⟨rfl, hb_wa⟩
 have hS : (Below w8.heap.size w8) wa := hS.trans (hb_wa.mono hS.size)
 refine ⟨_, rfl, hS, ?_⟩
 simp only [nz]
 refine hs_call (i := 8) (d := some 34) rfl (by kernel_rfl) (by rfl) (by go_simp; first | done | exact ⟨rfl, rfl⟩ | with_reducible rfl) rfl ?_
 refine (cMk wa).mono ?_
 rintro _ wb ⟨rfl, hb_wb⟩
 have hS : (Below w8.heap.size w8) wb := hS.trans (hb_wb.mono hS.size)
 refine ⟨_, rfl, hS, ?_⟩
 simp only [nz]
 refine hs_call (i := 12) (d := some 38) rfl (by kernel_rfl) (by rfl) (by go_simp; first | done | exact ⟨rfl, rfl⟩ | with_reducible rfl) rfl ?_
 refine (cM wb).mono ?_
 rintro _ wc ⟨rfl, hx⟩
 obtain rfl := hx.symm
 clear hx
 refine ⟨_, rfl, hS, ?_⟩
 simp only [nz]
 refine hs_call (i := 13) (d := some 39) rfl (by kernel_rfl) (by rfl) (by go_simp; first | done | exact ⟨rfl, rfl⟩ | with_reducible rfl) rfl ?_
 refine (cQ wb (HT.out.below (B8.trans (hS.mono B8.size)))).mono ?_
 rintro _ wd ⟨rfl, hb_wd⟩
 have hS : (Below w8.heap.size w8) wd := hS.trans (hb_wd.mono hS.size)
 refine ⟨_, rfl, hS, ?_⟩
 simp only [nz]
 refine hs_t 14 11 (?_) rfl (by kernel_rfl) (by kernel_rfl) (by kernel_rfl) (by rfl) ?_ hS rfl ?_
 rotate_left
 ·intro w' hw
  go_simp
  try with_reducible rfl
 simp only [nz]
 refine hs_done (by kernel_rfl) ?_
 have rcQ := range_below rc8 hS sc8
 have rxQ := range_below rx8 hS sS8
 have thQ := there_below th8 hS sA8
 have xaQ := xa8.below hS
 have BQ := B8.trans (hS.mono B8.size)
 have sAQ := Nat.lt_of_lt_of_le sA8 hS.size
 have scQ := Nat.lt_of_lt_of_le sc8 hS.size
 have sSQ := Nat.lt_of_lt_of_le sS8 hS.size
 clear rc8 rx8 rx08 ru08 rk8 sk8 th8 xa8 B8 sA8 sc8 sS8 hS hb_wa hb_wb hb_wd cM cQ cD cMk rx0 rk3 sk3
 have xaZ := xaQ
 go_upto_region 7 with fail
 by_cases hv : v = 0
 rotate_left
 ·have hvn : (v != 0) = true := by simpa using hv
  have HPE : Hid (PP = (Sp.zero, v)) := hide (by rw [HPV.out, if_pos hv])
  clear HPV hv
  try simp only [Act.put]
  refine pl_begin ?_
  refine pl_t 40 (?_) (by rfl) ?_ rfl ?_
  rotate_left
  ·go_simp
   try with_reducible rfl
  simp only [nz]
  refine pl_t 41 (.bool true) (by rfl) (by go_simp <;> (try simp [*])) rfl ?_
  simp only [nz]
  refine pl_nil ?_
  go_upto_region 8 with fail
  try simp only [Act.put]
  refine pl_begin ?_
  refine pl_t 42 (.agg zc.toArray) (by rfl) (ex_build (parts := []) rfl rfl (hbn _)) rfl ?_
  simp only [nz]
  refine pl_t 43 (?_) (by rfl) ?_ rfl ?_
  rotate_left
  ·go_simp
   try with_reducible rfl
  simp only [nz]
  refine pl_store (w' := wd.setCells A 0 zc) (by rfl) (ex_put (cs := zc.toArray) rfl rfl rfl (by simpa [hzl] using thQ) (by simpa [hzl] using iszSt) (all_one hz1)) rfl ?_
  refine pl_t 9 (?_) (by rfl) ?_ rfl ?_
  rotate_left
  ·go_simp
   try with_reducible rfl
  simp only [nz]
  refine pl_nil ?_
  have hrs := run_loadVar_mid (P := Tryz.prog) (wd.setCells A 0 zc) A 0 36 zc _ (World.rangeAt_setCells_same wd A 0 zc (by rw [hzl]; exact thQ)) Tryz.underlying36 rfl (by rw [hzl]; exact iszSt)
  have HF : Hid (ParsA w PP (.returned (.tuple #[.agg zc.toArray, .int .i64 v])) (wd.setCells A 0 zc)) := hide (by
   rw [HPE.out]
   exact pars_out (x := Stt.zero) hz0.out.symm HA.out BQ rfl rfl Stt.zero_ok (Stt.zero_at _) (Stt.zero_lo _))
  clear HPE rcQ rxQ thQ xaQ BQ sAQ scQ sSQ HX xaZ
  go_wp2_with fail
  refine bodyPost_ret (results_ct rfl _ _ _ rfl hrs) rfl ?_
  exact HF.out
 subst hv
 have HPE : Hid (PP = (sp, 0)) := hide (by rw [HPV.out, if_neg (by simp)])
 clear HPV
 try simp only [Act.put]
 refine pl_begin ?_
 refine pl_t 40 (?_) (by rfl) ?_ rfl ?_
 rotate_left
 ·go_simp
  try with_reducible rfl
 simp only [nz]
 refine pl_t 41 (.bool false) (by rfl) (by go_simp) rfl ?_
 simp only [nz]
 refine pl_nil ?_
 go_upto_region 9 with fail
 try simp only [Act.put]
 refine pl_begin ?_
 refine pl_t 44 (.agg q.toArray) (by rfl) (ex_mid rfl rfl rxQ Tryz.underlying36 rfl hix) rfl ?_
 simp only [nz]
 refine pl_store (w' := wd.setCells A 0 q) (by rfl) (ex_put (cs := q.toArray) rfl rfl rfl (by simpa [hxl] using thQ) (by simpa using hix) (all_one hx1)) rfl ?_
 refine pl_t 9 (?_) (by rfl) ?_ rfl ?_
 rotate_left
 ·go_simp
  try with_reducible rfl
 simp only [nz]
 refine pl_nil ?_
 have hrs := run_loadVar_mid (P := Tryz.prog) (wd.setCells A 0 q) A 0 36 q _ (World.rangeAt_setCells_same wd A 0 q (by rw [hxl]; exact thQ)) Tryz.underlying36 rfl (by rw [hxl]; exact iszSt)
 have HF : Hid (ParsA w PP (.returned (.tuple #[.agg q.toArray, .int .i64 0])) (wd.setCells A 0 q)) := hide (by
  rw [HPE.out]
  exact pars_out (x := x) hq.out HA.out BQ rfl HX.out.1 HX.out.2.1 xaZ HX.out.2.2)
 clear HPE rcQ rxQ thQ xaQ BQ sAQ scQ sSQ HX xaZ
 go_wp2_with fail
 refine bodyPost_ret (results_ct rfl _ _ _ rfl hrs) rfl ?_
 exact HF.out
set_option maxRecDepth 100000 in
set_option maxHeartbeats 1000000 in
theorem ccheck_nil (c : Ld.Cfg) (sb : ByteArray) (a : Option Addr) (n cap : Nat) (w : World) :
  Calls Tryz.prog 7 #[.pointer none, .agg (cfgL c).toArray, .string sb, .slice a n cap] w fun en w' => ∃ x : Stt, en = .returned (.tuple #[.agg x.cells.toArray, .int .i64 1]) ∧ x.ok ∧ Below w.heap.size w w' := by
 obtain ⟨zc, hz0, hzl, hz1, hzr, hbn⟩ : ∃ z : List Value, Hid (z = Stt.zero.cells) ∧ z.length = 37 ∧ (∀ v ∈ z, v.oneCell' = true) ∧ (∀ w : World, (zeroValue 36).run Tryz.prog w = .ok (.agg z.toArray) w) ∧ (∀ w : World, (Instr.build 36 #[]).run Tryz.prog w = .ok (.agg z.toArray) w) := ⟨_, hide rfl, Stt.len Stt.zero_ok, Stt.one _, zeroS0, build_s0⟩
 have cK := fun w0 => Qs.klen_any none [] w0 (.inl ⟨rfl, rfl⟩)
 obtain ⟨hB0, -, hs0⟩ := boxed_new w (cfgL c) 23
 generalize cfgL c = u at *
 go_enter Tryz.func7, Tryz.ntmps7
 go_upto_region 0 with fail
 try simp only [Act.put]
 refine pl_begin ?_
 refine pl_run (d := some 5) (v := .pointer (some ⟨w.heap.size, 0, none⟩)) (w' := w.alloc (.cells u.toArray 23)) (by rfl) (ex_boxR rfl rfl) rfl ?_
 simp only [nz]
 obtain ⟨W0, hW0⟩ : ∃ W, w.alloc (.cells u.toArray 23) = W := ⟨_, rfl⟩
 rw [hW0] at hB0 hs0 ⊢
 clear hW0
 obtain ⟨hB1, -, hs1⟩ := boxed_new W0 zc 36
 have th1 := there_newN W0 zc.toArray 36 (n := 37) (by simp [hzl])
 refine pl_run (d := some 8) (v := .pointer (some ⟨W0.heap.size, 0, none⟩)) (w' := W0.alloc (.cells zc.toArray 36)) (by rfl) (ex_alloc rfl (hzr _)) rfl ?_
 simp only [nz]
 refine pl_t 9 (?_) (by rfl) ?_ rfl ?_
 rotate_left
 ·go_simp
  try with_reducible rfl
 simp only [nz]
 refine pl_nil ?_
 obtain ⟨W1, hW1⟩ : ∃ W, W0.alloc (.cells zc.toArray 36) = W := ⟨_, rfl⟩
 rw [hW1] at hB1 hs1 th1 ⊢
 clear hW1
 have B1 := hB0.trans (hB1.mono (by omega))
 obtain ⟨A, hA⟩ : ∃ X, W0.heap.size = X := ⟨_, rfl⟩
 have HA : w.heap.size ≤ A := by omega
 rw [hA] at th1
 simp only [hA]
 clear hB0 hB1 hA hs0 hs1
 go_upto_region 1 with fail
 try simp only [Act.put]
 refine pl_begin ?_
 refine pl_t 14 (?_) (by rfl) ?_ rfl ?_
 rotate_left
 ·go_simp
  try with_reducible rfl
 simp only [nz]
 refine pl_call (d := some 15) (by rfl) (by go_simp; first | done | exact ⟨rfl, rfl⟩ | with_reducible rfl) rfl ?_
 refine (cK W1).mono ?_
 rintro _ wk ⟨rfl, hx⟩
 obtain rfl := hx.symm
 clear hx
 refine ⟨_, rfl, ?_⟩
 simp only [nz]
 refine pl_t 16 (.bool true) (by rfl) (by go_simp) rfl ?_
 simp only [nz]
 refine pl_nil ?_
 go_upto_region 2 with fail
 try simp only [Act.put]
 refine pl_begin ?_
 refine pl_t 17 (.agg zc.toArray) (by rfl) (ex_build (parts := []) rfl rfl (hbn _)) rfl ?_
 simp only [nz]
 refine pl_store (w' := W1.setCells A 0 zc) (by rfl) (ex_put (cs := zc.toArray) rfl rfl rfl (by simpa [hzl] using th1) (by simpa [hzl] using iszSt) (all_one hz1)) rfl ?_
 refine pl_t 9 (?_) (by rfl) ?_ rfl ?_
 rotate_left
 ·go_simp
  try with_reducible rfl
 simp only [nz]
 refine pl_nil ?_
 have hrs := run_loadVar_mid (P := Tryz.prog) (W1.setCells A 0 zc) A 0 36 zc _ (World.rangeAt_setCells_same W1 A 0 zc (by rw [hzl]; exact th1)) Tryz.underlying36 rfl (by rw [hzl]; exact iszSt)
 have HB := hide (below_sets HA zc 0 _ B1)
 clear th1 B1 cK
 go_wp2_with fail
 refine bodyPost_ret (results_ct rfl _ _ _ rfl hrs) rfl ?_
 exact ⟨Stt.zero, by rw [← hz0.out]; rfl, Stt.zero_ok, HB.out⟩
end Go.Proofs.YtnfijfnnpbenfaaGreatDoor
namespace Go.Proofs.YtnfijfnnpbenfaaGreatDoor.Mk
open Go Go.RowKit
section
variable {P : Program} (w : World)
end
end Go.Proofs.YtnfijfnnpbenfaaGreatDoor.Mk
namespace Go.Proofs.YtnfijfnnpbenfaaGreatDoor.Mk
open Go Go.RowKit
section
variable {P : Program} (w : World)
end
end Go.Proofs.YtnfijfnnpbenfaaGreatDoor.Mk
namespace Go.Proofs.YtnfijfnnpbenfaaGreatDoor.Mk
open Go.RowKit
def v8 (zs : List Int) : List Value := zs.map (Value.int .u8)
@[simp] theorem v8_length (zs : List Int) : (v8 zs).length = zs.length := by simp [v8]
theorem v8_one (xs : List Int) : ∀ v ∈ v8 xs, v.oneCell' = true := by
 intro v hv; obtain ⟨x, _, rfl⟩ := List.mem_map.1 hv; rfl
theorem get8 {w : World} {b o : Nat} {xs : List Int} (h : w.rangeAt b o (v8 xs)) {i : Nat} (hi : i < xs.length) : w.cell? ⟨b, o + i, none⟩ = some (.int .u8 (xs.getD i 0)) := by
 refine h i _ ?_
 simp [v8, List.getElem?_eq_getElem hi]
theorem v8_set (xs : List Int) (i : Nat) (x : Int) : (v8 xs).set i (.int .u8 x) = v8 (xs.set i x) := by
 unfold v8; rw [List.map_set]
def RowAt (w : World) (a : Option Addr) (zs : List Int) : Prop :=
 zs.length ≤ maxLen ∧ (∀ z ∈ zs, 0 ≤ z ∧ z < 256) ∧ (zs = [] ∨ ∃ b off, a = some ⟨b, off, none⟩ ∧ b < w.heap.size ∧ w.rangeAt b off (v8 zs))
theorem RowAt.below {w w' : World} {a : Option Addr} {zs : List Int} (h : RowAt w a zs) (hb : Below w.heap.size w w') : RowAt w' a zs := by
 refine ⟨h.1, h.2.1, ?_⟩
 rcases h.2.2 with h | ⟨b, off, rfl, h1, h2⟩
 ·exact Or.inl h
 ·exact Or.inr ⟨b, off, rfl, Nat.lt_of_lt_of_le h1 hb.size, range_below h2 hb h1⟩
theorem RowAt.take {w : World} {a : Option Addr} {zs : List Int} (h : RowAt w a zs) (n : Nat) : RowAt w a (zs.take n) := by
 obtain ⟨h1, h2, h3⟩ := h
 refine ⟨by rw [List.length_take]; omega, fun z hz => h2 z (List.mem_of_mem_take hz), ?_⟩
 rcases h3 with rfl | ⟨b, off, rfl, hb, hc⟩
 ·left; simp
 ·right
  refine ⟨b, off, rfl, hb, ?_⟩
  have e : v8 zs = v8 (zs.take n) ++ v8 (zs.drop n) := by unfold v8; rw [← List.map_append, List.take_append_drop]
  rw [e] at hc
  exact range_left hc
theorem RowAt.drop {w : World} {a : Option Addr} {zs : List Int} (h : RowAt w a zs) (n cap : Nat) (hn : n ≤ zs.length) (hcap : zs.length ≤ cap) : RowAt w (cutA a cap n) (zs.drop n) := by
 obtain ⟨h1, h2, h3⟩ := h
 refine ⟨by rw [List.length_drop]; omega, fun z hz => h2 z (List.mem_of_mem_drop hz), ?_⟩
 by_cases he : n = zs.length
 ·left; simp [he]
 ·rcases h3 with rfl | ⟨b, off, rfl, hb, hc⟩
  ·left; simp
  ·right
   refine ⟨b, off + n, ?_, hb, ?_⟩
   ·unfold cutA
    rw [if_neg (by omega), Option.map_some, Addr.add_mid]
   ·have e : v8 zs = v8 (zs.take n) ++ v8 (zs.drop n) := by unfold v8; rw [← List.map_append, List.take_append_drop]
    rw [e] at hc
    have := range_right hc
    rwa [v8_length, List.length_take_of_le hn] at this
theorem v8_append (a b : List Int) : v8 (a ++ b) = v8 a ++ v8 b := by simp [v8]
theorem own_bytes {w : World} {B : Nat} {v : Value} {zs : List Int} (h : w.ownsRow B 5 1 v zs.length (v8 zs)) (hz : ∀ z ∈ zs, 0 ≤ z ∧ z < 256) (hm : zs.length ≤ maxLen) :
  ∃ a cap, v = .slice a zs.length cap ∧ zs.length ≤ cap ∧ cap ≤ maxLen ∧ RowAt w a zs := by
 rcases own_range h with ⟨rfl, h0, _⟩ | ⟨g, cap, rfl, hb, hg, hn, hcm, hr⟩
 ·have : zs = [] := List.eq_nil_of_length_eq_zero h0
  subst this
  exact ⟨none, 0, rfl, by simp, by unfold maxLen; omega, hm, hz, Or.inl rfl⟩
 ·exact ⟨_, cap, rfl, hn, hcm, hm, hz, Or.inr ⟨g, 0, rfl, hg, hr⟩⟩
theorem RowAt.src {w : World} {a : Option Addr} {zs : List Int} (h : RowAt w a zs) (cap : Nat) : Src Tryz.prog 1 57 (.slice a zs.length cap) zs.length (v8 zs) w := by
 cases a with
 | none =>
  have : zs = [] := by
   rcases h.2.2 with q | ⟨b, off, hx, _⟩
   ·exact q
   ·cases hx
  subst this
  exact Src.ofNil w Tryz.underlying57 cap
 | some x =>
  refine Src.ofSlice w Tryz.underlying57 x zs.length cap _ (by simp) (fun j u hu => ?_) (v8_one _)
  rcases h.2.2 with rfl | ⟨b, off, hx, _, hr⟩
  ·simp [v8] at hu
  ·cases hx
   rw [Addr.add_mid]
   exact hr j u hu
def IsRow (k : IntKind) (w : World) (a : Option Addr) (len cap : Nat) (zs : List Int) : Prop :=
 (a = none ∧ len = 0 ∧ cap = 0 ∧ zs = []) ∨
 ∃ x, a = some x ∧ len ≤ cap ∧ cap ≤ maxLen ∧ zs.length = cap ∧ (∀ i, i < zs.length → w.cell? (x.add i) = some (.int k (zs.getD i 0))) ∧ ∀ n ∈ zs, (Lit.int k n).wf = true
theorem IsRow.cells {k : IntKind} {w : World} {a : Option Addr} {len cap : Nat} {zs : List Int} (h : IsRow k w a len cap zs) :
  len ≤ cap ∧ cap ≤ maxLen ∧ (zs.take len).length = len ∧ (∀ z ∈ zs.take len, (Lit.int k z).wf = true) ∧ (zs.take len = [] ∨ ∃ b off, a = some ⟨b, off, none⟩ ∧ b < w.heap.size ∧ w.rangeAt b off ((zs.take len).map (Value.int k))) := by
 rcases h with ⟨rfl, rfl, rfl, rfl⟩ | ⟨x, rfl, hl, hm, hz, hcell, hwz⟩
 ·simp
 ·refine ⟨hl, hm, by rw [List.length_take]; omega, fun z hz => hwz z (List.mem_of_mem_take hz), ?_⟩
  by_cases h0 : len = 0
  ·left; simp [h0]
  ·right
   obtain ⟨b, off, spot⟩ := x
   have hc := hcell 0 (by omega)
   have hspot : spot = none := by simpa [Addr.add] using World.cell?_spot hc
   subst hspot
   refine ⟨b, off, rfl, ?_, fun j v hv => ?_⟩
   ·have := World.block_lt_of_cell? w _ hc; simpa [Addr.add] using this
   ·have hj : j < (zs.take len).length := by
     have := (List.getElem?_eq_some_iff.1 hv).1
     simpa using this
    rw [List.length_take] at hj
    have hcj := hcell j (by omega)
    rw [Addr.add_mid] at hcj
    rw [hcj, ← hv]
    have hjz : j < zs.length := by omega
    simp only [List.getElem?_map, List.getElem?_take]
    rw [if_pos (by omega), List.getElem?_eq_getElem hjz, List.getD_eq_getElem?_getD, List.getElem?_eq_getElem hjz]
    rfl
theorem IsRow.rowAt {w : World} {a : Option Addr} {len cap : Nat} {zs : List Int} (h : IsRow .u8 w a len cap zs) : ∃ ys : List Int, len = ys.length ∧ len ≤ cap ∧ cap ≤ maxLen ∧ RowAt w a ys := by
 obtain ⟨h1, h2, h3, h4, h5⟩ := h.cells
 refine ⟨zs.take len, h3.symm, h1, h2, by omega, fun z hz => ?_, h5⟩
 have := h4 z hz
 simp [Lit.wf, IntKind.min, IntKind.max, IntKind.signed, IntKind.bits] at this
 omega
open Go Go.RowKit
open Go Go.RowKit
section
variable {P : Program} {ops : Array Oper} {Q : Exit → Act → World → Prop}
end
end Go.Proofs.YtnfijfnnpbenfaaGreatDoor.Mk
namespace Go.Proofs.YtnfijfnnpbenfaaGreatDoor.Mk
open Go Go.RowKit
section
variable {P : Program} {ops : Array Oper} {Q : Exit → Act → World → Prop}
end
end Go.Proofs.YtnfijfnnpbenfaaGreatDoor.Mk
namespace Go.Proofs.YtnfijfnnpbenfaaGreatDoor.Mk
open Go Go.RowKit
section
variable {P : Program} {ops : Array Oper} {Q : Exit → Act → World → Prop}
end
end Go.Proofs.YtnfijfnnpbenfaaGreatDoor.Mk
namespace Go.Proofs.YtnfijfnnpbenfaaGreatDoor.Mk.Nq
open Go.RowKit
def goodB (n : Int) : Bool := decide (4 ≤ n ∧ n ≤ 64 ∧ n % 3 = 1)
theorem goodB_true {n : Int} (h : goodB n = true) : 4 ≤ n ∧ n ≤ 64 ∧ n % 3 = 1 := by simpa [goodB] using h
theorem goodB_mk {n : Int} (h : 4 ≤ n ∧ n ≤ 64 ∧ n % 3 = 1) : goodB n = true := by simpa [goodB] using h
theorem goodB_no {n : Int} (h : ¬ (4 ≤ n ∧ n ≤ 64 ∧ n % 3 = 1)) : goodB n = false := by simpa [goodB] using h
theorem hide {p : Prop} (h : p) : Hid p := h
theorem ret_bool {a b : Bool} (h : a = b) : Ending.returned (.bool a) = .returned (.bool b) := by rw [h]
theorem ret_int {k : IntKind} {a b : Int} (h : a = b) : Ending.returned (.int k a) = .returned (.int k b) := by rw [h]
set_option maxHeartbeats 400000 in
theorem good_any (n : Int) (w : World) : Calls Tryz.prog 42 #[.int .i64 n] w fun e w' => e = .returned (.bool (goodB n)) ∧ w' = w := by
 by_cases h1 : 4 ≤ n
 ·by_cases h2 : n ≤ 64
  ·go_enter Tryz.func42, Tryz.ntmps42
   go_wp2
   go_ret
   refine ⟨ret_bool ?_, rfl⟩
   by_cases h3 : n % 3 = 1
   ·rw [goodB_mk ⟨h1, h2, h3⟩]; simpa using h3
   ·rw [goodB_no (by omega)]; simpa using h3
  ·go_enter Tryz.func42, Tryz.ntmps42
   go_wp2
   go_ret
   exact ⟨ret_bool (by rw [goodB_no (by omega)]), rfl⟩
 ·go_enter Tryz.func42, Tryz.ntmps42
  go_wp2
  go_ret
  exact ⟨ret_bool (by rw [goodB_no (by omega)]), rfl⟩
set_option maxHeartbeats 400000 in
theorem refGood_any (n : Int) (w : World) : Calls Tryz.prog 72 #[.int .i64 n] w fun e w' => e = .returned (.bool (goodB n)) ∧ w' = w := by
 by_cases h1 : 4 ≤ n
 ·by_cases h2 : n ≤ 64
  ·go_enter Tryz.func72, Tryz.ntmps72
   go_wp2
   go_ret
   refine ⟨ret_bool ?_, rfl⟩
   by_cases h3 : n % 3 = 1
   ·rw [goodB_mk ⟨h1, h2, h3⟩]; simpa using h3
   ·rw [goodB_no (by omega)]; simpa using h3
  ·go_enter Tryz.func72, Tryz.ntmps72
   go_wp2
   go_ret
   exact ⟨ret_bool (by rw [goodB_no (by omega)]), rfl⟩
 ·go_enter Tryz.func72, Tryz.ntmps72
  go_wp2
  go_ret
  exact ⟨ret_bool (by rw [goodB_no (by omega)]), rfl⟩
def faultsI (n : Int) : Int := if goodB n then n / 3 else 0
def mostI (n : Int) : Int := if goodB n then 2 * (n / 3) + 1 else 0
theorem faultsI_g {n : Int} (h : goodB n = true) : faultsI n = n / 3 := by simp [faultsI, h]
theorem mostI_g {n : Int} (h : goodB n = true) : mostI n = 2 * (n / 3) + 1 := by simp [mostI, h]
theorem faultsI_b {n : Int} (h : goodB n = false) : faultsI n = 0 := by simp [faultsI, h]
theorem mostI_b {n : Int} (h : goodB n = false) : mostI n = 0 := by simp [mostI, h]
theorem good_true {n : Int} (h : goodB n = true) (w : World) : Calls Tryz.prog 42 #[.int .i64 n] w fun e w' => e = .returned (.bool true) ∧ w' = w := by
 have := good_any n w; rwa [h] at this
theorem good_false {n : Int} (h : goodB n = false) (w : World) : Calls Tryz.prog 42 #[.int .i64 n] w fun e w' => e = .returned (.bool false) ∧ w' = w := by
 have := good_any n w; rwa [h] at this
theorem refGood_true {n : Int} (h : goodB n = true) (w : World) : Calls Tryz.prog 72 #[.int .i64 n] w fun e w' => e = .returned (.bool true) ∧ w' = w := by
 have := refGood_any n w; rwa [h] at this
theorem refGood_false {n : Int} (h : goodB n = false) (w : World) : Calls Tryz.prog 72 #[.int .i64 n] w fun e w' => e = .returned (.bool false) ∧ w' = w := by
 have := refGood_any n w; rwa [h] at this
set_option maxHeartbeats 400000 in
theorem faults_any (n : Int) (w : World) : Calls Tryz.prog 43 #[.int .i64 n] w fun e w' => e = .returned (.int .i64 (faultsI n)) ∧ w' = w := by
 cases h : goodB n
 ·have HH := hide h
  have c := good_false h w
  clear h
  go_enter Tryz.func43, Tryz.ntmps43
  go_wp2_with (go_at_call 42; refine c.mono ?_; rintro e w1 ⟨rfl, rfl⟩)
  go_ret
  exact ⟨ret_int (by rw [faultsI_b HH.out]), rfl⟩
 ·have HH := hide h
  have c := good_true h w
  obtain ⟨h1, h2, h3⟩ := goodB_true h
  have H3 := hide h3
  clear h h3
  go_enter Tryz.func43, Tryz.ntmps43
  go_wp2_with (go_at_call 42; refine c.mono ?_; rintro e w1 ⟨rfl, rfl⟩)
  go_ret
  exact ⟨ret_int (by rw [faultsI_g HH.out]; have := H3.out; omega), rfl⟩
set_option maxHeartbeats 400000 in
theorem most_any (n : Int) (w : World) : Calls Tryz.prog 14 #[.int .i64 n] w fun e w' => e = .returned (.int .i64 (mostI n)) ∧ w' = w := by
 cases h : goodB n
 ·have HH := hide h
  have c := good_false h w
  clear h
  go_enter Tryz.func14, Tryz.ntmps14
  go_wp2_with (go_at_call 42; refine c.mono ?_; rintro e w1 ⟨rfl, rfl⟩)
  go_ret
  exact ⟨ret_int (by rw [mostI_b HH.out]), rfl⟩
 ·have HH := hide h
  have c := good_true h w
  have d := faults_any n w
  rw [faultsI_g h] at d
  obtain ⟨h1, h2, h3⟩ := goodB_true h
  have b0 : 0 ≤ n / 3 := by omega
  have b1 : n / 3 ≤ 21 := by omega
  clear h h3
  generalize hq : n / 3 = q at *
  have HQ := hide hq
  clear hq
  go_enter Tryz.func14, Tryz.ntmps14
  go_wp2_with (first | (go_at_call 42; refine c.mono ?_; rintro e w1 ⟨rfl, rfl⟩) | (go_at_call 43; refine d.mono ?_; rintro e w1 ⟨rfl, rfl⟩))
  go_ret
  exact ⟨ret_int (by rw [mostI_g HH.out, HQ.out]), rfl⟩
def above (l : List Int) (x : Int) : Nat := l.countP (fun y => decide (x < y))
def same (l : List Int) (x : Int) : Nat := l.countP (fun y => decide (y = x))
def isNth (l : List Int) (i x : Int) : Bool := decide ((above l x : Int) < i) && decide (i ≤ (above l x : Int) + (same l x : Int))
def nthFrom (l : List Int) (i : Int) (m : List Int) : Int := (m.find? (isNth l i)).getD 0
def nth (l : List Int) (i : Int) : Int := nthFrom l i l
theorem above_same (l : List Int) (x : Int) : above l x + same l x = l.countP (fun y => decide (x ≤ y)) := by
  unfold above same
  induction l with
  | nil => rfl
  | cons a l ih =>
    simp only [List.countP_cons, decide_eq_true_eq]
    rcases Int.lt_trichotomy a x with h | h | h
    · rw [if_neg (by omega), if_neg (by omega), if_neg (by omega)]; omega
    · rw [if_neg (by omega), if_pos h, if_pos (by omega)]; omega
    · rw [if_pos (by omega), if_neg (by omega), if_pos (by omega)]; omega
theorem above_le (l : List Int) (x : Int) : above l x + same l x ≤ l.length := by
 rw [above_same]; exact List.countP_le_length
theorem above_anti (l : List Int) (x y : Int) (h : x < y) : above l y + same l y ≤ above l x := by
 rw [above_same]; unfold above
 refine List.countP_mono_left ?_
 intro z _ hz
 simp at hz ⊢; omega
theorem isNth_unique (l : List Int) (i x y : Int) (hx : isNth l i x = true) (hy : isNth l i y = true) : x = y := by
 simp only [isNth, Bool.and_eq_true, decide_eq_true_eq] at hx hy
 rcases Int.lt_trichotomy x y with h | h | h
 ·have := above_anti l x y h; omega
 ·exact h
 ·have := above_anti l y x h; omega
theorem above_perm {l m : List Int} (h : l.Perm m) (x : Int) : above l x = above m x := h.countP_eq _
theorem same_perm {l m : List Int} (h : l.Perm m) (x : Int) : same l x = same m x := h.countP_eq _
theorem nth_none (l : List Int) (i : Int) (h : i < 1 ∨ (l.length : Int) < i) : nth l i = 0 := by
 unfold nth nthFrom
 have : l.find? (isNth l i) = none := by
  rw [List.find?_eq_none]
  intro x _
  have := above_le l x
  simp only [isNth, Bool.and_eq_true, decide_eq_true_eq]
  omega
 rw [this]; rfl
theorem sorted_isNth (s : List Int) (hs : s.Pairwise (· ≤ ·)) (p : Nat) (hp : p < s.length) : isNth s ((s.length : Int) - p) s[p] = true := by
 have h1 : above s s[p] ≤ s.length - (p + 1) := by
  unfold above
  have e : s = s.take (p + 1) ++ s.drop (p + 1) := (List.take_append_drop _ _).symm
  have z : (s.take (p + 1)).countP (fun y => decide (s[p] < y)) = 0 := by
   rw [List.countP_eq_zero]
   intro y hy
   obtain ⟨k, hk, rfl⟩ := List.getElem_of_mem hy
   simp only [List.length_take] at hk
   have hk' : k ≤ p := by omega
   simp only [List.getElem_take, decide_eq_true_eq]
   rcases Nat.lt_or_eq_of_le hk' with h | rfl
   ·have := List.pairwise_iff_getElem.1 hs k p (by omega) hp h; omega
   ·omega
  have c : s.countP (fun y => decide (s[p] < y)) = (s.take (p + 1)).countP (fun y => decide (s[p] < y)) + (s.drop (p + 1)).countP (fun y => decide (s[p] < y)) := by
   rw [← List.countP_append, List.take_append_drop]
  rw [c, z]
  have := List.countP_le_length (p := fun y => decide (s[p] < y)) (l := s.drop (p + 1))
  simp only [List.length_drop] at this
  omega
 have h2 : s.length - p ≤ above s s[p] + same s s[p] := by
  rw [above_same]
  have c : s.countP (fun y => decide (s[p] ≤ y)) = (s.take p).countP (fun y => decide (s[p] ≤ y)) + (s.drop p).countP (fun y => decide (s[p] ≤ y)) := by
   rw [← List.countP_append, List.take_append_drop]
  have z : (s.drop p).countP (fun y => decide (s[p] ≤ y)) = (s.drop p).length := by
   rw [List.countP_eq_length]
   intro y hy
   obtain ⟨k, hk, rfl⟩ := List.getElem_of_mem hy
   simp only [List.length_drop] at hk
   simp only [List.getElem_drop, decide_eq_true_eq]
   rcases Nat.eq_zero_or_pos k with rfl | h
   ·simp
   ·exact List.pairwise_iff_getElem.1 hs p (p + k) hp (by omega) (by omega)
  rw [c, z, List.length_drop]; omega
 simp only [isNth, Bool.and_eq_true, decide_eq_true_eq]
 omega
theorem nth_sorted (l s : List Int) (hp : s.Perm l) (hs : s.Pairwise (· ≤ ·)) (i : Nat) (h1 : 1 ≤ i) (h2 : i ≤ l.length) : nth l i = s[s.length - i]'(by have := hp.length_eq; omega) := by
 have hl := hp.length_eq
 have hn := sorted_isNth s hs (s.length - i) (by omega)
 have e : ((s.length : Int) - ((s.length - i : Nat) : Int)) = (i : Int) := by omega
 rw [e] at hn
 have hn' : isNth l i s[s.length - i] = true := by
  unfold isNth at hn ⊢; rwa [above_perm hp, same_perm hp] at hn
 unfold nth nthFrom
 cases hf : l.find? (isNth l i) with
 | none =>
  rw [List.find?_eq_none] at hf
  exact absurd hn' (hf _ (hp.mem_iff.1 (List.getElem_mem _)))
 | some y =>
  have := List.find?_some hf
  exact isNth_unique l i _ _ this hn'
open Go.RowKit
def IsRow (k : IntKind) (w : World) (a : Option Addr) (len cap : Nat) (zs : List Int) : Prop :=
 (a = none ∧ len = 0 ∧ cap = 0 ∧ zs = []) ∨
 ∃ x, a = some x ∧ len ≤ cap ∧ cap ≤ maxLen ∧ zs.length = cap ∧ (∀ i, i < zs.length → w.cell? (x.add i) = some (.int k (zs.getD i 0))) ∧ ∀ n ∈ zs, (Lit.int k n).wf = true
def RowI (w : World) (a : Option Addr) (zs : List Int) : Prop :=
 zs.length ≤ maxLen ∧ (zs = [] ∨ ∃ b off, a = some ⟨b, off, none⟩ ∧ b < w.heap.size ∧ ∀ j, j < zs.length → w.cell? ⟨b, off + j, none⟩ = some (.int .i64 (zs[j]?.getD 0)))
theorem RowI.below {w w' : World} {a : Option Addr} {zs : List Int} (h : RowI w a zs) (hb : Below w.heap.size w w') : RowI w' a zs := by
 refine ⟨h.1, ?_⟩
 rcases h.2 with h | ⟨b, off, rfl, h1, h2⟩
 ·exact Or.inl h
 ·exact Or.inr ⟨b, off, rfl, Nat.lt_of_lt_of_le h1 hb.size, fun j hj => (hb.cell (p := ⟨b, off + j, none⟩) h1).trans (h2 j hj)⟩
theorem block_lt {w : World} {a : Addr} {v : Value} (h : w.cell? a = some v) : a.block < w.heap.size := by
 rcases Nat.lt_or_ge a.block w.heap.size with h' | h'
 ·exact h'
 ·simp [World.cell?, h'] at h
theorem IsRow.cells {k : IntKind} {w : World} {a : Option Addr} {len cap : Nat} {zs : List Int} (h : IsRow k w a len cap zs) :
  len ≤ cap ∧ cap ≤ maxLen ∧ (zs.take len).length = len ∧ (∀ z ∈ zs.take len, (Lit.int k z).wf = true) ∧ (zs.take len = [] ∨ ∃ b off, a = some ⟨b, off, none⟩ ∧ b < w.heap.size ∧ ∀ j, j < (zs.take len).length → w.cell? ⟨b, off + j, none⟩ = some (.int k ((zs.take len)[j]?.getD 0))) := by
 rcases h with ⟨rfl, rfl, rfl, rfl⟩ | ⟨x, rfl, hl, hm, hz, hcell, hwz⟩
 ·simp
 ·refine ⟨hl, hm, by rw [List.length_take]; omega, fun z hz => hwz z (List.mem_of_mem_take hz), ?_⟩
  by_cases h0 : len = 0
  ·left; simp [h0]
  ·right
   obtain ⟨b, off, spot⟩ := x
   have hc := hcell 0 (by omega)
   have hspot : spot = none := by simpa [Addr.add] using World.cell?_spot hc
   subst hspot
   refine ⟨b, off, rfl, ?_, fun j hj => ?_⟩
   ·have := block_lt hc; simpa [Addr.add] using this
   ·rw [List.length_take] at hj
    have hcj := hcell j (by omega)
    have e1 : (zs.take len)[j]?.getD 0 = zs.getD j 0 := by
     rw [List.getD_eq_getElem?_getD, List.getElem?_take, if_pos (by omega)]
    rw [e1]
    by_cases hj0 : j = 0
    ·subst hj0; simpa [Addr.add] using hcj
    ·simpa [Addr.add, hj0] using hcj
end Go.Proofs.YtnfijfnnpbenfaaGreatDoor.Mk.Nq
