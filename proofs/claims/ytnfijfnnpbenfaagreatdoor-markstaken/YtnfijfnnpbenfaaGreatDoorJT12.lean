/- Check of both; signs: where one is put; search, Clone; quorum.Add; signs gathered one by one: what Check says of them; MarksTaken: what is gathered (pure); appe -/
import Derived.Test.YtnfijfnnpbenfaaGreatDoorJT0
import Derived.Test.YtnfijfnnpbenfaaGreatDoorJT2
import Derived.Test.YtnfijfnnpbenfaaGreatDoorJT3
import Derived.Test.YtnfijfnnpbenfaaGreatDoorJT5
import Derived.Test.YtnfijfnnpbenfaaGreatDoorJT9
import Derived.Test.YtnfijfnnpbenfaaGreatDoorJT10
import Derived.Test.YtnfijfnnpbenfaaGreatDoorJT11
import Derived.Test.YtnfijfnnpbenfaaGreatDoorJT4
import Derived.Test.YtnfijfnnpbenfaaGreatDoorJT1
import Derived.Deep.Cut
import Derived.Deep.RegionWith
import Derived.RegionTactic
import Derived.WalkSpells
import Derived.Lib.SliceRun
import Derived.Lib.ItoaWalk
import Derived.Outline
import Derived.BigRegion
import Derived.ChangeAlike
import Derived.WalkKit
import Derived.Deep.AppendSrc
import Derived.Test.YtnfijfnnpbenfaaGreatDoorRows
import Derived.Test.YtnfijfnnpbenfaaGreatDoorChecked
import Derived.Deep.MidRow
import Derived.Below
import Derived.OwnWalk
import Derived.Laws.IdiomCopy
import Derived.Maps.OwnSet
import Derived.Deep.RegionHeld3
import Derived.Test.YtnfijfnnpbenfaaGreatDoorProg
import Derived.WalkLawsBesides
import Derived.Deep.OwnRows
import Derived.ProofKit
import Derived.OpenShut
import Derived.ShutString
import Derived.ChangeOld
namespace Go.Proofs.YtnfijfnnpbenfaaGreatDoor
open Go.RowKit
open Sha Tal
set_option linter.unusedVariables false
set_option linter.unusedSimpArgs false
open Qs (KeysAt SigsAt qcheckV okS checkOf refSignOf keysOf mostI)
theorem strOf_auxM : ∀ (zs : List Int) (r : ByteArray), (zs.foldl (fun r n => r.push (UInt8.ofNat n.toNat)) r).size = r.size + zs.length
  | [], r => by simp
  | z :: zs, r => by rw [List.foldl_cons, strOf_auxM zs, ByteArray.size_push, List.length_cons]; omega
theorem strOf_sizeM (zs : List Int) : (strOf zs).size = zs.length := by unfold strOf; rw [strOf_auxM]; simp
theorem parse_good {c : Ld.Cfg} {zs : List Int} (h : (parseS c zs).2 = 0) : (parseS c zs).1.good c = true := by
 unfold parseS at h ⊢
 split
 ·rename_i hd
  rw [if_pos hd] at h
  exact absurd h hd
 ·rename_i hd
  rw [if_neg hd] at h
  split
  ·assumption
  ·rename_i hg
   rw [if_neg hg] at h
   exact absurd h (by decide)
def bodyS (p : Sp) : ByteArray := optS (inB (p.e - 1) 1048576) (markL (p.e - 1) (sha (83 :: p.bytes)))
theorem bodyS_le (p : Sp) (h1 : -9223372036854775807 ≤ p.e) (h : p.e ≤ 9223372036854775807) : (bodyS p).size ≤ 1000 := by
 unfold bodyS optS
 split
 ·rw [← strL_length]
  have hl := markL_len (e := p.e - 1) (d := sha (83 :: p.bytes)) (by omega) (sha_length _)
  have hb := hl
  rw [strL_length]
  have : (strOf (markL (p.e - 1) (sha (83 :: p.bytes)))).size = (markL (p.e - 1) (sha (83 :: p.bytes))).length := strOf_sizeM _
  omega
 ·exact Nat.zero_le _
def chkS (V : Sp → Int) (c : Ld.Cfg) (zs : List Int) : Sp × Int := if (parseS c zs).2 ≠ 0 then (Sp.zero, (parseS c zs).2) else if (parseS c zs).1.e < 2 then (Sp.zero, 230) else if V (parseS c zs).1 ≠ 0 then (Sp.zero, V (parseS c zs).1) else ((parseS c zs).1, 0)
theorem dig_sp (x : Stt) : x.dig = sha (83 :: x.sp.bytes) := by unfold Stt.dig; rw [Stt.bytes_sp]
set_option maxRecDepth 100000 in
set_option maxHeartbeats 4000000 in
theorem ccheck_any (p : Option Addr) (ks : List (List Int)) (c : Ld.Cfg) (sb : ByteArray) (a : Option Addr) (cap : Nat) (rs : List Qs.Sg) (w : World) (hG : Glob w) (hk : KeysAt w p ks) (hks : ks ≠ []) (hs : sb.size ≤ 5000) (hat : SigsAt w a rs) (hlr : rs.length ≤ 100) :
  Calls Tryz.prog 7 #[.pointer p, .agg (cfgL c).toArray, .string sb, .slice a rs.length cap] w fun en w' => ParsA w (chkS (fun s => qcheckV (okS ks (bodyS s)) c.n rs (mostI c.n)) c (strL sb)) en w' := by
 obtain ⟨V, hV⟩ : ∃ V : Sp → Int, (fun s => qcheckV (okS ks (bodyS s)) c.n rs (mostI c.n)) = V := ⟨_, rfl⟩
 have hVs : ∀ s, V s = qcheckV (okS ks (bodyS s)) c.n rs (mostI c.n) := fun s => by rw [← hV]
 rw [hV]
 clear hV
 have cK := fun w0 h0 => Qs.klen_any p ks w0 h0
 have hkl : ks.length ≠ 0 := fun h => hks (List.eq_nil_of_length_eq_zero h)
 obtain ⟨kn, hkn⟩ : ∃ n, ks.length = n := ⟨_, rfl⟩
 simp only [hkn] at cK
 rw [hkn] at hkl
 have hknb : ((kn : Int) == 0) = false := by simpa using hkl
 have cQ := fun s w0 g k t => Qs.qcheck_any p ks c.n (bodyS s) a cap rs (mostI c.n) (by omega) w0 g k hks t
 have cM := fun w0 => Qs.most_any c.n w0
 obtain ⟨zc, hz0, hzl, hz1, hzr, hbn⟩ : ∃ z : List Value, Hid (z = Stt.zero.cells) ∧ z.length = 37 ∧ (∀ v ∈ z, v.oneCell' = true) ∧ (∀ w : World, (zeroValue 36).run Tryz.prog w = .ok (.agg z.toArray) w) ∧ (∀ w : World, (Instr.build 36 #[]).run Tryz.prog w = .ok (.agg z.toArray) w) := ⟨_, hide rfl, Stt.len Stt.zero_ok, Stt.one _, zeroS0, build_s0⟩
 have iu := iszCf c
 have hpg := parse_good (c := c) (zs := strL sb)
 have cP := fun w0 => sparse_any c sb w0 (by omega)
 unfold chkS
 unfold ParsA at cP
 generalize parseS c (strL sb) = pp at cP hpg ⊢
 obtain ⟨sp, d⟩ := pp
 simp only at cP hpg ⊢
 obtain ⟨PP, hPP⟩ : ∃ P, Hid ((if d ≠ 0 then (Sp.zero, d) else if sp.e < 2 then (Sp.zero, 230) else if V sp ≠ 0 then (Sp.zero, V sp) else (sp, 0)) = P) := ⟨_, hide rfl⟩
 rw [hPP.out]
 have HG := hide hG
 have HK := hide hk
 have HT := hide hat
 obtain ⟨hB0, hr0, hs0⟩ := boxed_new w (cfgL c) 23
 have hu0 : (cfgL c)[0]? = some (.int .i64 c.n) := rfl
 obtain ⟨u, hu⟩ : ∃ u, Hid (cfgL c = u) := ⟨_, hide rfl⟩
 rw [hu.out] at hB0 hr0 hs0 iu hu0
 simp only [hu.out] at cP ⊢
 obtain ⟨mo, hmo⟩ : ∃ m, Hid (mostI c.n = m) := ⟨_, hide rfl⟩
 simp only [hmo.out] at cQ cM
 obtain ⟨rl, hrl⟩ : ∃ n, rs.length = n := ⟨_, rfl⟩
 rw [hrl] at hlr
 simp only [hrl] at cQ ⊢
 go_enter Tryz.func7, Tryz.ntmps7
 go_upto_region 0 with fail
 try simp only [Act.put]
 refine pl_begin ?_
 refine pl_run (d := some 5) (v := .pointer (some ⟨w.heap.size, 0, none⟩)) (w' := w.alloc (.cells u.toArray 23)) (by rfl) (ex_boxR rfl rfl) rfl ?_
 simp only [nz]
 obtain ⟨W0, hW0⟩ : ∃ W, w.alloc (.cells u.toArray 23) = W := ⟨_, rfl⟩
 rw [hW0] at hB0 hr0 hs0 ⊢
 clear hW0
 obtain ⟨hB1, -, hs1⟩ := boxed_new W0 zc 36
 have th1 := there_newN W0 zc.toArray 36 (n := 37) (by simp [hzl])
 refine pl_run (d := some 8) (v := .pointer (some ⟨W0.heap.size, 0, none⟩)) (w' := W0.alloc (.cells zc.toArray 36)) (by rfl) (ex_alloc rfl (hzr _)) rfl ?_
 simp only [nz]
 refine pl_t 9 (?_) (by rfl) ?_ rfl ?_
 rotate_left
 ·go_simp
  try with_reducible rfl
 simp only [nz]
 refine pl_nil ?_
 obtain ⟨W1, hW1⟩ : ∃ W, W0.alloc (.cells zc.toArray 36) = W := ⟨_, rfl⟩
 rw [hW1] at hB1 hs1 th1 ⊢
 clear hW1
 have rc1 := range_below hr0 hB1 hs0
 have B1 := hB0.trans (hB1.mono (by omega))
 obtain ⟨A, hA⟩ : ∃ X, W0.heap.size = X := ⟨_, rfl⟩
 obtain ⟨C, hC⟩ : ∃ X, w.heap.size = X := ⟨_, rfl⟩
 have HA : Hid (w.heap.size ≤ A) := hide (by omega)
 rw [hA] at hs1 th1 hs0
 rw [hC] at hs0 rc1
 have sA1 := hs1
 have sc1 : C < W1.heap.size := by omega
 simp only [hA, hC]
 clear hr0 hB0 hB1 hA hs0 hs1 hC hG hk hat
 have k1 := HK.out.below B1
 go_upto_region 1 with fail
 try simp only [Act.put]
 refine pl_begin ?_
 refine pl_t 14 (?_) (by rfl) ?_ rfl ?_
 rotate_left
 ·go_simp
  try with_reducible rfl
 simp only [nz]
 refine pl_call (d := some 15) (by rfl) (by go_simp; first | done | exact ⟨rfl, rfl⟩ | with_reducible rfl) rfl ?_
 refine (cK W1 k1).mono ?_
 rintro _ wk ⟨rfl, hx⟩
 obtain rfl := hx.symm
 clear hx
 refine ⟨_, rfl, ?_⟩
 simp only [nz]
 refine pl_t 16 (.bool false) (by rfl) (by go_simp <;> (try simp [*])) rfl ?_
 simp only [nz]
 refine pl_nil ?_
 clear k1 cK hknb
 go_upto_region 3 with fail
 try simp only [Act.put]
 refine pl_begin ?_
 refine pl_t 19 (.agg u.toArray) (by rfl) (ex_mid rfl rfl rc1 Tryz.underlying23 rfl iu) rfl ?_
 simp only [nz]
 refine pl_t 20 (?_) (by rfl) ?_ rfl ?_
 rotate_left
 ·go_simp
  try with_reducible rfl
 simp only [nz]
 refine pl_call (d := some 21) (by rfl) (by go_simp; first | done | exact ⟨rfl, rfl⟩ | with_reducible rfl) rfl ?_
 refine (cP W1).mono ?_
 rintro _ w2 ⟨x, rfl, xs, xo, xa, xl, hb2⟩
 refine ⟨_, rfl, ?_⟩
 simp only [nz]
 have hxl : x.cells.length = 37 := Stt.len xo
 have hx1 := Stt.one x
 have hix : (Tryz.prog.info? 36).map (·.size) = some x.cells.length := by rw [hxl]; exact iszSt
 refine pl_t 18 (?_) (by rfl) ?_ rfl ?_
 rotate_left
 ·go_simp
  try with_reducible rfl
 simp only [nz]
 refine pl_t 22 (?_) (by rfl) ?_ rfl ?_
 rotate_left
 ·go_simp
  try with_reducible rfl
 simp only [nz]
 refine pl_t 23 (?_) (by rfl) ?_ rfl ?_
 rotate_left
 ·go_simp
  try with_reducible rfl
 simp only [nz]
 refine pl_run (d := some 10) (v := .pointer (some ⟨w2.heap.size, 0, none⟩)) (w' := w2.alloc (.cells zc.toArray 36)) (by rfl) (ex_alloc rfl (hzr _)) rfl ?_
 simp only [nz]
 refine pl_store (w' := (w2.alloc (.cells zc.toArray 36)).setCells w2.heap.size 0 x.cells) (by rfl) (ex_put (cs := x.cells.toArray) rfl rfl rfl (there_newN _ _ _ (by simp [hzl, hxl])) (by simpa using hix) (all_one hx1)) rfl ?_
 refine pl_t 11 (?_) (by rfl) ?_ rfl ?_
 rotate_left
 ·go_simp
  try with_reducible rfl
 simp only [nz]
 refine pl_nil ?_
 obtain ⟨rx, hF2, hF3, -⟩ := fresh_store w2 zc.toArray 36 x.cells (by simp [hzl, hxl])
 have hb23 := hb2.trans (hF2.mono hb2.size)
 have B3 := B1.trans (hb23.mono B1.size)
 have rc3 := range_below rc1 hb23 sc1
 have th3 := there_below th1 hb23 sA1
 have sA3 := Nat.lt_of_lt_of_le sA1 hb23.size
 have sc3 := Nat.lt_of_lt_of_le sc1 hb23.size
 have xa3 := xa.below hF2
 have HX : Hid (x.sp = sp ∧ x.ok ∧ x.Lo (A + 1)) := hide ⟨xs, xo, xl.mono (by have := hb2.size; omega)⟩
 obtain ⟨S, hS0⟩ : ∃ X, w2.heap.size = X := ⟨_, rfl⟩
 simp only [hS0] at rx hF3 xa3 ⊢
 obtain ⟨w3, hw3⟩ : ∃ W, (w2.alloc (.cells zc.toArray 36)).setCells S 0 x.cells = W := ⟨_, rfl⟩
 simp only [hS0] at B3 rc3 th3 sA3 sc3 
 simp only [hw3] at rx hF3 xa3 B3 rc3 th3 sA3 sc3  ⊢
 have sS3 : S < w3.heap.size := by omega
 clear hF2 hF3 hw3 hS0 hb2 hb23 rc1 th1 B1 sA1 sc1 xa cP xl
 go_upto_region 4 with fail
 by_cases hd : d = 0
 rotate_left
 ·have hdn : (d != 0) = true := by simpa using hd
  have HPE : Hid (PP = (Sp.zero, d)) := hide (by rw [← hPP.out, if_pos hd])
  clear hPP hd hpg
  try simp only [Act.put]
  refine pl_begin ?_
  refine pl_t 25 (?_) (by rfl) ?_ rfl ?_
  rotate_left
  ·go_simp
   try with_reducible rfl
  simp only [nz]
  refine pl_t 26 (.bool true) (by rfl) (by go_simp <;> (try simp [*])) rfl ?_
  simp only [nz]
  refine pl_t 24 (?_) (by rfl) ?_ rfl ?_
  rotate_left
  ·go_simp
   try with_reducible rfl
  simp only [nz]
  refine pl_nil ?_
  go_upto_region 5 with fail
  try simp only [Act.put]
  refine pl_begin ?_
  refine pl_t 27 (.agg zc.toArray) (by rfl) (ex_build (parts := []) rfl rfl (hbn _)) rfl ?_
  simp only [nz]
  refine pl_t 28 (?_) (by rfl) ?_ rfl ?_
  rotate_left
  ·go_simp
   try with_reducible rfl
  simp only [nz]
  refine pl_store (w' := w3.setCells A 0 zc) (by rfl) (ex_put (cs := zc.toArray) rfl rfl rfl (by simpa [hzl] using th3) (by simpa [hzl] using iszSt) (all_one hz1)) rfl ?_
  refine pl_t 9 (?_) (by rfl) ?_ rfl ?_
  rotate_left
  ·go_simp
   try with_reducible rfl
  simp only [nz]
  refine pl_nil ?_
  have hrs := run_loadVar_mid (P := Tryz.prog) (w3.setCells A 0 zc) A 0 36 zc _ (World.rangeAt_setCells_same w3 A 0 zc (by rw [hzl]; exact th3)) Tryz.underlying36 rfl (by rw [hzl]; exact iszSt)
  have HF : Hid (ParsA w PP (.returned (.tuple #[.agg zc.toArray, .int .i64 d])) (w3.setCells A 0 zc)) := hide (by
   rw [HPE.out]
   exact pars_out (x := Stt.zero) hz0.out.symm HA.out B3 rfl rfl Stt.zero_ok (Stt.zero_at _) (Stt.zero_lo _))
  clear HPE rx xa3 B3 rc3 th3 sA3 sc3 sS3 HX cQ cM
  go_wp2_with fail
  refine bodyPost_ret (results_ct rfl _ _ _ rfl hrs) rfl ?_
  exact HF.out
 subst hd
 try simp only [Act.put]
 refine pl_begin ?_
 refine pl_t 25 (?_) (by rfl) ?_ rfl ?_
 rotate_left
 ·go_simp
  try with_reducible rfl
 simp only [nz]
 refine pl_t 26 (.bool false) (by rfl) (by go_simp) rfl ?_
 simp only [nz]
 refine pl_t 24 (?_) (by rfl) ?_ rfl ?_
 rotate_left
 ·go_simp
  try with_reducible rfl
 simp only [nz]
 refine pl_nil ?_
 have hgx := hpg rfl
 rw [← xs, ← Stt.good_sp] at hgx
 have hfit := fit_of_good xo xa3 hgx
 have hwl : x.ws.xs.length ≤ 100 := by have := hfit.wl; show x.sp.ws.length ≤ 100; omega
 have hpl : x.ps.xs.length ≤ 200 := by have := hfit.pl; show x.sp.ps.length ≤ 200; omega
 have he1 : x.e ≤ 1048577 := hfit.e1
 have hxe : x.e = sp.e := congrArg Sp.e xs
 have rx0 : w3.cell? ⟨S, 0, none⟩ = some (.int .i64 sp.e) := by rw [← hxe]; exact rx 0 _ rfl
 go_upto_region 6 with fail
 by_cases h2 : sp.e < 2
 ·have HPE : Hid (PP = (Sp.zero, 230)) := hide (by rw [← hPP.out, if_neg (by simp), if_pos h2])
  clear hPP hpg
  try simp only [Act.put]
  refine pl_begin ?_
  refine pl_t 30 (?_) (by rfl) ?_ rfl ?_
  rotate_left
  ·go_simp
   try with_reducible rfl
  simp only [nz]
  refine pl_t 31 (.int .i64 sp.e) (by rfl) (pl_one rfl rfl rx0 Tryz.underlying3 rfl) rfl ?_
  simp only [nz]
  refine pl_t 32 (.bool true) (by rfl) (by go_simp) rfl ?_
  simp only [nz]
  refine pl_t 29 (?_) (by rfl) ?_ rfl ?_
  rotate_left
  ·go_simp
   try with_reducible rfl
  simp only [nz]
  refine pl_nil ?_
  go_upto_region 7 with fail
  try simp only [Act.put]
  refine pl_begin ?_
  refine pl_t 33 (.agg zc.toArray) (by rfl) (ex_build (parts := []) rfl rfl (hbn _)) rfl ?_
  simp only [nz]
  refine pl_store (w' := w3.setCells A 0 zc) (by rfl) (ex_put (cs := zc.toArray) rfl rfl rfl (by simpa [hzl] using th3) (by simpa [hzl] using iszSt) (all_one hz1)) rfl ?_
  refine pl_t 9 (?_) (by rfl) ?_ rfl ?_
  rotate_left
  ·go_simp
   try with_reducible rfl
  simp only [nz]
  refine pl_nil ?_
  have hrs := run_loadVar_mid (P := Tryz.prog) (w3.setCells A 0 zc) A 0 36 zc _ (World.rangeAt_setCells_same w3 A 0 zc (by rw [hzl]; exact th3)) Tryz.underlying36 rfl (by rw [hzl]; exact iszSt)
  have HF : Hid (ParsA w PP (.returned (.tuple #[.agg zc.toArray, .int .i64 230])) (w3.setCells A 0 zc)) := hide (by
   rw [HPE.out]
   exact pars_out (x := Stt.zero) hz0.out.symm HA.out B3 rfl rfl Stt.zero_ok (Stt.zero_at _) (Stt.zero_lo _))
  clear HPE rx xa3 B3 rc3 th3 sA3 sc3 sS3 HX cQ cM rx0
  go_wp2_with fail
  refine bodyPost_ret (results_ct rfl _ _ _ rfl hrs) rfl ?_
  exact HF.out
 try simp only [Act.put]
 refine pl_begin ?_
 refine pl_t 30 (?_) (by rfl) ?_ rfl ?_
 rotate_left
 ·go_simp
  try with_reducible rfl
 simp only [nz]
 refine pl_t 31 (.int .i64 sp.e) (by rfl) (pl_one rfl rfl rx0 Tryz.underlying3 rfl) rfl ?_
 simp only [nz]
 refine pl_t 32 (.bool false) (by rfl) (by go_simp) rfl ?_
 simp only [nz]
 refine pl_t 29 (?_) (by rfl) ?_ rfl ?_
 rotate_left
 ·go_simp
  try with_reducible rfl
 simp only [nz]
 refine pl_nil ?_
 have hpe1 : sp.e ≤ 1048577 := by omega
 have hb := bodyS_le sp (by omega) (by omega)
 have cQ := cQ sp
 rw [show qcheckV (okS ks (bodyS sp)) c.n rs mo = V sp by rw [hVs, hmo.out]] at cQ
 have cD := fun w0 g h => sdigest_any x w0 g xo h hwl hpl
 rw [dig_sp, xs] at cD
 have cMk := fun w0 => mark13_any (sp.e - 1) (sha (83 :: sp.bytes)) (by omega) (sha_length _) (sha_ok _) w0
 have cMk : ∀ w0, Calls Tryz.prog 12 #[.int .i64 (sp.e - 1), .agg (v8 (sha (83 :: sp.bytes))).toArray] w0 fun er w' => er = .returned (.string (bodyS sp)) ∧ Below w0.heap.size w0 w' := cMk
 generalize bodyS sp = body at cQ cMk hb
 generalize sha (83 :: sp.bytes) = dg at cD cMk
 obtain ⟨q, hq⟩ : ∃ q, Hid (x.cells = q) := ⟨_, hide rfl⟩
 rw [hq.out] at rx hxl hx1 hix
 simp only [hq.out] at cD
 obtain ⟨v, hv⟩ : ∃ v, V sp = v := ⟨_, rfl⟩
 simp only [hv] at cQ
 have HPV : Hid (PP = if v ≠ 0 then (Sp.zero, v) else (sp, 0)) := hide (by rw [← hPP.out, if_neg (by simp), if_neg h2, hv])
 obtain ⟨e1, he1'⟩ : ∃ e, sp.e - 1 = e := ⟨_, rfl⟩
 simp only [he1'] at cMk
 have hsub : IntKind.i64.wrap (sp.e - 1) = e1 := by rw [IntKind.wrap_i64]; omega
 obtain ⟨se, hse⟩ : ∃ e, sp.e = e := ⟨_, rfl⟩
 rw [hse] at rx0 hsub
 have rcQ := rc3
 have rxQ := rx
 have thQ := th3
 have xaQ := xa3
 have BQ := B3
 have sAQ := sA3
 have scQ := sc3
 have sSQ := sS3
 clear hPP hpg hVs hv rc3 rx th3 xa3 B3 sA3 sc3 sS3 hgx hfit hwl hpl hxe xs he1 hpe1 he1' hse h2
 go_upto_region 8 with fail
 have rc8 : w3.drew.rangeAt C 0 u := (World.rangeAt_drew _ _ _ _).2 rcQ
 have rx8 : w3.drew.rangeAt S 0 q := (World.rangeAt_drew _ _ _ _).2 rxQ
 have th8 : w3.drew.there A 0 37 := thQ
 have xa8 : x.At w3.drew := xaQ.below ((Below.refl _ _).drew)
 have B8 : Below w.heap.size w w3.drew := BQ.drew
 have sA8 : A < w3.drew.heap.size := sAQ
 have sc8 : C < w3.drew.heap.size := scQ
 have sS8 : S < w3.drew.heap.size := sSQ
 have rx08 : w3.drew.cell? ⟨S, 0, none⟩ = some (.int .i64 se) := rx0
 refine hs_begin (S := (Below w3.drew.heap.size w3.drew)) 7 rfl (by kernel_rfl) ?_
 obtain ⟨w8, hw8⟩ : ∃ W, w3.drew = W := ⟨_, rfl⟩
 rw [hw8] at rc8 rx8 rx08 th8 xa8 B8 sA8 sc8 sS8 ⊢
 clear hw8 rcQ rxQ thQ xaQ BQ sAQ scQ sSQ
 have hS : (Below w8.heap.size w8) w8 := Below.refl _ _
 refine hs_t 0 34 (?_) rfl (by kernel_rfl) (by kernel_rfl) (by kernel_rfl) (by rfl) ?_ hS rfl ?_
 rotate_left
 ·intro w' hw
  go_simp
  try with_reducible rfl
 simp only [nz]
 refine hs_t 1 35 (.int .i64 se) rfl (by kernel_rfl) (by kernel_rfl) (by kernel_rfl) (by rfl) (fun w' hw => pl_one rfl rfl ((hw.cell (p := ⟨S, 0, none⟩) sS8).trans rx08) Tryz.underlying3 rfl) hS rfl ?_
 simp only [nz]
 refine hs_t 2 36 (.int .i64 e1) rfl (by kernel_rfl) (by kernel_rfl) (by kernel_rfl) (by rfl) (fun w' hw => by go_simp <;> (try simp [hsub])) hS rfl ?_
 simp only [nz]
 refine hs_t 3 37 (.agg q.toArray) rfl (by kernel_rfl) (by kernel_rfl) (by kernel_rfl) (by rfl) (fun w' hw => ex_mid rfl rfl (range_below rx8 hw sS8) Tryz.underlying36 rfl hix) hS rfl ?_
 simp only [nz]
 refine hs_call (i := 4) (d := some 38) rfl (by kernel_rfl) (by rfl) (by go_simp; first | done | exact ⟨rfl, rfl⟩ | with_reducible rfl) rfl ?_
 refine (cD w8 (HG.out.below B8) xa8).mono ?_
 rintro _ wa ⟨rfl, hb_wa⟩
 have hS : (Below w8.heap.size w8) wa := hS.trans (hb_wa.mono hS.size)
 refine ⟨_, rfl, hS, ?_⟩
 simp only [nz]
 refine hs_call (i := 5) (d := some 39) rfl (by kernel_rfl) (by rfl) (by go_simp; first | done | exact ⟨rfl, rfl⟩ | with_reducible rfl) rfl ?_
 refine (cMk wa).mono ?_
 rintro _ wb ⟨rfl, hb_wb⟩
 have hS : (Below w8.heap.size w8) wb := hS.trans (hb_wb.mono hS.size)
 refine ⟨_, rfl, hS, ?_⟩
 simp only [nz]
 refine hs_t 6 12 (?_) rfl (by kernel_rfl) (by kernel_rfl) (by kernel_rfl) (by rfl) ?_ hS rfl ?_
 rotate_left
 ·intro w' hw
  go_simp
  try with_reducible rfl
 simp only [nz]
 refine hs_done (by kernel_rfl) ?_
 have rcQ := range_below rc8 hS sc8
 have rxQ := range_below rx8 hS sS8
 have thQ := there_below th8 hS sA8
 have xaQ := xa8.below hS
 have BQ := B8.trans (hS.mono B8.size)
 have sAQ := Nat.lt_of_lt_of_le sA8 hS.size
 have scQ := Nat.lt_of_lt_of_le sc8 hS.size
 have sSQ := Nat.lt_of_lt_of_le sS8 hS.size
 clear rc8 rx8 rx08 th8 xa8 B8 sA8 sc8 sS8 hS hb_wa hb_wb cD cMk rx0
 go_upto_region 9 with fail
 have rc8 : wb.drew.rangeAt C 0 u := (World.rangeAt_drew _ _ _ _).2 rcQ
 have rx8 : wb.drew.rangeAt S 0 q := (World.rangeAt_drew _ _ _ _).2 rxQ
 have th8 : wb.drew.there A 0 37 := thQ
 have xa8 : x.At wb.drew := xaQ.below ((Below.refl _ _).drew)
 have B8 : Below w.heap.size w wb.drew := BQ.drew
 have sA8 : A < wb.drew.heap.size := sAQ
 have sc8 : C < wb.drew.heap.size := scQ
 have sS8 : S < wb.drew.heap.size := sSQ
 have ru08 : wb.drew.cell? ⟨C, 0, none⟩ = some (.int .i64 c.n) := by simpa using ((World.rangeAt_drew _ _ _ _).2 rcQ) 0 _ hu0
 refine hs_begin (S := (Below wb.drew.heap.size wb.drew)) 10 rfl (by kernel_rfl) ?_
 obtain ⟨w8, hw8⟩ : ∃ W, wb.drew = W := ⟨_, rfl⟩
 rw [hw8] at rc8 rx8 ru08 th8 xa8 B8 sA8 sc8 sS8 ⊢
 clear hw8 rcQ rxQ thQ xaQ BQ sAQ scQ sSQ
 have hS : (Below w8.heap.size w8) w8 := Below.refl _ _
 refine hs_t 0 40 (?_) rfl (by kernel_rfl) (by kernel_rfl) (by kernel_rfl) (by rfl) ?_ hS rfl ?_
 rotate_left
 ·intro w' hw
  go_simp
  try with_reducible rfl
 simp only [nz]
 refine hs_t 1 41 (?_) rfl (by kernel_rfl) (by kernel_rfl) (by kernel_rfl) (by rfl) ?_ hS rfl ?_
 rotate_left
 ·intro w' hw
  go_simp
  try with_reducible rfl
 simp only [nz]
 refine hs_t 2 42 (.int .i64 c.n) rfl (by kernel_rfl) (by kernel_rfl) (by kernel_rfl) (by rfl) (fun w' hw => pl_one rfl rfl ((hw.cell (p := ⟨C, 0, none⟩) sc8).trans ru08) Tryz.underlying3 rfl) hS rfl ?_
 simp only [nz]
 refine hs_t 3 43 (?_) rfl (by kernel_rfl) (by kernel_rfl) (by kernel_rfl) (by rfl) ?_ hS rfl ?_
 rotate_left
 ·intro w' hw
  go_simp
  try with_reducible rfl
 simp only [nz]
 refine hs_t 4 44 (?_) rfl (by kernel_rfl) (by kernel_rfl) (by kernel_rfl) (by rfl) ?_ hS rfl ?_
 rotate_left
 ·intro w' hw
  go_simp
  try with_reducible rfl
 simp only [nz]
 refine hs_t 5 45 (?_) rfl (by kernel_rfl) (by kernel_rfl) (by kernel_rfl) (by rfl) ?_ hS rfl ?_
 rotate_left
 ·intro w' hw
  go_simp
  try with_reducible rfl
 simp only [nz]
 refine hs_t 6 46 (.int .i64 c.n) rfl (by kernel_rfl) (by kernel_rfl) (by kernel_rfl) (by rfl) (fun w' hw => pl_one rfl rfl ((hw.cell (p := ⟨C, 0, none⟩) sc8).trans ru08) Tryz.underlying3 rfl) hS rfl ?_
 simp only [nz]
 refine hs_call (i := 7) (d := some 47) rfl (by kernel_rfl) (by rfl) (by go_simp; first | done | exact ⟨rfl, rfl⟩ | with_reducible rfl) rfl ?_
 refine (cM w8).mono ?_
 rintro _ wc ⟨rfl, hx⟩
 obtain rfl := hx.symm
 clear hx
 refine ⟨_, rfl, hS, ?_⟩
 simp only [nz]
 refine hs_call (i := 8) (d := some 48) rfl (by kernel_rfl) (by rfl) (by go_simp; first | done | exact ⟨rfl, rfl⟩ | with_reducible rfl) rfl ?_
 refine (cQ w8 (HG.out.below B8) (HK.out.below B8) (by omega) (HT.out.below B8)).mono ?_
 rintro _ wd ⟨rfl, hb_wd⟩
 have hS : (Below w8.heap.size w8) wd := hS.trans (hb_wd.mono hS.size)
 refine ⟨_, rfl, hS, ?_⟩
 simp only [nz]
 refine hs_t 9 13 (?_) rfl (by kernel_rfl) (by kernel_rfl) (by kernel_rfl) (by rfl) ?_ hS rfl ?_
 rotate_left
 ·intro w' hw
  go_simp
  try with_reducible rfl
 simp only [nz]
 refine hs_done (by kernel_rfl) ?_
 have rcQ := range_below rc8 hS sc8
 have rxQ := range_below rx8 hS sS8
 have thQ := there_below th8 hS sA8
 have xaQ := xa8.below hS
 have BQ := B8.trans (hS.mono B8.size)
 have sAQ := Nat.lt_of_lt_of_le sA8 hS.size
 have scQ := Nat.lt_of_lt_of_le sc8 hS.size
 have sSQ := Nat.lt_of_lt_of_le sS8 hS.size
 clear rc8 rx8 ru08 th8 xa8 B8 sA8 sc8 sS8 hS hb_wd cM cQ
 have xaZ := xaQ
 go_upto_region 10 with fail
 by_cases hv : v = 0
 rotate_left
 ·have hvn : (v != 0) = true := by simpa using hv
  have HPE : Hid (PP = (Sp.zero, v)) := hide (by rw [HPV.out, if_pos hv])
  clear HPV hv
  try simp only [Act.put]
  refine pl_begin ?_
  refine pl_t 49 (?_) (by rfl) ?_ rfl ?_
  rotate_left
  ·go_simp
   try with_reducible rfl
  simp only [nz]
  refine pl_t 50 (.bool true) (by rfl) (by go_simp <;> (try simp [*])) rfl ?_
  simp only [nz]
  refine pl_nil ?_
  go_upto_region 11 with fail
  try simp only [Act.put]
  refine pl_begin ?_
  refine pl_t 51 (.agg zc.toArray) (by rfl) (ex_build (parts := []) rfl rfl (hbn _)) rfl ?_
  simp only [nz]
  refine pl_t 52 (?_) (by rfl) ?_ rfl ?_
  rotate_left
  ·go_simp
   try with_reducible rfl
  simp only [nz]
  refine pl_store (w' := wd.setCells A 0 zc) (by rfl) (ex_put (cs := zc.toArray) rfl rfl rfl (by simpa [hzl] using thQ) (by simpa [hzl] using iszSt) (all_one hz1)) rfl ?_
  refine pl_t 9 (?_) (by rfl) ?_ rfl ?_
  rotate_left
  ·go_simp
   try with_reducible rfl
  simp only [nz]
  refine pl_nil ?_
  have hrs := run_loadVar_mid (P := Tryz.prog) (wd.setCells A 0 zc) A 0 36 zc _ (World.rangeAt_setCells_same wd A 0 zc (by rw [hzl]; exact thQ)) Tryz.underlying36 rfl (by rw [hzl]; exact iszSt)
  have HF : Hid (ParsA w PP (.returned (.tuple #[.agg zc.toArray, .int .i64 v])) (wd.setCells A 0 zc)) := hide (by
   rw [HPE.out]
   exact pars_out (x := Stt.zero) hz0.out.symm HA.out BQ rfl rfl Stt.zero_ok (Stt.zero_at _) (Stt.zero_lo _))
  clear HPE rcQ rxQ thQ xaQ BQ sAQ scQ sSQ HX xaZ
  go_wp2_with fail
  refine bodyPost_ret (results_ct rfl _ _ _ rfl hrs) rfl ?_
  exact HF.out
 subst hv
 have HPE : Hid (PP = (sp, 0)) := hide (by rw [HPV.out, if_neg (by simp)])
 clear HPV
 try simp only [Act.put]
 refine pl_begin ?_
 refine pl_t 49 (?_) (by rfl) ?_ rfl ?_
 rotate_left
 ·go_simp
  try with_reducible rfl
 simp only [nz]
 refine pl_t 50 (.bool false) (by rfl) (by go_simp) rfl ?_
 simp only [nz]
 refine pl_nil ?_
 go_upto_region 12 with fail
 try simp only [Act.put]
 refine pl_begin ?_
 refine pl_t 53 (.agg q.toArray) (by rfl) (ex_mid rfl rfl rxQ Tryz.underlying36 rfl hix) rfl ?_
 simp only [nz]
 refine pl_store (w' := wd.setCells A 0 q) (by rfl) (ex_put (cs := q.toArray) rfl rfl rfl (by simpa [hxl] using thQ) (by simpa using hix) (all_one hx1)) rfl ?_
 refine pl_t 9 (?_) (by rfl) ?_ rfl ?_
 rotate_left
 ·go_simp
  try with_reducible rfl
 simp only [nz]
 refine pl_nil ?_
 have hrs := run_loadVar_mid (P := Tryz.prog) (wd.setCells A 0 q) A 0 36 q _ (World.rangeAt_setCells_same wd A 0 q (by rw [hxl]; exact thQ)) Tryz.underlying36 rfl (by rw [hxl]; exact iszSt)
 have HF : Hid (ParsA w PP (.returned (.tuple #[.agg q.toArray, .int .i64 0])) (wd.setCells A 0 q)) := hide (by
  rw [HPE.out]
  exact pars_out (x := x) hq.out HA.out BQ rfl HX.out.1 HX.out.2.1 xaZ HX.out.2.2)
 clear HPE rcQ rxQ thQ xaQ BQ sAQ scQ sSQ HX xaZ
 go_wp2_with fail
 refine bodyPost_ret (results_ct rfl _ _ _ rfl hrs) rfl ?_
 exact HF.out
end Go.Proofs.YtnfijfnnpbenfaaGreatDoor
namespace Go.Proofs.YtnfijfnnpbenfaaGreatDoor.Qs
open Go.RowKit
def idx (p : Sg → Bool) : List Sg → Nat
  | [] => 0
  | x :: l => if p x then 0 else idx p l + 1
theorem idx_le (p : Sg → Bool) : ∀ l, idx p l ≤ l.length
  | [] => by simp [idx]
  | x :: l => by have := idx_le p l; unfold idx; split <;> simp; omega
theorem idx_at (p : Sg → Bool) : ∀ (l : List Sg) (k : Nat) (hk : k < l.length), p l[k] = true → (∀ j, (hj : j < k) → p (l[j]'(by omega)) = false) → idx p l = k
  | x :: l, 0, _, h, _ => by simp at h; simp [idx, h]
  | x :: l, k + 1, hk, h, hj => by
    have h0 := hj 0 (by omega)
    simp at h0
    have ih := idx_at p l k (by simpa using hk) (by simpa using h) (fun j hjk => by have := hj (j + 1) (by omega); simpa using this)
    simp [idx, h0, ih]
theorem idx_none (p : Sg → Bool) : ∀ (l : List Sg), (∀ j, (hj : j < l.length) → p l[j] = false) → idx p l = l.length
  | [], _ => rfl
  | x :: l, h => by
    have h0 := h 0 (by simp)
    simp at h0
    have ih := idx_none p l (fun j hj => by have := h (j + 1) (by simpa using hj); simpa using this)
    simp [idx, h0, ih]
theorem idx_lt (p : Sg → Bool) : ∀ (l : List Sg), idx p l < l.length ↔ l.any p = true
  | [] => by simp [idx]
  | x :: l => by
    have ih := idx_lt p l
    unfold idx
    cases hx : p x
    · simp [hx, ih]
    · simp [hx]
def eqN (s x : Sg) : Bool := x.n == s.n
def gtN (s x : Sg) : Bool := decide (s.n < x.n)
def insS (s : Sg) : List Sg → List Sg
  | [] => [s]
  | x :: l => if gtN s x then s :: x :: l else x :: insS s l
theorem insS_take (s : Sg) : ∀ l, l.take (idx (gtN s) l) ++ (s :: l.drop (idx (gtN s) l)) = insS s l
  | [] => rfl
  | x :: l => by
    have ih := insS_take s l
    unfold idx insS
    cases hx : gtN s x
    · simp only [Bool.false_eq_true, if_false, List.take_succ_cons, List.drop_succ_cons, List.cons_append, ih]
    · simp
def addS (l : List Sg) (s : Sg) : List Sg := if l.any (eqN s) then l else insS s l
theorem insS_length (s : Sg) : ∀ l, (insS s l).length = l.length + 1
  | [] => rfl
  | x :: l => by
    have := insS_length s l
    unfold insS
    split <;> simp [this]
theorem SOwn.sigs {w : World} {B : Nat} {v : Value} {rs : List Sg} (h : SOwn w B v rs) (hm : rs.length ≤ maxLen) : ∃ a cap, v = .slice a rs.length cap ∧ rs.length ≤ cap ∧ cap ≤ maxLen ∧ SigsAt w a rs ∧ ∀ x, a = some x → B ≤ x.block := by
 rcases h.1.2 with ⟨rfl, h0⟩ | ⟨g, cap, cur, rfl, hb, hg, hn, hcm, hcs, ht⟩
 ·have : rs = [] := List.eq_nil_of_length_eq_zero h0
  subst this
  exact ⟨none, 0, rfl, by simp, by unfold maxLen; omega, SigsAt.none, fun x hx => by cases hx⟩
 ·refine ⟨_, cap, rfl, hn, hcm, ⟨hm, h.2, Or.inr ⟨g, 0, rfl, (Array.getElem?_eq_some_iff.1 hg).1, fun j u hu => ?_⟩⟩, fun x hx => by cases hx; exact hb⟩
  have := h.1.cells (g := g) rfl j u hu
  rwa [Addr.add_mid] at this
theorem sigs_drop {w : World} {b off : Nat} {rs : List Sg} (h : SigsAt w (some ⟨b, off, none⟩) rs) (k : Nat) (hk : k < rs.length) : SigsAt w (some ⟨b, off + k * 17, none⟩) (rs.drop k) := by
 refine ⟨by have := h.1; rw [List.length_drop]; omega, fun r hr => h.2.1 r (List.mem_of_mem_drop hr), ?_⟩
 rcases h.2.2 with h0 | ⟨b', off', hx, h1, h2⟩
 ·left; rw [h0]; simp
 ·right
  cases hx
  refine ⟨b, off + k * 17, rfl, h1, ?_⟩
  have e : flatS rs = flatS (rs.take k) ++ flatS (rs.drop k) := by rw [← flatS_append, List.take_append_drop]
  rw [e] at h2
  have h3 := range_right h2
  rwa [flatS_length (fun r hr => h.2.1 r (List.mem_of_mem_take hr)), List.length_take, Nat.min_eq_left (by omega)] at h3
set_option maxRecDepth 100000 in
theorem add1_any (X : Nat) (s r : Sg) (w : World) (hX : X < w.heap.size) (hs : w.rangeAt X 0 s.cells) :
  Calls Tryz.prog 46 #[.agg r.cells.toArray, .pointer (some ⟨X, 0, none⟩)] w fun e w' => e = .returned (.bool (eqN s r)) ∧ Below w.heap.size w w' := by
 have hB1 : Below w.heap.size w (w.alloc (.cells r.cells.toArray 56)) := (Below.refl _ _).alloc (Nat.le_refl _) _
 have hR1 : (w.alloc (.cells r.cells.toArray 56)).rangeAt w.heap.size 0 r.cells := by simpa using range_new w r.cells.toArray 56
 have d0 := Sg.first hR1
 have d1 := Sg.first (range_below hs hB1 hX)
 clear hR1 hs
 obtain ⟨q, hq⟩ : ∃ q, Hid (r.cells = q) := ⟨_, hide rfl⟩
 rw [hq.out] at hB1 d0 d1 ⊢
 clear hq
 go_enter Tryz.func46, Tryz.ntmps46
 go_upto_region 1 with fail
 go_name_world w1 hw1
 rw [hw1] at hB1 d0 d1
 clear hw1
 go_wp2
 go_ret
 exact ⟨rfl, hB1⟩
set_option maxRecDepth 100000 in
theorem add2_any (X : Nat) (s r : Sg) (w : World) (hX : X < w.heap.size) (hs : w.rangeAt X 0 s.cells) :
  Calls Tryz.prog 48 #[.agg r.cells.toArray, .pointer (some ⟨X, 0, none⟩)] w fun e w' => e = .returned (.bool (gtN s r)) ∧ Below w.heap.size w w' := by
 have hB1 : Below w.heap.size w (w.alloc (.cells r.cells.toArray 56)) := (Below.refl _ _).alloc (Nat.le_refl _) _
 have hR1 : (w.alloc (.cells r.cells.toArray 56)).rangeAt w.heap.size 0 r.cells := by simpa using range_new w r.cells.toArray 56
 have d0 := Sg.first hR1
 have d1 := Sg.first (range_below hs hB1 hX)
 clear hR1 hs
 obtain ⟨q, hq⟩ : ∃ q, Hid (r.cells = q) := ⟨_, hide rfl⟩
 rw [hq.out] at hB1 d0 d1 ⊢
 clear hq
 go_enter Tryz.func48, Tryz.ntmps48
 go_upto_region 1 with fail
 go_name_world w1 hw1
 rw [hw1] at hB1 d0 d1
 clear hw1
 go_wp2
 go_ret
 exact ⟨rfl, hB1⟩
set_option maxRecDepth 100000 in
set_option maxHeartbeats 2000000 in
theorem index_eq (X : Nat) (s : Sg) (a : Option Addr) (cap : Nat) (rs : List Sg) (w : World) (hX : X < w.heap.size) (hs : w.rangeAt X 0 s.cells) (h : SigsAt w a rs) :
  Calls Tryz.prog 86 #[.slice a rs.length cap, .func (.func 46) #[] #[.pointer (some ⟨X, 0, none⟩)]] w fun e w' => ∃ z : Int, e = .returned (.int .i64 z) ∧ ((z < 0 ∧ idx (eqN s) rs = rs.length) ∨ z = idx (eqN s) rs) ∧ Below w.heap.size w w' := by
 have hml := h.1
 unfold maxLen at hml
 have hall := h.2.1
 go_enter Tryz.func86, Tryz.ntmps86
 go_wp2
 go_loopw [8] (fun iv wr => ∃ (k : Nat), k ≤ rs.length ∧ iv = .int .i64 (k : Int) ∧ Hid (∀ j, (hj : j < rs.length) → j < k → eqN s rs[j] = false) ∧ Below w.heap.size w wr) (fun iv _ => rs.length - (intOf iv).toNat)
 case atStart => exact ⟨0, by omega, rfl, hide (fun j _ hj => absurd hj (by omega)), Below.refl _ _⟩
 case round =>
  obtain ⟨k, hk, rfl, HD, hB⟩ := hrel
  by_cases hlt : k < rs.length
  ·have k1 : (k : Int) < rs.length := by omega
   obtain ⟨b, off, rfl, hb, hre⟩ := (h.below hB).elem k hlt
   obtain ⟨r, hr⟩ : ∃ r, Hid (rs[k] = r) := ⟨_, hide rfl⟩
   have hok : r.ok := by rw [← hr.out]; exact hall _ (List.getElem_mem hlt)
   rw [hr.out] at hre
   have hiq := hok.isz
   have ch := add1_any X s r wr (Nat.lt_of_lt_of_le hX hB.size) (range_below hs hB hX)
   obtain ⟨u, hu⟩ : ∃ u, Hid (r.cells = u) := ⟨_, hide rfl⟩
   rw [hu.out] at hre hiq ch
   clear hu hok
   go_upto_region 4 with fail
   try simp only [Act.put]
   refine wp_region_list ?_
   refine wpList_step fun K hK => ?_
   go_simp
   refine hK _ _ ?_
   clear hK K
   refine wpList_step fun K hK => ?_
   go_simp
   refine hK _ _ ?_
   clear hK K
   refine wpList_step fun K hK => ?_
   go_simp
   refine hK _ _ ?_
   clear hK K
   refine wpList_step fun K hK => ?_
   go_simp
   refine hK _ _ ?_
   clear hK K
   refine wpList_load_mid rfl 56 _ rfl _ _ rfl u _ hre Tryz.underlying56 rfl hiq ?_
   go_wp2_with fail
   refine ch.mono ?_
   rintro e w4 ⟨rfl, hw4⟩
   have hB4 := hB.trans (hw4.mono hB.size)
   clear ch hre hB
   cases hd : eqN s r
   ·have HD' : Hid (∀ j, (hj : j < rs.length) → j < k + 1 → eqN s rs[j] = false) := hide (fun j hj hjk => by
     by_cases e : j = k
     ·subst e; rw [hr.out]; exact hd
     ·exact HD.out j hj (by omega))
    clear hd HD hr
    go_wp2
    go_roundw
    case rel => exact ⟨k + 1, by omega, by go_num, HD', hB4⟩
    case measure => simp [intOf]; omega
   ·have HZ : Hid (idx (eqN s) rs = k) := hide (idx_at (eqN s) rs k hlt (by rw [hr.out]; exact hd) (fun j hj => HD.out j (by omega) hj))
    clear hd HD hr
    go_wp2
    go_ret
    exact ⟨_, rfl, .inr (by rw [HZ.out]), hB4⟩
  ·have HZ : Hid (idx (eqN s) rs = rs.length) := hide (idx_none (eqN s) rs (fun j hj => HD.out j hj (by omega)))
   have k1 : ¬ (k : Int) < rs.length := by omega
   clear HD
   go_wp2
   go_ret
   exact ⟨_, rfl, .inl ⟨by decide, HZ.out⟩, hB⟩
set_option maxRecDepth 100000 in
set_option maxHeartbeats 2000000 in
theorem search_eq (X : Nat) (s : Sg) (a : Option Addr) (cap : Nat) (rs : List Sg) (w : World) (hX : X < w.heap.size) (hs : w.rangeAt X 0 s.cells) (h : SigsAt w a rs) :
  Calls Tryz.prog 45 #[.slice a rs.length cap, .func (.func 46) #[] #[.pointer (some ⟨X, 0, none⟩)]] w fun e w' => e = .returned (.int .i64 (idx (eqN s) rs : Nat)) ∧ Below w.heap.size w w' := by
 have ci := index_eq X s a cap rs w hX hs h
 obtain ⟨K, hK⟩ : ∃ K, Hid (idx (eqN s) rs = K) := ⟨_, hide rfl⟩
 rw [hK.out] at ci ⊢
 go_enter Tryz.func45, Tryz.ntmps45
 go_wp2_with fail
 refine ci.mono ?_
 rintro e w1 ⟨z, rfl, hz, hw1⟩
 clear ci
 rcases hz with ⟨h0, h1⟩ | h1
 ·have H1 := hide h1
  clear h1
  go_wp2
  go_ret
  exact ⟨by rw [H1.out]; rfl, hw1⟩
 ·subst h1
  have h0 : ¬ (K : Int) < 0 := by omega
  go_wp2
  go_ret
  exact ⟨rfl, hw1⟩
set_option maxRecDepth 100000 in
set_option maxHeartbeats 2000000 in
theorem index_gt (X : Nat) (s : Sg) (a : Option Addr) (cap : Nat) (rs : List Sg) (w : World) (hX : X < w.heap.size) (hs : w.rangeAt X 0 s.cells) (h : SigsAt w a rs) :
  Calls Tryz.prog 86 #[.slice a rs.length cap, .func (.func 48) #[] #[.pointer (some ⟨X, 0, none⟩)]] w fun e w' => ∃ z : Int, e = .returned (.int .i64 z) ∧ ((z < 0 ∧ idx (gtN s) rs = rs.length) ∨ z = idx (gtN s) rs) ∧ Below w.heap.size w w' := by
 have hml := h.1
 unfold maxLen at hml
 have hall := h.2.1
 go_enter Tryz.func86, Tryz.ntmps86
 go_wp2
 go_loopw [8] (fun iv wr => ∃ (k : Nat), k ≤ rs.length ∧ iv = .int .i64 (k : Int) ∧ Hid (∀ j, (hj : j < rs.length) → j < k → gtN s rs[j] = false) ∧ Below w.heap.size w wr) (fun iv _ => rs.length - (intOf iv).toNat)
 case atStart => exact ⟨0, by omega, rfl, hide (fun j _ hj => absurd hj (by omega)), Below.refl _ _⟩
 case round =>
  obtain ⟨k, hk, rfl, HD, hB⟩ := hrel
  by_cases hlt : k < rs.length
  ·have k1 : (k : Int) < rs.length := by omega
   obtain ⟨b, off, rfl, hb, hre⟩ := (h.below hB).elem k hlt
   obtain ⟨r, hr⟩ : ∃ r, Hid (rs[k] = r) := ⟨_, hide rfl⟩
   have hok : r.ok := by rw [← hr.out]; exact hall _ (List.getElem_mem hlt)
   rw [hr.out] at hre
   have hiq := hok.isz
   have ch := add2_any X s r wr (Nat.lt_of_lt_of_le hX hB.size) (range_below hs hB hX)
   obtain ⟨u, hu⟩ : ∃ u, Hid (r.cells = u) := ⟨_, hide rfl⟩
   rw [hu.out] at hre hiq ch
   clear hu hok
   go_upto_region 4 with fail
   try simp only [Act.put]
   refine wp_region_list ?_
   refine wpList_step fun K hK => ?_
   go_simp
   refine hK _ _ ?_
   clear hK K
   refine wpList_step fun K hK => ?_
   go_simp
   refine hK _ _ ?_
   clear hK K
   refine wpList_step fun K hK => ?_
   go_simp
   refine hK _ _ ?_
   clear hK K
   refine wpList_step fun K hK => ?_
   go_simp
   refine hK _ _ ?_
   clear hK K
   refine wpList_load_mid rfl 56 _ rfl _ _ rfl u _ hre Tryz.underlying56 rfl hiq ?_
   go_wp2_with fail
   refine ch.mono ?_
   rintro e w4 ⟨rfl, hw4⟩
   have hB4 := hB.trans (hw4.mono hB.size)
   clear ch hre hB
   cases hd : gtN s r
   ·have HD' : Hid (∀ j, (hj : j < rs.length) → j < k + 1 → gtN s rs[j] = false) := hide (fun j hj hjk => by
     by_cases e : j = k
     ·subst e; rw [hr.out]; exact hd
     ·exact HD.out j hj (by omega))
    clear hd HD hr
    go_wp2
    go_roundw
    case rel => exact ⟨k + 1, by omega, by go_num, HD', hB4⟩
    case measure => simp [intOf]; omega
   ·have HZ : Hid (idx (gtN s) rs = k) := hide (idx_at (gtN s) rs k hlt (by rw [hr.out]; exact hd) (fun j hj => HD.out j (by omega) hj))
    clear hd HD hr
    go_wp2
    go_ret
    exact ⟨_, rfl, .inr (by rw [HZ.out]), hB4⟩
  ·have HZ : Hid (idx (gtN s) rs = rs.length) := hide (idx_none (gtN s) rs (fun j hj => HD.out j hj (by omega)))
   have k1 : ¬ (k : Int) < rs.length := by omega
   clear HD
   go_wp2
   go_ret
   exact ⟨_, rfl, .inl ⟨by decide, HZ.out⟩, hB⟩
set_option maxRecDepth 100000 in
set_option maxHeartbeats 2000000 in
theorem search_gt (X : Nat) (s : Sg) (a : Option Addr) (cap : Nat) (rs : List Sg) (w : World) (hX : X < w.heap.size) (hs : w.rangeAt X 0 s.cells) (h : SigsAt w a rs) :
  Calls Tryz.prog 45 #[.slice a rs.length cap, .func (.func 48) #[] #[.pointer (some ⟨X, 0, none⟩)]] w fun e w' => e = .returned (.int .i64 (idx (gtN s) rs : Nat)) ∧ Below w.heap.size w w' := by
 have ci := index_gt X s a cap rs w hX hs h
 obtain ⟨K, hK⟩ : ∃ K, Hid (idx (gtN s) rs = K) := ⟨_, hide rfl⟩
 rw [hK.out] at ci ⊢
 go_enter Tryz.func45, Tryz.ntmps45
 go_wp2_with fail
 refine ci.mono ?_
 rintro e w1 ⟨z, rfl, hz, hw1⟩
 clear ci
 rcases hz with ⟨h0, h1⟩ | h1
 ·have H1 := hide h1
  clear h1
  go_wp2
  go_ret
  exact ⟨by rw [H1.out]; rfl, hw1⟩
 ·subst h1
  have h0 : ¬ (K : Int) < 0 := by omega
  go_wp2
  go_ret
  exact ⟨rfl, hw1⟩
theorem fold_s (arr : Array Value) (u : List Value) (h : u.length = arr.size) : List.foldl (fun (cs : Array Value) (x : Value × Nat) => cs.setIfInBounds x.snd x.fst) arr u.zipIdx = u.toArray := by
 have := fold_setsS u 0 arr (by omega)
 simpa using this
def tailA (a : Option Addr) (cap k : Nat) : Option Addr := a.map (fun x => if cap = k then x else x.add (k * 17))
theorem tail_at (a : Option Addr) (n cap k : Nat) (hk : k ≤ n) (hn : n ≤ cap) (w : World) :
  (Instr.sliceAt 24 (.slice a n cap) (some (.int .i64 (k : Int))) none none).run Tryz.prog w = .ok (.slice (tailA a cap k) (n - k) (cap - k)) w := by
 have h1 : (k : Int) ≤ n := by omega
 have h2 : (n : Int) ≤ cap := by omega
 cases a with
 | none =>
  by_cases hck : cap = k
  ·subst hck
   simp [go_sem, tailA]
   intro h; omega
  ·simp [go_sem, tailA]
   intro h; omega
 | some x =>
  by_cases hck : cap = k
  ·subst hck
   simp [go_sem, tailA]
   intro h; omega
  ·simp [go_sem, tailA, hck]
   intro h; omega
theorem sigs_tail {w : World} {a : Option Addr} {rs : List Sg} (h : SigsAt w a rs) (cap k : Nat) (hk : k ≤ rs.length) (hc : rs.length ≤ cap) : SigsAt w (tailA a cap k) (rs.drop k) := by
 by_cases hlt : k < rs.length
 ·obtain ⟨b, off, rfl, _, _⟩ := h.elem k hlt
  have e : tailA (some ⟨b, off, none⟩) cap k = some ⟨b, off + k * 17, none⟩ := by
   unfold tailA
   rw [Option.map_some, if_neg (by omega), Addr.add_mid]
  rw [e]
  exact sigs_drop h k hlt
 ·rw [List.drop_of_length_le (by omega)]
  exact SigsAt.none
theorem own17 {B : Nat} {w w1 w2 : World} {v : Value} {n : Nat} {xs : List Value} (hb : Below B w w1) (hB : B ≤ w1.heap.size) (ho : w1.ownsRow B 56 17 v n xs) (hg : w1.grownBy w2 v.ownBlock) : Below B w w2 :=
 hb.grown hg hB (fun k hk => (ho.lt k hk).1)
set_option maxRecDepth 100000 in
set_option maxHeartbeats 4000000 in
theorem qadd_any (a : Option Addr) (cap : Nat) (rs : List Sg) (s : Sg) (w : World) (h : SigsAt w a rs) (hc : rs.length ≤ cap) (hm : cap ≤ maxLen) (hs : s.ok) (hn : rs.length ≤ 1000) :
  Calls Tryz.prog 16 #[.slice a rs.length cap, .agg s.cells.toArray] w fun e w' => ∃ v, e = .returned v ∧ SOwn w' w.heap.size v (addS rs s) ∧ Below w.heap.size w w' := by
 obtain ⟨i1, hi1, hiz, his, hib⟩ := info_parts infoS
 unfold maxLen at hm
 have hall := h.2.1
 have hB1 : Below w.heap.size w (w.alloc (.cells s.cells.toArray 56)) := (Below.refl _ _).alloc (Nat.le_refl _) _
 have hR1 : (w.alloc (.cells s.cells.toArray 56)).rangeAt w.heap.size 0 s.cells := by simpa using range_new w s.cells.toArray 56
 have hz1 : w.heap.size < (w.alloc (.cells s.cells.toArray 56)).heap.size := by simp
 have hiq := hs.isz
 have hul := hs.length
 have hone := s.one
 have ce := fun X w0 hX h0 h1 => search_eq X s a cap rs w0 hX h0 h1
 have cg := fun X w0 hX h0 h1 => search_gt X s a cap rs w0 hX h0 h1
 have hfold := fold_s #[.int .i64 0, .int .u8 0, .int .u8 0, .int .u8 0, .int .u8 0, .int .u8 0, .int .u8 0, .int .u8 0, .int .u8 0, .int .u8 0, .int .u8 0, .int .u8 0, .int .u8 0, .int .u8 0, .int .u8 0, .int .u8 0, .int .u8 0] s.cells (by rw [hul]; rfl)
 have HA1 : Hid (idx (eqN s) rs < rs.length → addS rs s = rs) := hide (fun hh => by unfold addS; rw [if_pos ((idx_lt _ _).1 hh)])
 have HA2 : Hid (¬ idx (eqN s) rs < rs.length → addS rs s = rs.take (idx (gtN s) rs) ++ (s :: rs.drop (idx (gtN s) rs))) := hide (fun hh => by unfold addS; rw [if_neg (fun q => hh ((idx_lt _ _).2 q)), insS_take])
 have hk2 := idx_le (gtN s) rs
 obtain ⟨K1, hK1⟩ : ∃ K, Hid (idx (eqN s) rs = K) := ⟨_, hide rfl⟩
 obtain ⟨K2, hK2⟩ : ∃ K, Hid (idx (gtN s) rs = K) := ⟨_, hide rfl⟩
 simp only [hK1.out, hK2.out] at ce cg
 rw [hK2.out] at hk2
 rw [hK1.out] at HA1
 rw [hK1.out, hK2.out] at HA2
 obtain ⟨L, hLe⟩ : ∃ L, Hid (addS rs s = L) := ⟨_, hide rfl⟩
 rw [hLe.out] at HA1 HA2 ⊢
 have hcl : flatS [s] = s.cells := by simp [flatS]
 have HC := hide hcl
 clear hcl hK1 hK2 hLe
 obtain ⟨u, hu⟩ : ∃ u, Hid (s.cells = u) := ⟨_, hide rfl⟩
 rw [hu.out] at hB1 hR1 hz1 hiq hul hone hfold HC ⊢
 simp only [hu.out] at ce cg
 clear hu
 go_enter Tryz.func16, Tryz.ntmps16
 go_upto_region 1 with fail
 go_name_world w1 hw1
 rw [hw1] at hB1 hR1 hz1
 clear hw1
 obtain ⟨X, hX⟩ : ∃ X, Hid (w.heap.size = X) := ⟨_, hide rfl⟩
 rw [hX.out] at hR1 hz1 ⊢
 have h1 := h.below hB1
 go_wp2_with fail
 refine (ce X w1 hz1 hR1 h1).mono ?_
 rintro e w2 ⟨rfl, hw2⟩
 have hB2 := hB1.trans (hw2.mono hB1.size)
 have hR2 := range_below hR1 hw2 hz1
 have hz2 := Nat.lt_of_lt_of_le hz1 hw2.size
 have h2 := h.below hB2
 clear ce h1 hR1 hz1 hB1 hw2
 by_cases hk : K1 < rs.length
 ·have k1 : (K1 : Int) < rs.length := by omega
  have hLr := HA1.out hk
  clear HA1 HA2 hk cg
  go_wp2_with fail
  refine (clone_any a cap rs w2 h2 (by omega)).mono ?_
  rintro e w3 ⟨v, rfl, ho, hw3⟩
  have HO := hide ho
  clear ho
  go_wp2
  go_ret
  exact ⟨_, rfl, by rw [hLr]; exact HO.out.mono hB2.size, hB2.trans (hw3.mono hB2.size)⟩
 ·have k1 : ¬ (K1 : Int) < rs.length := by omega
  have HL := hide (HA2.out hk)
  clear HA1 HA2 hk
  go_wp2_with fail
  refine (cg X w2 hz2 hR2 h2).mono ?_
  rintro e w3 ⟨rfl, hw3⟩
  have hB3 := hB2.trans (hw3.mono hB2.size)
  have hR3 := range_below hR2 hw3 hz2
  have hz3 := Nat.lt_of_lt_of_le hz2 hw3.size
  have h3 := h.below hB3
  clear cg h2 hR2 hz2 hB2 hw3 k1
  go_wp2_with (first
   | refine wpList_make_own _ rfl _ _ 24 rfl w3.heap.size 56 i1 (.agg #[.int .i64 0, .int .u8 0, .int .u8 0, .int .u8 0, .int .u8 0, .int .u8 0, .int .u8 0, .int .u8 0, .int .u8 0, .int .u8 0, .int .u8 0, .int .u8 0, .int .u8 0, .int .u8 0, .int .u8 0, .int .u8 0, .int .u8 0]) 17 Tryz.underlying24 hi1 hiz his .i64 .i64 _ (rs.length + 1) rfl rfl ?d1 ?d2 ?d3 ?d4 ?_)
  case d1 => omega
  case d2 => rw [hib]; omega
  case d3 => unfold maxLen; omega
  case d4 => exact Nat.le_refl _
  intro w4 hown4 hgrow4
  have hb4 : Below w3.heap.size w3 w4 := (Below.refl _ _).grown hgrow4 (Nat.le_refl _) (fun k hk => by cases hk)
  have kI : (K2 : Int) ≤ rs.length := by omega
  have hkc : K2 ≤ cap := by omega
  have hsrcT := ((h3.below hb4).take K2).src cap
  have hltk : (rs.take K2).length = K2 := by rw [List.length_take]; omega
  rw [hltk] at hsrcT
  go_wp2_with (at_builtin; refine wpList_append_own_src _ rfl _ _ 24 24 rfl w3.heap.size 56 i1 (.agg #[.int .i64 0, .int .u8 0, .int .u8 0, .int .u8 0, .int .u8 0, .int .u8 0, .int .u8 0, .int .u8 0, .int .u8 0, .int .u8 0, .int .u8 0, .int .u8 0, .int .u8 0, .int .u8 0, .int .u8 0, .int .u8 0, .int .u8 0]) 17 24 Tryz.underlying24 hi1 hiz his hib rfl _ 0 [] rfl hown4 (.slice a K2 cap) K2 (flatS (rs.take K2)) rfl hsrcT ?c1 ?c2 ?c3 ?_)
  case c1 => unfold maxLen; omega
  case c2 => omega
  case c3 => exact hb4.size
  intro v5 w5 hown5 hgrow5
  have hb5 := own17 hb4 hb4.size hown4 hgrow5
  clear hown4 hgrow4 hgrow5 hsrcT
  have hown5 : w5.ownsRow w3.heap.size 56 17 v5 K2 (flatS (rs.take K2)) := by simpa using hown5
  have hR5 := range_below hR3 hb5 hz3
  have HO5 := hide hown5
  clear hown5
  go_upto_region 7 with fail
  try simp only [Act.put]
  refine wp_region_list ?_
  refine wpList_step fun K hK => ?_
  go_simp
  refine hK _ _ ?_
  clear hK K
  refine wpList_load_mid rfl 56 _ rfl _ _ rfl u _ hR5 Tryz.underlying56 rfl hiq ?_
  have hb6 : Below w3.heap.size w3 (w5.alloc (.cells u.toArray 56)) := hb5.alloc hb5.size _
  have hsrc6 := one_sign w5 u hul hone
  have hown6 := HO5.out.alloc (.cells u.toArray 56)
  go_wp2_with (at_builtin; refine wpList_append_own_src _ rfl _ _ 24 24 rfl w3.heap.size 56 i1 (.agg #[.int .i64 0, .int .u8 0, .int .u8 0, .int .u8 0, .int .u8 0, .int .u8 0, .int .u8 0, .int .u8 0, .int .u8 0, .int .u8 0, .int .u8 0, .int .u8 0, .int .u8 0, .int .u8 0, .int .u8 0, .int .u8 0, .int .u8 0]) 17 24 Tryz.underlying24 hi1 hiz his hib rfl _ K2 (flatS (rs.take K2)) rfl hown6 (.slice (some ⟨w5.heap.size, 0, none⟩) 1 1) 1 u rfl hsrc6 ?c1 ?c2 ?c3 ?_)
  case c1 => unfold maxLen; omega
  case c2 => omega
  case c3 => exact hb6.size
  intro v7 w7 hown7 hgrow7
  have hb7 := own17 hb6 hb6.size hown6 hgrow7
  have HO7 := hide hown7
  clear hown7 hown6 hgrow7 hsrc6 HO5 hb6 hR5
  have hsrc8 := (sigs_tail (h3.below hb7) cap K2 hk2 hc).src (cap - K2)
  have hld : (rs.drop K2).length = rs.length - K2 := by rw [List.length_drop]
  rw [hld] at hsrc8
  have HO7o := HO7.out
  have htl := fun w0 => tail_at a rs.length cap K2 hk2 hc w0
  obtain ⟨ta, hta⟩ : ∃ ta, Hid (tailA a cap K2 = ta) := ⟨_, hide rfl⟩
  rw [hta.out] at hsrc8
  simp only [hta.out] at htl
  clear hta
  go_wp2_with (at_builtin; refine wpList_append_own_src _ rfl _ _ 24 24 rfl w3.heap.size 56 i1 (.agg #[.int .i64 0, .int .u8 0, .int .u8 0, .int .u8 0, .int .u8 0, .int .u8 0, .int .u8 0, .int .u8 0, .int .u8 0, .int .u8 0, .int .u8 0, .int .u8 0, .int .u8 0, .int .u8 0, .int .u8 0, .int .u8 0, .int .u8 0]) 17 24 Tryz.underlying24 hi1 hiz his hib rfl _ (K2 + 1) (flatS (rs.take K2) ++ u) rfl HO7o (.slice ta (rs.length - K2) (cap - K2)) (rs.length - K2) (flatS (rs.drop K2)) rfl hsrc8 ?c1 ?c2 ?c3 ?_)
  case c1 => unfold maxLen; omega
  case c2 => omega
  case c3 => exact hb7.size
  intro v8 w8 hown8 hgrow8
  have hb8 := own17 hb7 hb7.size HO7.out hgrow8
  have HF : Hid (SOwn w8 w.heap.size v8 L) := hide (by
   rw [HL.out]
   refine SOwn.mono (B := w3.heap.size) ⟨?_, ?_⟩ hB3.size
   ·have e1 : (rs.take K2 ++ (s :: rs.drop K2)).length = K2 + 1 + (rs.length - K2) := by simp; omega
    have e2 : flatS (rs.take K2 ++ (s :: rs.drop K2)) = flatS (rs.take K2) ++ u ++ flatS (rs.drop K2) := by
     rw [flatS_append, show s :: rs.drop K2 = [s] ++ rs.drop K2 from rfl, flatS_append, HC.out]
     simp only [List.append_assoc]
    rw [e1, e2, List.append_assoc]
    exact hown8
   ·intro r hr
    rcases List.mem_append.1 hr with hr | hr
    ·exact hall r (List.mem_of_mem_take hr)
    ·rcases List.mem_cons.1 hr with rfl | hr
     ·exact hs
     ·exact hall r (List.mem_of_mem_drop hr))
  clear hown8 hgrow8
  go_wp2
  go_ret
  exact ⟨_, rfl, HF.out, hB3.trans (hb8.mono hB3.size)⟩
theorem run_room {ok : Sg → Bool} {n : Int} : ∀ (l : List Sg) (ah : Int), ah < n → runOf ok n ah l = l.length → ah + l.length ≤ n - 1
  | [], ah, h, _ => by simp; omega
  | x :: l, ah, h, hr => by
    obtain ⟨h1, h2, h3⟩ := run_whole hr
    have := run_room l x.n (by omega) h3
    simp only [List.length_cons]
    omega
theorem run_ins {ok : Sg → Bool} {n : Int} {s : Sg} (hn : ¬ n ≤ s.n) (ho : ok s = true) : ∀ (l : List Sg) (ah : Int), ¬ s.n ≤ ah → runOf ok n ah l = l.length → (∀ x ∈ l, x.n ≠ s.n) → runOf ok n ah (insS s l) = (insS s l).length
  | [], ah, ha, _, _ => by
    show runOf ok n ah [s] = 1
    rw [runOf, if_neg (fun h => h.elim ha hn), if_pos ho]
    rfl
  | x :: l, ah, ha, hr, hx => by
    obtain ⟨h1, h2, h3⟩ := run_whole hr
    unfold insS
    split
    · rename_i hg
      have hg' : s.n < x.n := by simpa [gtN] using hg
      rw [runOf, if_neg (fun h => h.elim ha hn), if_pos ho, runOf, if_neg (by omega), if_pos h2, h3]
      simp
    · rename_i hg
      have hg' : ¬ s.n < x.n := by simpa [gtN] using hg
      have hne := hx x (by simp)
      have := run_ins hn ho l x.n (by omega) h3 (fun y hy => hx y (by simp [hy]))
      rw [runOf, if_neg h1, if_pos h2, this]
      simp
theorem mem_ins (s y : Sg) : ∀ l, y ∈ insS s l ↔ y = s ∨ y ∈ l
  | [] => by simp [insS]
  | x :: l => by
    have := mem_ins s y l
    unfold insS
    split
    · simp
    · simp only [List.mem_cons, this]
      constructor
      · rintro (h | h | h) <;> simp [h]
      · rintro (h | h | h) <;> simp [h]
theorem run_add {ok : Sg → Bool} {n : Int} {s : Sg} {l : List Sg} (h0 : ¬ s.n ≤ -1) (hn : ¬ n ≤ s.n) (ho : ok s = true) (hr : runOf ok n (-1) l = l.length) : runOf ok n (-1) (addS l s) = (addS l s).length := by
 unfold addS
 split
 ·exact hr
 ·rename_i h
  refine run_ins hn ho l (-1) h0 hr (fun x hx e => h ?_)
  rw [List.any_eq_true]
  exact ⟨x, hx, by simp [eqN, e]⟩
theorem mem_add_n {s : Sg} {l : List Sg} (i : Int) : (∃ y ∈ addS l s, y.n = i) ↔ i = s.n ∨ ∃ y ∈ l, y.n = i := by
 unfold addS
 split
 ·rename_i h
  obtain ⟨x, hx, he⟩ := List.any_eq_true.1 h
  have he' : x.n = s.n := by simpa [eqN] using he
  constructor
  ·exact fun h => .inr h
  ·rintro (rfl | h)
   ·exact ⟨x, hx, he'⟩
   ·exact h
 ·constructor
  ·rintro ⟨y, hy, rfl⟩
   rcases (mem_ins s y l).1 hy with rfl | h
   ·exact .inl rfl
   ·exact .inr ⟨y, h, rfl⟩
  ·rintro (rfl | ⟨y, hy, rfl⟩)
   ·exact ⟨s, (mem_ins s s l).2 (.inl rfl), rfl⟩
   ·exact ⟨y, (mem_ins s y l).2 (.inr hy), rfl⟩
theorem qcheck_gathered {ok : Sg → Bool} {n : Int} {l : List Sg} {m : Int} (hg : goodB n = true) (h1 : 1 ≤ m) (h2 : m ≤ n) (hr : runOf ok n (-1) l = l.length) : qcheckV ok n l m = if m ≤ (l.length : Int) then 0 else 50 := by
 have := goodB_true hg
 have hroom := run_room l (-1) (by omega) hr
 unfold qcheckV
 rw [if_neg (by rw [hg]; simp; omega)]
 by_cases h : m ≤ (l.length : Int)
 ·rw [if_pos h, if_neg (by omega), hr, if_neg (by omega)]
 ·rw [if_neg h, if_pos (by omega)]
end Go.Proofs.YtnfijfnnpbenfaaGreatDoor.Qs
namespace Go.Proofs.YtnfijfnnpbenfaaGreatDoor
open Go.RowKit
open Sha Tal
set_option linter.unusedVariables false
set_option linter.unusedSimpArgs false
open Qs (KeysAt SigsAt qcheckV okS checkOf refSignOf signOf keysOf mostI seedR rkL addS runOf)
theorem parse_backM {c : Ld.Cfg} {p : Sp} (h : p.fit) (hg : p.good c = true) : parseS c p.bytes = (p, 0) := by
 unfold parseS
 rw [read_back p h]
 simp only
 rw [if_neg (by unfold doneE; decide), if_pos hg]
theorem goodC_n {c : Ld.Cfg} (h : Ld.goodC c = true) : Qs.goodB c.n = true := by
 unfold Ld.goodC at h
 simp only [Bool.and_eq_true] at h
 exact h.1.1.1.1.1.1.1.1.1
theorem good_n {c : Ld.Cfg} {s : Stt} (h : s.good c = true) : Qs.goodB c.n = true := by
 unfold Stt.good at h
 rw [Bool.and_eq_true] at h
 exact goodC_n h.1
theorem most_of {n : Int} (h : Qs.goodB n = true) : 1 ≤ mostI n ∧ mostI n ≤ n := by
 have := Qs.goodB_true h
 unfold mostI
 rw [if_pos h]
 omega
theorem covers : ∀ (N : Nat) (l : List Qs.Sg), (∀ k : Nat, k < N → ∃ y ∈ l, y.n = (k : Int)) → N ≤ l.length
  | 0, _, _ => Nat.zero_le _
  | N + 1, l, h => by
    obtain ⟨y, hy, e⟩ := h N (by omega)
    obtain ⟨a, b, rfl⟩ := List.append_of_mem hy
    have := covers N (a ++ b) (fun k hk => by
      obtain ⟨z, hz, ez⟩ := h k (by omega)
      refine ⟨z, ?_, ez⟩
      simp only [List.mem_append, List.mem_cons] at hz ⊢
      rcases hz with hz | rfl | hz
      · exact .inl hz
      · omega
      · exact .inr hz)
    simp only [List.length_append, List.length_cons] at this ⊢
    omega
structure TI (ok : Qs.Sg → Bool) (N m : Nat) (w2 wr : World) (sa : Option Addr) (cs : Nat) (ss : List Qs.Sg) (i : Nat) : Prop where
 below : Below w2.heap.size w2 wr
 at_ : SigsAt wr sa ss
 cap : ss.length ≤ cs
 capm : cs ≤ maxLen
 run : runOf ok N (-1) ss = ss.length
 cov : ∀ j : Nat, m ≤ j → j < i → ∃ y ∈ ss, y.n = ((j % N : Nat) : Int)
theorem TI.start (ok : Qs.Sg → Bool) (N m : Nat) (w2 : World) : TI ok N m w2 w2 none 0 [] 0 where
 below := Below.refl _ _
 at_ := Qs.SigsAt.none
 cap := by simp
 capm := by simp
 run := rfl
 cov := fun j _ h => absurd h (by omega)
theorem TI.later {ok : Qs.Sg → Bool} {N m : Nat} {w2 wr w' : World} {sa : Option Addr} {cs : Nat} {ss : List Qs.Sg} {i : Nat} (h : TI ok N m w2 wr sa cs ss i) (hb : Below wr.heap.size wr w') : TI ok N m w2 w' sa cs ss i :=
 ⟨h.below.trans (hb.mono h.below.size), h.at_.below hb, h.cap, h.capm, h.run, h.cov⟩
theorem TI.len {ok : Qs.Sg → Bool} {N m : Nat} {w2 wr : World} {sa : Option Addr} {cs : Nat} {ss : List Qs.Sg} {i : Nat} (h : TI ok N m w2 wr sa cs ss i) : ss.length ≤ N := by
 have := Qs.run_room ss (-1) (by omega) h.run
 omega
theorem TI.ends {ok : Qs.Sg → Bool} {N m : Nat} {w2 wr : World} {sa : Option Addr} {cs : Nat} {ss : List Qs.Sg} {i : Nat} (h : TI ok N m w2 wr sa cs ss i) (hN : 0 < N) (hi : m + N ≤ i) : N ≤ ss.length := covers N ss (fun k hk => by
 have hl := Nat.mod_lt (k + N - m % N) hN
 have hm := Nat.mod_lt m hN
 obtain ⟨y, hy, e⟩ := h.cov (m + (k + N - m % N) % N) (by omega) (by omega)
 refine ⟨y, hy, ?_⟩
 rw [e, Nat.add_mod_mod]
 have hd := Nat.div_add_mod m N
 rw [show m + (k + N - m % N) = k + N * (m / N + 1) by rw [Nat.mul_add, Nat.mul_one]; omega, Nat.add_mul_mod_self_left, Nat.mod_eq_of_lt hk])
theorem TI.next {ok : Qs.Sg → Bool} {N m : Nat} {w2 wr w' : World} {sa sb : Option Addr} {cs cb : Nat} {ss : List Qs.Sg} {i : Nat} (h : TI ok N m w2 wr sa cs ss i) (hb : Below wr.heap.size wr w') {s : Qs.Sg} {n : Nat} (hn : n < N) (hs : s.n = (n : Int)) (hok : ok s = true)
  (hat : SigsAt w' sb (addS ss s)) (hc : (addS ss s).length ≤ cb) (hm : cb ≤ maxLen) (hj : m ≤ i → n = i % N) : TI ok N m w2 w' sb cb (addS ss s) (i + 1) where
 below := h.below.trans (hb.mono h.below.size)
 at_ := hat
 cap := hc
 capm := hm
 run := Qs.run_add (by omega) (by omega) hok h.run
 cov := fun j h1 h2 => by
  rw [Qs.mem_add_n]
  by_cases e : j = i
  ·subst e
   exact .inl (by rw [hs, hj h1])
  ·exact .inr (h.cov j h1 (by omega))
theorem check_yes {ok : Qs.Sg → Bool} {n m : Int} {ss : List Qs.Sg} (hg : Qs.goodB n = true) (h1 : 1 ≤ m) (h2 : m ≤ n) (hr : runOf ok n (-1) ss = ss.length) (hm : m ≤ (ss.length : Int)) : qcheckV ok n ss m = 0 := by
 rw [Qs.qcheck_gathered hg h1 h2 hr, if_pos hm]
theorem chk_yes {V : Sp → Int} {c : Ld.Cfg} {p : Sp} (hf : p.fit) (hg : p.good c = true) (he : ¬ p.e < 2) (hv : V p = 0) : chkS V c p.bytes = (p, 0) := by
 unfold chkS
 rw [parse_backM hf hg]
 simp only [ne_eq, not_true_eq_false, if_false]
 rw [if_neg he, if_neg (by simp [hv])]
theorem chk_of {V : Sp → Int} {c : Ld.Cfg} {zs : List Int} (h : (chkS V c zs).2 = 0) (hp : (parseS c zs).2 = 0) (he : ¬ (parseS c zs).1.e < 2) : V (parseS c zs).1 = 0 := by
 unfold chkS at h
 rw [if_neg (by simp [hp]), if_neg he] at h
 by_cases hv : V (parseS c zs).1 = 0
 ·exact hv
 ·rw [if_pos hv] at h
  exact h
theorem check_first {ok : Qs.Sg → Bool} {n m : Int} {x : Qs.Sg} {l : List Qs.Sg} (h : qcheckV ok n (x :: l) m = 0) : ok x = true := by
 unfold qcheckV at h
 split at h
 ·exact absurd h (by decide)
 split at h
 ·exact absurd h (by decide)
 split at h
 ·exact absurd h (by decide)
 ·rename_i hr
  have hle := Qs.runOf_le ok n (x :: l) (-1)
  exact (Qs.run_whole (Nat.le_antisymm hle (by omega))).2.1
theorem ok_tag {r : List Int × Int} {t : List Int} (h : checkOf r t = true) : r.1 = t := by
 unfold checkOf at h
 simp only [Bool.and_eq_true, beq_iff_eq] at h
 exact h.2
theorem umodM (z : Int) (m : Nat) (h0 : 0 < m) (hm : m ≤ 65536) : ∃ p : Nat, p < m ∧ wrap64 ((IntKind.u64.wrap z).tmod (m : Int)) = (p : Int) := by
 rw [IntKind.wrap_u64]
 have h0' : 0 ≤ z % 18446744073709551616 := Int.emod_nonneg _ (by decide)
 generalize z % 18446744073709551616 = q at h0'
 rw [Int.tmod_eq_emod_of_nonneg h0']
 have h1 := Int.emod_nonneg q (b := (m : Int)) (by omega)
 have h2 := Int.emod_lt_of_pos q (b := (m : Int)) (by omega)
 refine ⟨(q % (m : Int)).toNat, by omega, ?_⟩
 generalize q % (m : Int) = r at h1 h2
 simp only [wrap64]
 omega
theorem signM (seed : ByteArray) (n k : Nat) (hk : k < n) (body : ByteArray) : (signOf (keysOf seed n) (k : Int) body).2 = 0 := by
 unfold signOf
 have h0 : keysOf seed n ≠ [] := fun h => by have := Qs.keysOf_length seed n; rw [h] at this; simp at this; omega
 rw [if_neg h0, Qs.keysOf_length, if_neg (by omega)]
end Go.Proofs.YtnfijfnnpbenfaaGreatDoor
namespace Go.Proofs.YtnfijfnnpbenfaaGreatDoor.Mk
open Go Go.RowKit
section
variable {P : Program} (w : World)
end
end Go.Proofs.YtnfijfnnpbenfaaGreatDoor.Mk
namespace Go.Proofs.YtnfijfnnpbenfaaGreatDoor.Mk
open Go Go.RowKit
section
variable {P : Program} (w : World)
end
end Go.Proofs.YtnfijfnnpbenfaaGreatDoor.Mk
namespace Go.Proofs.YtnfijfnnpbenfaaGreatDoor.Mk
open Go.RowKit
def v8 (zs : List Int) : List Value := zs.map (Value.int .u8)
@[simp] theorem v8_length (zs : List Int) : (v8 zs).length = zs.length := by simp [v8]
theorem v8_one (xs : List Int) : ∀ v ∈ v8 xs, v.oneCell' = true := by
 intro v hv; obtain ⟨x, _, rfl⟩ := List.mem_map.1 hv; rfl
def RowAt (w : World) (a : Option Addr) (zs : List Int) : Prop :=
 zs.length ≤ maxLen ∧ (∀ z ∈ zs, 0 ≤ z ∧ z < 256) ∧ (zs = [] ∨ ∃ b off, a = some ⟨b, off, none⟩ ∧ b < w.heap.size ∧ w.rangeAt b off (v8 zs))
theorem RowAt.take {w : World} {a : Option Addr} {zs : List Int} (h : RowAt w a zs) (n : Nat) : RowAt w a (zs.take n) := by
 obtain ⟨h1, h2, h3⟩ := h
 refine ⟨by rw [List.length_take]; omega, fun z hz => h2 z (List.mem_of_mem_take hz), ?_⟩
 rcases h3 with rfl | ⟨b, off, rfl, hb, hc⟩
 ·left; simp
 ·right
  refine ⟨b, off, rfl, hb, ?_⟩
  have e : v8 zs = v8 (zs.take n) ++ v8 (zs.drop n) := by unfold v8; rw [← List.map_append, List.take_append_drop]
  rw [e] at hc
  exact range_left hc
theorem RowAt.drop {w : World} {a : Option Addr} {zs : List Int} (h : RowAt w a zs) (n cap : Nat) (hn : n ≤ zs.length) (hcap : zs.length ≤ cap) : RowAt w (cutA a cap n) (zs.drop n) := by
 obtain ⟨h1, h2, h3⟩ := h
 refine ⟨by rw [List.length_drop]; omega, fun z hz => h2 z (List.mem_of_mem_drop hz), ?_⟩
 by_cases he : n = zs.length
 ·left; simp [he]
 ·rcases h3 with rfl | ⟨b, off, rfl, hb, hc⟩
  ·left; simp
  ·right
   refine ⟨b, off + n, ?_, hb, ?_⟩
   ·unfold cutA
    rw [if_neg (by omega), Option.map_some, Addr.add_mid]
   ·have e : v8 zs = v8 (zs.take n) ++ v8 (zs.drop n) := by unfold v8; rw [← List.map_append, List.take_append_drop]
    rw [e] at hc
    have := range_right hc
    rwa [v8_length, List.length_take_of_le hn] at this
def IsRow (k : IntKind) (w : World) (a : Option Addr) (len cap : Nat) (zs : List Int) : Prop :=
 (a = none ∧ len = 0 ∧ cap = 0 ∧ zs = []) ∨
 ∃ x, a = some x ∧ len ≤ cap ∧ cap ≤ maxLen ∧ zs.length = cap ∧ (∀ i, i < zs.length → w.cell? (x.add i) = some (.int k (zs.getD i 0))) ∧ ∀ n ∈ zs, (Lit.int k n).wf = true
open Go Go.RowKit
open Go Go.RowKit
section
variable {P : Program} {ops : Array Oper} {Q : Exit → Act → World → Prop}
end
end Go.Proofs.YtnfijfnnpbenfaaGreatDoor.Mk
namespace Go.Proofs.YtnfijfnnpbenfaaGreatDoor.Mk
open Go Go.RowKit
section
variable {P : Program} {ops : Array Oper} {Q : Exit → Act → World → Prop}
end
end Go.Proofs.YtnfijfnnpbenfaaGreatDoor.Mk
namespace Go.Proofs.YtnfijfnnpbenfaaGreatDoor.Mk
open Go Go.RowKit
section
variable {P : Program} {ops : Array Oper} {Q : Exit → Act → World → Prop}
end
end Go.Proofs.YtnfijfnnpbenfaaGreatDoor.Mk
namespace Go.Proofs.YtnfijfnnpbenfaaGreatDoor.Mk.Nq
open Go.RowKit
def goodB (n : Int) : Bool := decide (4 ≤ n ∧ n ≤ 64 ∧ n % 3 = 1)
theorem goodB_true {n : Int} (h : goodB n = true) : 4 ≤ n ∧ n ≤ 64 ∧ n % 3 = 1 := by simpa [goodB] using h
theorem goodB_mk {n : Int} (h : 4 ≤ n ∧ n ≤ 64 ∧ n % 3 = 1) : goodB n = true := by simpa [goodB] using h
theorem goodB_no {n : Int} (h : ¬ (4 ≤ n ∧ n ≤ 64 ∧ n % 3 = 1)) : goodB n = false := by simpa [goodB] using h
theorem hide {p : Prop} (h : p) : Hid p := h
theorem ret_bool {a b : Bool} (h : a = b) : Ending.returned (.bool a) = .returned (.bool b) := by rw [h]
theorem ret_int {k : IntKind} {a b : Int} (h : a = b) : Ending.returned (.int k a) = .returned (.int k b) := by rw [h]
set_option maxHeartbeats 400000 in
theorem good_any (n : Int) (w : World) : Calls Tryz.prog 42 #[.int .i64 n] w fun e w' => e = .returned (.bool (goodB n)) ∧ w' = w := by
 by_cases h1 : 4 ≤ n
 ·by_cases h2 : n ≤ 64
  ·go_enter Tryz.func42, Tryz.ntmps42
   go_wp2
   go_ret
   refine ⟨ret_bool ?_, rfl⟩
   by_cases h3 : n % 3 = 1
   ·rw [goodB_mk ⟨h1, h2, h3⟩]; simpa using h3
   ·rw [goodB_no (by omega)]; simpa using h3
  ·go_enter Tryz.func42, Tryz.ntmps42
   go_wp2
   go_ret
   exact ⟨ret_bool (by rw [goodB_no (by omega)]), rfl⟩
 ·go_enter Tryz.func42, Tryz.ntmps42
  go_wp2
  go_ret
  exact ⟨ret_bool (by rw [goodB_no (by omega)]), rfl⟩
def faultsI (n : Int) : Int := if goodB n then n / 3 else 0
def mostI (n : Int) : Int := if goodB n then 2 * (n / 3) + 1 else 0
def above (l : List Int) (x : Int) : Nat := l.countP (fun y => decide (x < y))
def same (l : List Int) (x : Int) : Nat := l.countP (fun y => decide (y = x))
def isNth (l : List Int) (i x : Int) : Bool := decide ((above l x : Int) < i) && decide (i ≤ (above l x : Int) + (same l x : Int))
def nthFrom (l : List Int) (i : Int) (m : List Int) : Int := (m.find? (isNth l i)).getD 0
def nth (l : List Int) (i : Int) : Int := nthFrom l i l
theorem above_same (l : List Int) (x : Int) : above l x + same l x = l.countP (fun y => decide (x ≤ y)) := by
  unfold above same
  induction l with
  | nil => rfl
  | cons a l ih =>
    simp only [List.countP_cons, decide_eq_true_eq]
    rcases Int.lt_trichotomy a x with h | h | h
    · rw [if_neg (by omega), if_neg (by omega), if_neg (by omega)]; omega
    · rw [if_neg (by omega), if_pos h, if_pos (by omega)]; omega
    · rw [if_pos (by omega), if_neg (by omega), if_pos (by omega)]; omega
theorem above_le (l : List Int) (x : Int) : above l x + same l x ≤ l.length := by
 rw [above_same]; exact List.countP_le_length
theorem above_anti (l : List Int) (x y : Int) (h : x < y) : above l y + same l y ≤ above l x := by
 rw [above_same]; unfold above
 refine List.countP_mono_left ?_
 intro z _ hz
 simp at hz ⊢; omega
theorem isNth_unique (l : List Int) (i x y : Int) (hx : isNth l i x = true) (hy : isNth l i y = true) : x = y := by
 simp only [isNth, Bool.and_eq_true, decide_eq_true_eq] at hx hy
 rcases Int.lt_trichotomy x y with h | h | h
 ·have := above_anti l x y h; omega
 ·exact h
 ·have := above_anti l y x h; omega
theorem above_perm {l m : List Int} (h : l.Perm m) (x : Int) : above l x = above m x := h.countP_eq _
theorem same_perm {l m : List Int} (h : l.Perm m) (x : Int) : same l x = same m x := h.countP_eq _
theorem nth_none (l : List Int) (i : Int) (h : i < 1 ∨ (l.length : Int) < i) : nth l i = 0 := by
 unfold nth nthFrom
 have : l.find? (isNth l i) = none := by
  rw [List.find?_eq_none]
  intro x _
  have := above_le l x
  simp only [isNth, Bool.and_eq_true, decide_eq_true_eq]
  omega
 rw [this]; rfl
theorem sorted_isNth (s : List Int) (hs : s.Pairwise (· ≤ ·)) (p : Nat) (hp : p < s.length) : isNth s ((s.length : Int) - p) s[p] = true := by
 have h1 : above s s[p] ≤ s.length - (p + 1) := by
  unfold above
  have e : s = s.take (p + 1) ++ s.drop (p + 1) := (List.take_append_drop _ _).symm
  have z : (s.take (p + 1)).countP (fun y => decide (s[p] < y)) = 0 := by
   rw [List.countP_eq_zero]
   intro y hy
   obtain ⟨k, hk, rfl⟩ := List.getElem_of_mem hy
   simp only [List.length_take] at hk
   have hk' : k ≤ p := by omega
   simp only [List.getElem_take, decide_eq_true_eq]
   rcases Nat.lt_or_eq_of_le hk' with h | rfl
   ·have := List.pairwise_iff_getElem.1 hs k p (by omega) hp h; omega
   ·omega
  have c : s.countP (fun y => decide (s[p] < y)) = (s.take (p + 1)).countP (fun y => decide (s[p] < y)) + (s.drop (p + 1)).countP (fun y => decide (s[p] < y)) := by
   rw [← List.countP_append, List.take_append_drop]
  rw [c, z]
  have := List.countP_le_length (p := fun y => decide (s[p] < y)) (l := s.drop (p + 1))
  simp only [List.length_drop] at this
  omega
 have h2 : s.length - p ≤ above s s[p] + same s s[p] := by
  rw [above_same]
  have c : s.countP (fun y => decide (s[p] ≤ y)) = (s.take p).countP (fun y => decide (s[p] ≤ y)) + (s.drop p).countP (fun y => decide (s[p] ≤ y)) := by
   rw [← List.countP_append, List.take_append_drop]
  have z : (s.drop p).countP (fun y => decide (s[p] ≤ y)) = (s.drop p).length := by
   rw [List.countP_eq_length]
   intro y hy
   obtain ⟨k, hk, rfl⟩ := List.getElem_of_mem hy
   simp only [List.length_drop] at hk
   simp only [List.getElem_drop, decide_eq_true_eq]
   rcases Nat.eq_zero_or_pos k with rfl | h
   ·simp
   ·exact List.pairwise_iff_getElem.1 hs p (p + k) hp (by omega) (by omega)
  rw [c, z, List.length_drop]; omega
 simp only [isNth, Bool.and_eq_true, decide_eq_true_eq]
 omega
theorem nth_sorted (l s : List Int) (hp : s.Perm l) (hs : s.Pairwise (· ≤ ·)) (i : Nat) (h1 : 1 ≤ i) (h2 : i ≤ l.length) : nth l i = s[s.length - i]'(by have := hp.length_eq; omega) := by
 have hl := hp.length_eq
 have hn := sorted_isNth s hs (s.length - i) (by omega)
 have e : ((s.length : Int) - ((s.length - i : Nat) : Int)) = (i : Int) := by omega
 rw [e] at hn
 have hn' : isNth l i s[s.length - i] = true := by
  unfold isNth at hn ⊢; rwa [above_perm hp, same_perm hp] at hn
 unfold nth nthFrom
 cases hf : l.find? (isNth l i) with
 | none =>
  rw [List.find?_eq_none] at hf
  exact absurd hn' (hf _ (hp.mem_iff.1 (List.getElem_mem _)))
 | some y =>
  have := List.find?_some hf
  exact isNth_unique l i _ _ this hn'
open Go.RowKit
def IsRow (k : IntKind) (w : World) (a : Option Addr) (len cap : Nat) (zs : List Int) : Prop :=
 (a = none ∧ len = 0 ∧ cap = 0 ∧ zs = []) ∨
 ∃ x, a = some x ∧ len ≤ cap ∧ cap ≤ maxLen ∧ zs.length = cap ∧ (∀ i, i < zs.length → w.cell? (x.add i) = some (.int k (zs.getD i 0))) ∧ ∀ n ∈ zs, (Lit.int k n).wf = true
def RowI (w : World) (a : Option Addr) (zs : List Int) : Prop :=
 zs.length ≤ maxLen ∧ (zs = [] ∨ ∃ b off, a = some ⟨b, off, none⟩ ∧ b < w.heap.size ∧ ∀ j, j < zs.length → w.cell? ⟨b, off + j, none⟩ = some (.int .i64 (zs[j]?.getD 0)))
theorem RowI.below {w w' : World} {a : Option Addr} {zs : List Int} (h : RowI w a zs) (hb : Below w.heap.size w w') : RowI w' a zs := by
 refine ⟨h.1, ?_⟩
 rcases h.2 with h | ⟨b, off, rfl, h1, h2⟩
 ·exact Or.inl h
 ·exact Or.inr ⟨b, off, rfl, Nat.lt_of_lt_of_le h1 hb.size, fun j hj => (hb.cell (p := ⟨b, off + j, none⟩) h1).trans (h2 j hj)⟩
end Go.Proofs.YtnfijfnnpbenfaaGreatDoor.Mk.Nq
