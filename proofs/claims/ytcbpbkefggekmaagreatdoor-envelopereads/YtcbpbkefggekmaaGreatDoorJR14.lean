/- EnvelopeReads: any envelope has the bytes that the document says, any bytes are the envelope that it says; without any condition (the card ties the tables start -/
import Derived.Test.YtcbpbkefggekmaaGreatDoorJR0
import Derived.Test.YtcbpbkefggekmaaGreatDoorJR13
import Derived.Test.YtcbpbkefggekmaaGreatDoorJR12
import Derived.Test.YtcbpbkefggekmaaGreatDoorJR11
import Derived.Test.YtcbpbkefggekmaaGreatDoorJR3
import Derived.Test.YtcbpbkefggekmaaGreatDoorJR10
import Derived.Test.YtcbpbkefggekmaaGreatDoorJR2
import Derived.Test.YtcbpbkefggekmaaGreatDoorJR7
import Derived.Test.YtcbpbkefggekmaaGreatDoorJR5
import Derived.Deep.Cut
import Derived.Deep.DeepCutAuto
import Derived.Deep.Slices
import Derived.Test.YtcbpbkefggekmaaGreatDoorRows
import Derived.ProofKit
import Derived.OpenShut
import Derived.ShutString
import Derived.ChangeOld
import Derived.Below
import Derived.Lib.LaidTab
import Derived.Test.YtcbpbkefggekmaaGreatDoorJR1
import Derived.Test.YtcbpbkefggekmaaGreatDoorCards
import Derived.Test.YtcbpbkefggekmaaGreatDoorTie
import Derived.LaidMore
import Derived.Stop.Joined
namespace Go.Proofs.YtcbpbkefggekmaaGreatDoor
open Go.RowKit
open Sha Tal
set_option linter.unusedVariables false
set_option linter.unusedSimpArgs false
open Qs (KeysAt signOf checkOf)
def txX : ByteArray := { data := #[120] }
def rqX (tg : List Int) : Rq := ⟨1, 1, txX, tg⟩
def mX (b : Nat) (tg : List Int) : Mg := ⟨1, 1, 0, 0, 1, false, ⟨some ⟨b, 0, none⟩, 1, [rqX tg]⟩, Vt.zero, 0, 0, 0, ⟨none, 0, []⟩, ⟨none, 0, []⟩, zeros32, Vt.zero, ⟨none, 0, []⟩, ⟨#[]⟩, ⟨none, 0, []⟩⟩
def pX (tg : List Int) : Mp := ⟨1, 1, 0, 0, 1, false, [rqX tg], Vt.zero, 0, 0, 0, [], [], zeros32, Vt.zero, [], ⟨#[]⟩, []⟩
theorem mX_pure (b : Nat) (tg : List Int) : (mX b tg).pure = pX tg := rfl
theorem rqX_ok {tg : List Int} (h : tg.length = 16) (hb : ∀ z ∈ tg, 0 ≤ z ∧ z < 256) : (rqX tg).ok := ⟨h, hb, by show txX.size ≤ maxLen; decide, by show (-9223372036854775808 : Int) ≤ 1; decide, by show (1 : Int) ≤ 9223372036854775807; decide, by show (-9223372036854775808 : Int) ≤ 1; decide, by show (1 : Int) ≤ 9223372036854775807; decide⟩
theorem mX_ok (b : Nat) (tg : List Int) : (mX b tg).ok := ⟨Vt.zero_ok, Vt.zero_ok, zeros32_len, zeros32_byte⟩
theorem mX_at {b : Nat} {tg : List Int} {w : World} (h : tg.length = 16) (hb : ∀ z ∈ tg, 0 ≤ z ∧ z < 256) (hlt : b < w.heap.size) (hr : w.rangeAt b 0 (RqE.f (rqX tg))) : (mX b tg).At w :=
 mg0_at ⟨by show 1 ≤ maxLen; decide, fun y hy => by
  have : y = rqX tg := by simpa [mX] using hy
  rw [this]; exact rqX_ok h hb, .inr ⟨b, 0, rfl, hlt, by simpa [mX] using hr⟩⟩ hds_none RowsAt.none RowsAt.none RowsAt.none
theorem pX_good {tg : List Int} (h : tg.length = 16) (hb : ∀ z ∈ tg, 0 ≤ z ∧ z < 256) : (pX tg).good :=
 .inl ⟨rfl, ⟨⟨⟨Int.zero_le_ofNat 1, by show (1 : Int) ≤ 1048576; decide⟩, ⟨Int.zero_le_ofNat 1, by show (1 : Int) ≤ 1099511627776; decide⟩, (fun e => by cases e), ⟨(by show 1 ≤ 4; decide), (fun r hr => by
  have hr2 : r = rqX tg := by simpa [pX] using hr
  rw [hr2]
  exact ⟨⟨Int.zero_le_ofNat 1, by show (1 : Int) ≤ 8; decide⟩, ⟨Int.zero_le_ofNat 1, by show (1 : Int) ≤ 1099511627776; decide⟩, by show (txX.size : Int) ≤ 64; decide, h, hb⟩)⟩⟩, rfl⟩⟩
theorem pX_len {tg : List Int} (h : tg.length = 16) : (pX tg).bytes.length ≤ 1000 := by
 have e : (pX tg).bytes = putL 1 ++ (putL 1 ++ (putL 1 ++ (putL 2 ++ (putL 1 ++ putL 1 ++ (putL 1 ++ strL txX) ++ tg)))) := by
  have : (pX tg).bytes = putL 1 ++ (putL 1 ++ (putL 1 ++ (putL 2 ++ ((putL 1 ++ putL 1 ++ (putL 1 ++ strL txX) ++ tg) ++ [])))) := rfl
  rw [this, List.append_nil]
 have h1 := @putL_len 1 (by omega)
 have h2 := @putL_len 2 (by omega)
 have h3 : (strL txX).length = 1 := by rw [strL_length]; rfl
 rw [e]
 simp only [List.length_append]
 omega
def sX (tg : List Int) : ByteArray := strOf (pX tg).bytes
theorem sX_size {tg : List Int} (h : tg.length = 16) : (sX tg).size ≤ 1000 := by unfold sX; rw [strOf_sizeV]; exact pX_len h
theorem decX_X {tg : List Int} (h : tg.length = 16) (hb : ∀ z ∈ tg, 0 ≤ z ∧ z < 256) : decS (strL (sX tg)) = (pX tg, 0) := by
 unfold sX
 rw [strL_strOf (Mp.bytes_bs (pX_good h hb))]
 exact dec_back (pX_good h hb)
theorem claims_X {tg : List Int} (h : tg.length = 16) (hb : ∀ z ∈ tg, 0 ≤ z ∧ z < 256) : claimsC 4 (sX tg) = [⟨5, strOf (Rk.bodyL 1 1 txX), tg⟩] := by
 unfold claimsC
 rw [if_neg (by decide), decX_X h hb]
 rfl
theorem enc_X (b : Nat) (tg : List Int) (w : World) (h : tg.length = 16) (hb : ∀ z ∈ tg, 0 ≤ z ∧ z < 256) (hlt : b < w.heap.size) (hr : w.rangeAt b 0 (RqE.f (rqX tg))) :
  Calls Tryz.prog 22 #[.agg (mX b tg).ms.cells.toArray] w fun e w' => e = .returned (.tuple #[.string (sX tg), .int .i64 0]) ∧ Below w.heap.size w w' := by
 have hp : (mX b tg).pure.good := pX_good h hb
 have hg := pure_good hp
 have hy := bytes_pure (mX b tg) (by show (1 : Int) ≤ 1 ∧ (1 : Int) ≤ 8; decide)
 have hf : (mX b tg).Fine := fine_pure hp (by rw [hy]; have := pX_len h; rw [mX_pure]; omega)
 have c := enc_any (mX b tg) w (mX_ok b tg) (mX_at h hb hlt hr) (fun _ => hf)
 rw [hg, hy] at c
 exact c
set_option maxRecDepth 100000 in
theorem build_mX (b : Nat) (tg : List Int) (w : World) : (Instr.build 52 #[(0, .int .i64 1), (1, .int .i64 1), (4, .int .i64 1), (5, .agg #[.bool false, .slice (some ⟨b, 0, none⟩) 1 1])]).run Tryz.prog w = .ok (.agg (mX b tg).ms.cells.toArray) w :=
 build_msg _ _ w (by kernel_rfl)
theorem build_bX (b : Nat) (w : World) : (Instr.build 39 #[(1, .slice (some ⟨b, 0, none⟩) 1 1)]).run Tryz.prog w = .ok (.agg #[.bool false, .slice (some ⟨b, 0, none⟩) 1 1]) w := by kernel_rfl
theorem infoReqX : (Tryz.prog.info? 81).map (fun i => (i.zero, i.size, i.bytes)) = some (some (.agg ([Value.int .i64 0, .int .i64 0, .string ⟨#[]⟩] ++ v8 (List.replicate 16 0)).toArray), 19, 48) := by kernel_rfl
theorem run_bsReq (u : List Value) (hu : u.length = 19) (w : World) : (Instr.buildSlice 37 1 #[(0, .agg u.toArray)]).run Tryz.prog w = .ok (.slice (some ⟨w.heap.size, 0, none⟩) 1 1) (w.alloc (.cells u.toArray 81)) := by
 obtain ⟨i1, hi1, hiz, his, hib⟩ := info_parts infoReqX
 exact run_bs1 37 81 i1 _ u Tryz.underlying37 hi1 hiz (by rw [his, hu]) (by omega) (by omega) _
theorem tagX (ks : List (List Int)) (h : ks.length = 72) : Rk.tagV ks 4 1 1 txX = ((signOf ks 5 (strOf (Rk.bodyL 1 1 txX))).1, 0) := by
 unfold Rk.tagV
 rw [if_neg (by rw [h]; decide)]
 have e : (signOf ks 5 (strOf (Rk.bodyL 1 1 txX))).2 = 0 := by
  unfold signOf
  rw [if_neg (fun h0 => by rw [h0] at h; simp at h), if_neg (by rw [h]; decide)]
 show signOf ks 5 (strOf (Rk.bodyL 1 1 txX)) = _
 rw [← e]
set_option maxRecDepth 100000 in
set_option maxHeartbeats 4000000 in
theorem lives14_any (w : World) (hG : Glob w) : Calls Tryz.prog 8 #[] w fun e w' => e = .returned (.bool true) ∧ Below w.heap.size w w' := by
 obtain ⟨z19, hzl, hzr⟩ : ∃ z : List Value, z.length = 19 ∧ (∀ w : World, (zeroValue 81).run Tryz.prog w = .ok (.agg z.toArray) w) := ⟨[.int .i64 0, .int .i64 0, .string ⟨#[]⟩] ++ v8 (List.replicate 16 0), rfl, fun w => by kernel_rfl⟩
 obtain ⟨zk, hzkl, hzkr⟩ : ∃ z : List Value, z.length = 2 ∧ (∀ w : World, (zeroValue 29).run Tryz.prog w = .ok (.agg z.toArray) w) := ⟨[.string ⟨#[]⟩, .int .i64 0], rfl, fun w => by kernel_rfl⟩
 have cK := Rk.keys6_any w hG
 have hkl := Qs.keysOf_length Rk.seedR 72
 obtain ⟨ks, hks⟩ : ∃ k, Hid (Qs.keysOf Rk.seedR 72 = k) := ⟨_, hide rfl⟩
 rw [hks.out] at cK hkl
 have ik : (Tryz.prog.info? 29).map (·.size) = some Rk.rkL.length := by kernel_rfl
 have hkl2 : Rk.rkL.length = 2 := rfl
 have hk1 : ∀ v ∈ Rk.rkL, v.oneCell' = true := by decide
 obtain ⟨kq, hkq⟩ : ∃ k, Hid (Rk.rkL = k) := ⟨_, hide rfl⟩
 rw [hkq.out] at cK ik hkl2 hk1
 have hlt16 := Qs.signOf_length ks 5 (strOf (Rk.bodyL 1 1 txX))
 have htb := Qs.signOf_ok ks 5 (strOf (Rk.bodyL 1 1 txX))
 have htg := tagX ks hkl
 have cH0 := fun p tg w0 g k (h : tg.length = 16) => Qs.kcheck_any p ks 5 (strOf (Rk.bodyL 1 1 txX)) tg w0 g k (.inr (by rw [strOf_sizeV]; have := Rk.bodyL_length 1 1 txX (by decide) (by decide) (by decide); have h1 := @putL_len 1 (by omega); unfold Rk.bodyL textL; simp only [List.length_append, List.length_cons, List.length_nil, strL_length]; have : txX.size = 1 := rfl; have h2 := @putL_len (txX.size : Int) (by decide); omega)) h
 have hck : checkOf (signOf ks 5 (strOf (Rk.bodyL 1 1 txX))) (signOf ks 5 (strOf (Rk.bodyL 1 1 txX))).1 = true := by
  unfold checkOf
  have e2 : (signOf ks 5 (strOf (Rk.bodyL 1 1 txX))).2 = 0 := by
   unfold signOf
   rw [if_neg (fun h0 => by rw [h0] at hkl; simp at hkl), if_neg (by rw [hkl]; decide)]
  rw [e2]
  simp
 have hks1 : 0 < ks.length := by omega
 have cM0 := fun p w0 k g => Rk.make_yes p ks 4 1 1 txX w0 k g hks1 ⟨by decide, by decide, by decide, by decide, by decide⟩ (by rw [htg])
 rw [htg] at cM0
 obtain ⟨tg, htgd⟩ : ∃ t, Hid ((signOf ks 5 (strOf (Rk.bodyL 1 1 txX))).1 = t) := ⟨_, hide rfl⟩
 rw [htgd.out] at hlt16 htb hck cM0
 have cH1 := fun p w0 g k => cH0 p tg w0 g k hlt16
 rw [hck] at cH1
 have hcX := claims_X hlt16 htb
 have cC := fun w0 => claims_any 4 (sX tg) w0 (by have := sX_size hlt16; omega)
 rw [hcX] at cC
 unfold ClaimsA at cC
 have cE0 := fun b w0 h1 h2 => enc_X b tg w0 hlt16 htb h1 h2
 have hbm0 := fun b w0 => build_mX b tg w0
 have hul : (RqE.f (rqX tg)).length = 19 := RqE.len _ (rqX_ok hlt16 htb)
 have iu : (Tryz.prog.info? 81).map (·.size) = some (RqE.f (rqX tg)).length := by rw [hul]; kernel_rfl
 have hu1 := RqE.one (rqX tg)
 have it16 : (Tryz.prog.info? 23).map (·.size) = some (v8 tg).length := by rw [v8_length, hlt16]; exact iszT
 have cM0 : ∀ p w0, KeysAt w0 p ks → Glob w0 → Calls Tryz.prog 24 #[.pointer p, .int .i64 4, .int .i64 1, .int .i64 1, .string { data := #[120] }] w0 fun e w' => e = .returned (.tuple #[.agg (RqE.f (rqX tg)).toArray, .int .i64 0]) ∧ Below w0.heap.size w0 w' := cM0
 obtain ⟨u, hu⟩ : ∃ u, Hid (RqE.f (rqX tg) = u) := ⟨_, hide rfl⟩
 rw [hu.out] at hul iu hu1
 simp only [hu.out] at cM0 cE0
 obtain ⟨sx, hsx⟩ : ∃ s, Hid (sX tg = s) := ⟨_, hide rfl⟩
 simp only [hsx.out] at cC cE0
 obtain ⟨bd, hbd⟩ : ∃ s, Hid (strOf (Rk.bodyL 1 1 txX) = s) := ⟨_, hide rfl⟩
 simp only [hbd.out] at cC cH1
 have HG := hide hG
 clear hG cH0 hck hcX hu hsx hbd htb htg hkl hks1 hlt16 htgd hks hkq
 go_enter Tryz.func8, Tryz.ntmps8
 go_upto_region 1 with fail
 try simp only [Act.put]
 refine pl_begin ?_
 refine pl_call (d := some 9) (by rfl) (by go_simp; first | done | exact ⟨rfl, rfl⟩ | with_reducible rfl) rfl ?_
 refine (cK).mono ?_
 rintro _ w1 ⟨p, rfl, hp, hk, hb1⟩
 refine ⟨_, rfl, ?_⟩
 simp only [nz]
 refine pl_t 8 (?_) (by rfl) ?_ rfl ?_
 rotate_left
 ·go_simp
  try with_reducible rfl
 simp only [nz]
 refine pl_t 10 (?_) (by rfl) ?_ rfl ?_
 rotate_left
 ·go_simp
  try with_reducible rfl
 simp only [nz]
 refine pl_t 11 (?_) (by rfl) ?_ rfl ?_
 rotate_left
 ·go_simp
  try with_reducible rfl
 simp only [nz]
 refine pl_run (d := some 2) (v := .pointer (some ⟨w1.heap.size, 0, none⟩)) (w' := w1.alloc (.cells zk.toArray 29)) (by rfl) (ex_alloc rfl (hzkr _)) rfl ?_
 simp only [nz]
 refine pl_t 1 (?_) (by rfl) ?_ rfl ?_
 rotate_left
 ·go_simp
  try with_reducible rfl
 simp only [nz]
 refine pl_store (w' := (w1.alloc (.cells zk.toArray 29)).setCells w1.heap.size 0 kq) (by rfl) (ex_put (cs := kq.toArray) rfl rfl rfl (there_newN _ _ _ (by simp [hzkl, hkl2])) (by simpa using ik) (all_one hk1)) rfl ?_
 refine pl_nil ?_
 obtain ⟨-, hF, hF3, -⟩ := fresh_store w1 zk.toArray 29 kq (by simp [hzkl, hkl2])
 have hk := hk.below hF
 have B := hb1.trans (hF.mono hb1.size)
 obtain ⟨w2, hw2⟩ : ∃ W, (w1.alloc (.cells zk.toArray 29)).setCells w1.heap.size 0 kq = W := ⟨_, rfl⟩
 rw [hw2] at hk B ⊢
 clear hw2 hF hF3 hb1 cK hp ik hkl2 hk1 hzkr hzkl
 have cM := cM0 p w2 hk (HG.out.below B)
 go_upto_region 2 with fail
 try simp only [Act.put]
 refine pl_begin ?_
 refine pl_t 13 (?_) (by rfl) ?_ rfl ?_
 rotate_left
 ·go_simp
  try with_reducible rfl
 simp only [nz]
 refine pl_call (d := some 14) (by rfl) (by go_simp; first | done | exact ⟨rfl, rfl⟩ | with_reducible rfl) rfl ?_
 refine (cM).mono ?_
 rintro _ w3 ⟨rfl, hb3⟩
 refine ⟨_, rfl, ?_⟩
 simp only [nz]
 refine pl_t 12 (?_) (by rfl) ?_ rfl ?_
 rotate_left
 ·go_simp
  try with_reducible rfl
 simp only [nz]
 refine pl_t 15 (?_) (by rfl) ?_ rfl ?_
 rotate_left
 ·go_simp
  try with_reducible rfl
 simp only [nz]
 refine pl_t 16 (?_) (by rfl) ?_ rfl ?_
 rotate_left
 ·go_simp
  try with_reducible rfl
 simp only [nz]
 refine pl_run (d := some 3) (v := .pointer (some ⟨w3.heap.size, 0, none⟩)) (w' := w3.alloc (.cells z19.toArray 81)) (by rfl) (ex_alloc rfl (hzr _)) rfl ?_
 simp only [nz]
 refine pl_store (w' := (w3.alloc (.cells z19.toArray 81)).setCells w3.heap.size 0 u) (by rfl) (ex_put (cs := u.toArray) rfl rfl rfl (there_newN _ _ _ (by simp [hzl, hul])) (by simpa using iu) (all_one hu1)) rfl ?_
 refine pl_t 4 (?_) (by rfl) ?_ rfl ?_
 rotate_left
 ·go_simp
  try with_reducible rfl
 simp only [nz]
 refine pl_nil ?_
 obtain ⟨ru, hF, hF3, -⟩ := fresh_store w3 z19.toArray 81 u (by simp [hzl, hul])
 have hk := (hk.below hb3).below hF
 have B := B.trans ((hb3.trans (hF.mono hb3.size)).mono B.size)
 obtain ⟨X, hX⟩ : ∃ X, w3.heap.size = X := ⟨_, rfl⟩
 rw [hX] at ru hF3
 simp only [hX]
 obtain ⟨w4, hw4⟩ : ∃ W, (w3.alloc (.cells z19.toArray 81)).setCells X 0 u = W := ⟨_, rfl⟩
 rw [hX, hw4] at hk B
 rw [hw4] at ru hF3 ⊢
 have sX4 : X < w4.heap.size := by omega
 clear hw4 hX hF hF3 hb3 cM cM0
 have B5 : Below w4.heap.size w4 (w4.alloc (.cells u.toArray 81)) := (Below.refl _ _).alloc (Nat.le_refl _) _
 have r5 : (w4.alloc (.cells u.toArray 81)).rangeAt w4.heap.size 0 u := by simpa using range_new w4 u.toArray 81
 have cEn := cE0 w4.heap.size (w4.alloc (.cells u.toArray 81)) (by simp) r5
 obtain ⟨q, hq⟩ : ∃ q, Hid ((mX w4.heap.size tg).ms.cells = q) := ⟨_, hide rfl⟩
 have hbm := hbm0 w4.heap.size
 rw [hq.out] at cEn
 simp only [hq.out] at hbm
 clear hq cE0 hbm0 r5
 go_upto_region 3 with fail
 try simp only [Act.put]
 refine pl_begin ?_
 refine pl_t 18 (.agg u.toArray) (by rfl) (ex_mid rfl rfl ru Tryz.underlying81 rfl iu) rfl ?_
 simp only [nz]
 refine pl_run (d := some 19) (v := .slice (some ⟨w4.heap.size, 0, none⟩) 1 1) (w' := w4.alloc (.cells u.toArray 81)) (by rfl) (exec_bs1 rfl rfl (run_bsReq u hul _)) rfl ?_
 simp only [nz]
 refine pl_t 20 (.agg #[.bool false, .slice (some ⟨w4.heap.size, 0, none⟩) 1 1]) (by rfl) (ex_build (parts := [(1, .tmp 19)]) (vs := [(1, .slice (some ⟨w4.heap.size, 0, none⟩) 1 1)]) rfl (by first | with_reducible rfl | rfl | simp [Act.eval]) (build_bX _ _)) rfl ?_
 simp only [nz]
 refine pl_t 21 (.agg q.toArray) (by rfl) (ex_build (parts := [(0, .const (.int .i64 1)), (1, .const (.int .i64 1)), (4, .const (.int .i64 1)), (5, .tmp 20)]) (vs := [(0, .int .i64 1), (1, .int .i64 1), (4, .int .i64 1), (5, .agg #[.bool false, .slice (some ⟨w4.heap.size, 0, none⟩) 1 1])]) rfl (by first | with_reducible rfl | rfl | simp [Act.eval]) (hbm _)) rfl ?_
 simp only [nz]
 refine pl_call (d := some 22) (by rfl) (by go_simp; first | done | exact ⟨rfl, rfl⟩ | with_reducible rfl) rfl ?_
 refine (cEn).mono ?_
 rintro _ w6 ⟨rfl, hb6⟩
 refine ⟨_, rfl, ?_⟩
 simp only [nz]
 refine pl_t 17 (?_) (by rfl) ?_ rfl ?_
 rotate_left
 ·go_simp
  try with_reducible rfl
 simp only [nz]
 refine pl_t 23 (?_) (by rfl) ?_ rfl ?_
 rotate_left
 ·go_simp
  try with_reducible rfl
 simp only [nz]
 refine pl_t 24 (?_) (by rfl) ?_ rfl ?_
 rotate_left
 ·go_simp
  try with_reducible rfl
 simp only [nz]
 refine pl_t 5 (?_) (by rfl) ?_ rfl ?_
 rotate_left
 ·go_simp
  try with_reducible rfl
 simp only [nz]
 refine pl_t 6 (?_) (by rfl) ?_ rfl ?_
 rotate_left
 ·go_simp
  try with_reducible rfl
 simp only [nz]
 refine pl_nil ?_
 have hk := (hk.below B5).below hb6
 have B := B.trans ((B5.trans (hb6.mono B5.size)).mono B.size)
 clear B5 hb6 cEn hbm ru sX4 iu hu1
 go_upto_region 4 with fail
 try simp only [Act.put]
 refine pl_begin ?_
 refine pl_t 25 (?_) (by rfl) ?_ rfl ?_
 rotate_left
 ·go_simp
  try with_reducible rfl
 simp only [nz]
 refine pl_call (d := some 26) (by rfl) (by go_simp; first | done | exact ⟨rfl, rfl⟩ | with_reducible rfl) rfl ?_
 refine (cC w6).mono ?_
 rintro _ w7 ⟨x, rfl, hxs, hxa, hb7⟩
 refine ⟨_, rfl, ?_⟩
 simp only [nz]
 refine pl_t 7 (?_) (by rfl) ?_ rfl ?_
 rotate_left
 ·go_simp
  try with_reducible rfl
 simp only [nz]
 refine pl_nil ?_
 have hk := hk.below hb7
 have B := B.trans (hb7.mono B.size)
 obtain ⟨xa, xc, xs⟩ := x
 have hxs : xs = [⟨5, bd, tg⟩] := hxs
 subst hxs
 obtain ⟨b, off, hab0, sb, hre0⟩ := hxa.elem 0 (by simp)
 have hab : xa = some ⟨b, off, none⟩ := hab0
 have hre : w7.rangeAt b (off + 0 * 18) (.int .i64 5 :: .string bd :: v8 tg) := hre0
 clear hab0 hre0
 rw [Nat.zero_mul, Nat.add_zero] at hre
 clear hxa hb7
 subst hab
 simp only [Sl.val, List.length_singleton]
 go_upto_region 5 with fail
 have hdr : Below w7.heap.size w7 w7.drew := (Below.refl _ _).drew
 have hre := range_below hre hdr sb
 have hk := hk.below hdr
 have B := B.trans (hdr.mono B.size)
 have sb := Nat.lt_of_lt_of_le sb hdr.size
 refine hs_begin (S := (Below w7.drew.heap.size w7.drew)) 31 rfl (by kernel_rfl) ?_
 obtain ⟨w8, hw8⟩ : ∃ W, w7.drew = W := ⟨_, rfl⟩
 rw [hw8] at hre hk B sb ⊢
 clear hdr hw8
 have hS : (Below w8.heap.size w8) w8 := Below.refl _ _
 have c0 : w8.cell? ⟨b, off, none⟩ = some (.int .i64 5) := hre 0 _ rfl
 have c1 : w8.cell? ⟨b, off + 1, none⟩ = some (.string bd) := hre 1 _ rfl
 have ct : w8.rangeAt b (off + 2) (v8 tg) := fun j y hy => by
  have := hre (j + 2) y hy
  rw [show off + (j + 2) = off + 2 + j by omega] at this
  exact this
 have cH := fun (_ : World) => cH1 p w8 (HG.out.below B) hk
 refine hs_t 0 27 (?_) rfl (by kernel_rfl) (by kernel_rfl) (by kernel_rfl) (by rfl) ?_ hS rfl ?_
 rotate_left
 ·intro w' hw
  go_simp
  try with_reducible rfl
 simp only [nz]
 refine hs_t 1 28 (.bool true) rfl (by kernel_rfl) (by kernel_rfl) (by kernel_rfl) (by rfl) (fun w' hw => by go_simp) hS rfl ?_
 simp only [nz]
 refine hs_t 2 29 (?_) rfl (by kernel_rfl) (by kernel_rfl) (by kernel_rfl) (by rfl) ?_ hS rfl ?_
 rotate_left
 ·intro w' hw
  go_simp
  try with_reducible rfl
 simp only [nz]
 refine hs_t 3 30 (?_) rfl (by kernel_rfl) (by kernel_rfl) (by kernel_rfl) (by rfl) ?_ hS rfl ?_
 rotate_left
 ·intro w' hw
  go_simp
  try with_reducible rfl
 simp only [nz]
 refine hs_t 4 31 (.bool true) rfl (by kernel_rfl) (by kernel_rfl) (by kernel_rfl) (by rfl) (fun w' hw => by go_simp) hS rfl ?_
 simp only [nz]
 refine hs_t 5 32 (?_) rfl (by kernel_rfl) (by kernel_rfl) (by kernel_rfl) (by rfl) ?_ hS rfl ?_
 rotate_left
 ·intro w' hw
  go_simp
  try with_reducible rfl
 simp only [nz]
 refine hs_t 6 33 (?_) rfl (by kernel_rfl) (by kernel_rfl) (by kernel_rfl) (by rfl) ?_ hS rfl ?_
 rotate_left
 ·intro w' hw
  go_simp
  try with_reducible rfl
 simp only [nz]
 refine hs_t 7 34 (?_) rfl (by kernel_rfl) (by kernel_rfl) (by kernel_rfl) (by rfl) ?_ hS rfl ?_
 rotate_left
 ·intro w' hw
  go_simp
  try with_reducible rfl
 simp only [nz]
 refine hs_t 8 35 (?_) rfl (by kernel_rfl) (by kernel_rfl) (by kernel_rfl) (by rfl) ?_ hS rfl ?_
 rotate_left
 ·intro w' hw
  go_simp
  try with_reducible rfl
 simp only [nz]
 refine hs_t 9 36 (.bool true) rfl (by kernel_rfl) (by kernel_rfl) (by kernel_rfl) (by rfl) (fun w' hw => by go_simp) hS rfl ?_
 simp only [nz]
 refine hs_t 10 37 (?_) rfl (by kernel_rfl) (by kernel_rfl) (by kernel_rfl) (by rfl) ?_ hS rfl ?_
 rotate_left
 ·intro w' hw
  go_simp
  try with_reducible rfl
 simp only [nz]
 refine hs_t 11 38 (?_) rfl (by kernel_rfl) (by kernel_rfl) (by kernel_rfl) (by rfl) ?_ hS rfl ?_
 rotate_left
 ·intro w' hw
  go_simp
  try with_reducible rfl
 simp only [nz]
 refine hs_t 12 39 (?_) rfl (by kernel_rfl) (by kernel_rfl) (by kernel_rfl) (by rfl) ?_ hS rfl ?_
 rotate_left
 ·intro w' hw
  go_simp
  try with_reducible rfl
 simp only [nz]
 refine hs_t 13 40 (.pointer (some ⟨b, off, none⟩)) rfl (by kernel_rfl) (by kernel_rfl) (by kernel_rfl) (by rfl) (fun w' hw => by go_simp <;> (try simp [*])) hS rfl ?_
 simp only [nz]
 refine hs_t 14 41 (.pointer (some ⟨b, off, none⟩)) rfl (by kernel_rfl) (by kernel_rfl) (by kernel_rfl) (by rfl) (fun w' hw => by go_simp <;> (try simp [*])) hS rfl ?_
 simp only [nz]
 refine hs_t 15 42 (.int .i64 5) rfl (by kernel_rfl) (by kernel_rfl) (by kernel_rfl) (by rfl) (fun w' hw => pl_one rfl rfl ((hw.cell (p := ⟨b, off, none⟩) sb).trans c0) Tryz.underlying3 rfl) hS rfl ?_
 simp only [nz]
 refine hs_t 16 43 (.bool true) rfl (by kernel_rfl) (by kernel_rfl) (by kernel_rfl) (by rfl) (fun w' hw => by go_simp) hS rfl ?_
 simp only [nz]
 refine hs_t 17 44 (?_) rfl (by kernel_rfl) (by kernel_rfl) (by kernel_rfl) (by rfl) ?_ hS rfl ?_
 rotate_left
 ·intro w' hw
  go_simp
  try with_reducible rfl
 simp only [nz]
 refine hs_t 18 45 (?_) rfl (by kernel_rfl) (by kernel_rfl) (by kernel_rfl) (by rfl) ?_ hS rfl ?_
 rotate_left
 ·intro w' hw
  go_simp
  try with_reducible rfl
 simp only [nz]
 refine hs_t 19 46 (?_) rfl (by kernel_rfl) (by kernel_rfl) (by kernel_rfl) (by rfl) ?_ hS rfl ?_
 rotate_left
 ·intro w' hw
  go_simp
  try with_reducible rfl
 simp only [nz]
 refine hs_t 20 47 (?_) rfl (by kernel_rfl) (by kernel_rfl) (by kernel_rfl) (by rfl) ?_ hS rfl ?_
 rotate_left
 ·intro w' hw
  go_simp
  try with_reducible rfl
 simp only [nz]
 refine hs_t 21 48 (.pointer (some ⟨b, off, none⟩)) rfl (by kernel_rfl) (by kernel_rfl) (by kernel_rfl) (by rfl) (fun w' hw => by go_simp <;> (try simp [*])) hS rfl ?_
 simp only [nz]
 refine hs_t 22 49 (.pointer (some ⟨b, off + 1, none⟩)) rfl (by kernel_rfl) (by kernel_rfl) (by kernel_rfl) (by rfl) (fun w' hw => by go_simp <;> (try simp [*])) hS rfl ?_
 simp only [nz]
 refine hs_t 23 50 (.string bd) rfl (by kernel_rfl) (by kernel_rfl) (by kernel_rfl) (by rfl) (fun w' hw => pl_one rfl rfl ((hw.cell (p := ⟨b, off + 1, none⟩) sb).trans c1) Tryz.underlying9 rfl) hS rfl ?_
 simp only [nz]
 refine hs_t 24 51 (?_) rfl (by kernel_rfl) (by kernel_rfl) (by kernel_rfl) (by rfl) ?_ hS rfl ?_
 rotate_left
 ·intro w' hw
  go_simp
  try with_reducible rfl
 simp only [nz]
 refine hs_t 25 52 (.pointer (some ⟨b, off, none⟩)) rfl (by kernel_rfl) (by kernel_rfl) (by kernel_rfl) (by rfl) (fun w' hw => by go_simp <;> (try simp [*])) hS rfl ?_
 simp only [nz]
 refine hs_t 26 53 (.pointer (some ⟨b, off + 2, none⟩)) rfl (by kernel_rfl) (by kernel_rfl) (by kernel_rfl) (by rfl) (fun w' hw => by go_simp <;> (try simp [*])) hS rfl ?_
 simp only [nz]
 refine hs_t 27 54 (.agg (v8 tg).toArray) rfl (by kernel_rfl) (by kernel_rfl) (by kernel_rfl) (by rfl) (fun w' hw => ex_mid rfl rfl (range_below ct hw sb) Tryz.underlying23 rfl it16) hS rfl ?_
 simp only [nz]
 refine hs_call (i := 28) (d := some 55) rfl (by kernel_rfl) (by rfl) (by go_simp; first | done | exact ⟨rfl, rfl⟩ | with_reducible rfl) rfl ?_
 refine (cH w8).mono ?_
 rintro _ w9 ⟨rfl, hb9⟩
 have hS : (Below w8.heap.size w8) w9 := hS.trans (hb9.mono hS.size)
 refine ⟨_, rfl, hS, ?_⟩
 simp only [nz]
 refine hs_t 29 56 (?_) rfl (by kernel_rfl) (by kernel_rfl) (by kernel_rfl) (by rfl) ?_ hS rfl ?_
 rotate_left
 ·intro w' hw
  go_simp
  try with_reducible rfl
 simp only [nz]
 refine hs_t 30 0 (?_) rfl (by kernel_rfl) (by kernel_rfl) (by kernel_rfl) (by rfl) ?_ hS rfl ?_
 rotate_left
 ·intro w' hw
  go_simp
  try with_reducible rfl
 simp only [nz]
 refine hs_done (by kernel_rfl) ?_
 have HB := hide (B.trans (hS.mono B.size))
 clear hre hk B sb c0 c1 ct cH cH1
 go_wp2_with fail
 go_ret
 exact ⟨rfl, HB.out⟩
theorem ex_bin {P : Program} {o : Oper} {a : Act} {w : World} {op : BinOp} {t t2 : TypeId} {x y : Operand} {u v : Array Value} {r : Value} (ho : o.op = .binOp op t x y t2) (hx : a.eval x = .agg u) (hy : a.eval y = .agg v) (hm : P.eqGuardType P.depth t = false) (hr : (binOp op t (.agg u) (.agg v)).run P w = .ok r w) : (execOp a.eval o).run P w = .ok (.value r) w := by
 unfold execOp
 simp only [ho, hx, hy, Sem.run_bind, run_eqGuard_agg w op t x y u v hm, Result.andThen_ok, hr, Sem.run_pure]
theorem Ev_eql (x : Ev) (hx : x.ok) (w : World) : (binOp .eql 25 (.agg x.cells.toArray) (.agg x.cells.toArray)).run Tryz.prog w = .ok (.bool true) w := by
 rw [run_eql_struct, Ev.eq10 x x hx hx w, Ev.B_iff.2 rfl]; rfl
theorem build_byte (y : Int) (w : World) : (Instr.buildSlice 59 1 #[(0, .int .u8 y)]).run Tryz.prog w = .ok (.slice (some ⟨w.heap.size, 0, none⟩) 1 1) (w.alloc (.cells #[.int .u8 y] 5)) := by kernel_rfl
theorem exec_bsB {o : Oper} {a : Act} {w : World} {x : Operand} {y : Int} (ho : o.op = .buildSlice 59 1 #[(0, x)]) (hx : a.eval x = .int .u8 y) : (execOp a.eval o).run Tryz.prog w = .ok (.value (.slice (some ⟨w.heap.size, 0, none⟩) 1 1)) (w.alloc (.cells #[.int .u8 y] 5)) := by
 unfold execOp
 simp [ho, hx, build_byte]
theorem byte_row {y : Int} (h0 : 0 ≤ y) (h1 : y < 256) (w : World) : RowAt (w.alloc (.cells #[.int .u8 y] 5)) (some ⟨w.heap.size, 0, none⟩) [y] :=
 ⟨by unfold maxLen; simp, fun z hz => by rw [List.mem_singleton.1 hz]; exact ⟨h0, h1⟩, .inr ⟨w.heap.size, 0, rfl, by simp, range_new w #[.int .u8 y] 5⟩⟩
set_option maxRecDepth 100000 in
set_option maxHeartbeats 2000000 in
theorem xeput_any (al : Option Addr) (cap : Nat) (bs : List Int) (e : Ev) (w : World) (h : RowAt w al bs) (hb : bs.length ≤ 100000) (he : e.ok) (hs : e.s.size ≤ 100000) :
  Calls Tryz.prog 18 #[.slice al bs.length cap, .agg e.cells.toArray] w fun en w' => ∃ v, en = .returned v ∧ Mine w' w.heap.size v (bs ++ evL e) ∧ Below w.heap.size w w' := by
 obtain ⟨q1, q2, q3⟩ := evL_len he hs
 have cp := fun w0 (h0 : RowAt w0 al bs) => refPut_any al cap bs e.n w0 h0 (by omega) he.nh
 obtain ⟨B1, r1, sA⟩ := boxed_new w e.cells 25
 have c0 : (w.alloc (.cells e.cells.toArray 25)).cell? ⟨w.heap.size, 0, none⟩ = some (.int .i64 e.n) := by have := r1 0 _ rfl; rwa [Nat.zero_add] at this
 have c1 : (w.alloc (.cells e.cells.toArray 25)).cell? ⟨w.heap.size, 1, none⟩ = some (.string e.s) := by have := r1 1 _ rfl; rwa [Nat.zero_add] at this
 have ct : (w.alloc (.cells e.cells.toArray 25)).rangeAt w.heap.size 2 (v8 e.t) := fun j y hy => by
  have := r1 (j + 2) y hy
  rw [show 0 + (j + 2) = 2 + j by omega] at this
  exact this
 have hrow := h.below B1
 have HE : Hid (bs ++ evL e = bs ++ putL e.n ++ textL e.s ++ e.t) := hide (by unfold evL; simp only [List.append_assoc])
 have htl := he.tl
 have htb := he.tb
 obtain ⟨en, hen⟩ : ∃ x, e.n = x := ⟨_, rfl⟩
 obtain ⟨es, hes⟩ : ∃ x, e.s = x := ⟨_, rfl⟩
 obtain ⟨et, het⟩ : ∃ x, e.t = x := ⟨_, rfl⟩
 rw [hen, hes, het] at HE
 rw [hen] at c0 q1
 rw [hes] at c1 q2 hs
 rw [het] at ct htl htb
 simp only [hen] at cp
 clear hen hes het r1 h
 obtain ⟨EL, hEL⟩ : ∃ l, Hid (bs ++ evL e = l) := ⟨_, hide rfl⟩
 rw [hEL.out] at HE ⊢
 obtain ⟨q, hq⟩ : ∃ q, Hid (e.cells = q) := ⟨_, hide rfl⟩
 rw [hq.out] at B1 sA c0 c1 ct hrow ⊢
 clear hq hEL q3 he
 obtain ⟨z1, hz1⟩ : ∃ z, Hid (bs ++ putL en = z) := ⟨_, hide rfl⟩
 have hz1l : z1.length ≤ 100009 := by rw [← hz1.out, List.length_append]; omega
 simp only [hz1.out] at cp HE
 obtain ⟨zz, hzz⟩ : ∃ z, Hid (z1 ++ textL es = z) := ⟨_, hide rfl⟩
 have hzl : zz.length ≤ 200018 := by rw [← hzz.out, List.length_append]; omega
 rw [hzz.out] at HE
 go_enter Tryz.func18, Tryz.ntmps18
 go_upto_region 1 with fail
 have hdr : Below (w.alloc (.cells q.toArray 25)).heap.size (w.alloc (.cells q.toArray 25)) (w.alloc (.cells q.toArray 25)).drew := (Below.refl _ _).drew
 have B1 := B1.trans (hdr.mono B1.size)
 have c0 := (hdr.cell (p := ⟨w.heap.size, 0, none⟩) sA).trans c0
 have c1 := (hdr.cell (p := ⟨w.heap.size, 1, none⟩) sA).trans c1
 have ct := range_below ct hdr sA
 have hrow := hrow.below hdr
 have sA := Nat.lt_of_lt_of_le sA hdr.size
 refine hs_begin (S := (Below (w.alloc (.cells q.toArray 25)).drew.heap.size (w.alloc (.cells q.toArray 25)).drew)) 8 rfl (by kernel_rfl) ?_
 obtain ⟨w8, hw8⟩ : ∃ W, (w.alloc (.cells q.toArray 25)).drew = W := ⟨_, rfl⟩
 rw [hw8] at B1 c0 c1 ct hrow sA ⊢
 clear hdr hw8
 have HB1 := hide B1
 obtain ⟨A, hA⟩ : ∃ A, w.heap.size = A := ⟨_, rfl⟩
 rw [hA] at c0 c1 ct sA
 simp only [hA]
 have hAw : w.heap.size ≤ A := Nat.le_of_eq hA
 clear hA B1
 have hS : (Below w8.heap.size w8) w8 := Below.refl _ _
 refine hs_t 0 6 (?_) rfl (by kernel_rfl) (by kernel_rfl) (by kernel_rfl) (by rfl) ?_ hS rfl ?_
 rotate_left
 ·intro w' hw
  go_simp
  try with_reducible rfl
 simp only [nz]
 refine hs_t 1 7 (?_) rfl (by kernel_rfl) (by kernel_rfl) (by kernel_rfl) (by rfl) ?_ hS rfl ?_
 rotate_left
 ·intro w' hw
  go_simp
  try with_reducible rfl
 simp only [nz]
 refine hs_t 2 8 (.int .i64 en) rfl (by kernel_rfl) (by kernel_rfl) (by kernel_rfl) (by rfl) (fun w' hw => pl_one rfl rfl ((hw.cell (p := ⟨A, 0, none⟩) sA).trans c0) Tryz.underlying3 rfl) hS rfl ?_
 simp only [nz]
 refine hs_t 4 10 (?_) rfl (by kernel_rfl) (by kernel_rfl) (by kernel_rfl) (by rfl) ?_ hS rfl ?_
 rotate_left
 ·intro w' hw
  go_simp
  try with_reducible rfl
 simp only [nz]
 refine hs_t 5 11 (.string es) rfl (by kernel_rfl) (by kernel_rfl) (by kernel_rfl) (by rfl) (fun w' hw => pl_one rfl rfl ((hw.cell (p := ⟨A, 1, none⟩) sA).trans c1) Tryz.underlying9 rfl) hS rfl ?_
 simp only [nz]
 refine hs_call (i := 3) (d := some 9) rfl (by kernel_rfl) (by rfl) (by go_simp; first | done | exact ⟨rfl, rfl⟩ | with_reducible rfl) rfl ?_
 refine (cp w8 hrow).mono ?_
 rintro _ w9 ⟨v9, rfl, m9, hb9⟩
 have hS : (Below w8.heap.size w8) w9 := hS.trans (hb9.mono hS.size)
 obtain ⟨a9, cap9, rfl, -, -, row9⟩ := m9.rowAt (by unfold maxLen; omega)
 refine ⟨_, rfl, hS, ?_⟩
 simp only [nz]
 refine hs_call (i := 6) (d := some 12) rfl (by kernel_rfl) (by rfl) (by go_simp; first | done | exact ⟨rfl, rfl⟩ | with_reducible rfl) rfl ?_
 refine (refPutText_any a9 cap9 _ es w9 row9 (by omega) (by omega)).mono ?_
 rintro _ wa ⟨va, rfl, ma, hba⟩
 have ma : Mine wa w9.heap.size va zz := by rw [← hzz.out]; exact ma
 have hS : (Below w8.heap.size w8) wa := hS.trans (hba.mono hS.size)
 refine ⟨_, rfl, hS, ?_⟩
 simp only [nz]
 refine hs_t 7 0 (?_) rfl (by kernel_rfl) (by kernel_rfl) (by kernel_rfl) (by rfl) ?_ hS rfl ?_
 rotate_left
 ·intro w' hw
  go_simp
  try with_reducible rfl
 simp only [nz]
 refine hs_done (by kernel_rfl) ?_
 have ct := range_below ct hS sA
 have sA9 : A < w9.heap.size := Nat.lt_of_lt_of_le sA hb9.size
 have hBa := hba.size
 have HB0 := hide (HB1.out.trans (hS.mono HB1.out.size))
 have hB9 : w.heap.size ≤ w9.heap.size := Nat.le_trans HB1.out.size hb9.size
 obtain ⟨B, hB⟩ : ∃ B, w9.heap.size = B := ⟨_, rfl⟩
 rw [hB] at ma sA9 hBa hB9
 have HC0 : Hid (Mine wa B va (zz ++ et.take 0) ∧ Below B wa wa) := hide ⟨by rw [List.take_zero, List.append_nil]; exact ma, Below.refl _ _⟩
 clear ma hb9 m9 hba hS c0 c1 cp hrow row9 hB HB1
 go_wp2_with fail
 go_loopw [0, 5] (fun ov iv wr => ∃ k : Nat, k ≤ 16 ∧ iv = .int .i64 (k : Int) ∧ Hid (Mine wr B ov (zz ++ et.take k) ∧ Below B wa wr)) (fun _ iv _ => 16 - (intOf iv).toNat)
 case atStart => exact ⟨0, by omega, rfl, HC0⟩
 case round =>
  clear HC0
  obtain ⟨k, hk, rfl, HK⟩ := hrel
  obtain ⟨vk, rfl⟩ : ∃ v, v = u0 := ⟨_, rfl⟩
  by_cases hlt : k < 16
  ·have k1 : (k : Int) < 16 := by omega
   have hkx : k < et.length := by omega
   obtain ⟨y, hyy⟩ : ∃ y, et[k] = y := ⟨_, rfl⟩
   have hb0 := htb _ (List.getElem_mem hkx)
   have HT : Hid (et.take (k + 1) = et.take k ++ [et[k]]) := hide (by rw [List.take_add_one, List.getElem?_eq_getElem hkx]; rfl)
   have hy : wr.cell? ⟨A, 2 + k, none⟩ = some (.int .u8 et[k]) := by
    have := range_below ct HK.out.2 sA9 k (.int .u8 et[k]) (by simp [v8, List.getElem?_eq_getElem hkx])
    exact this
   rw [hyy] at hb0 HT hy
   clear hyy
   have rowb := byte_row hb0.1 hb0.2 wr
   have hbw : Below wr.heap.size wr (wr.alloc (.cells #[.int .u8 y] 5)) := (Below.refl _ _).alloc (Nat.le_refl _) _
   have mb := HK.out.1.below hbw
   have hBr : B ≤ wr.heap.size := Nat.le_trans hBa HK.out.2.size
   have hbB : B ≤ (wr.alloc (.cells #[.int .u8 y] 5)).heap.size := Nat.le_trans hBr hbw.size
   go_upto_region 5 with fail
   try simp only [Act.put]
   refine pl_begin ?_
   refine pl_t 17 (?_) (by rfl) ?_ rfl ?_
   rotate_left
   ·go_simp
    try with_reducible rfl
   simp only [nz]
   refine pl_t 18 (?_) (by rfl) ?_ rfl ?_
   rotate_left
   ·go_simp
    try with_reducible rfl
   simp only [nz]
   refine pl_t 19 (.pointer (some ⟨A, 2, none⟩)) (by rfl) (by go_simp; first | done | with_reducible rfl) rfl ?_
   simp only [nz]
   refine pl_t 20 (.pointer (some ⟨A, 2 + k, none⟩)) (by rfl) (by go_simp <;> (try simp [*])) rfl ?_
   simp only [nz]
   refine pl_t 21 (.int .u8 y) (by rfl) (pl_one rfl rfl hy Tryz.underlying5 rfl) rfl ?_
   simp only [nz]
   refine pl_run (d := some 22) (v := .slice (some ⟨wr.heap.size, 0, none⟩) 1 1) (w' := wr.alloc (.cells #[.int .u8 y] 5)) (by rfl) (exec_bsB rfl rfl) rfl ?_
   simp only [nz]
   refine pl_runX (d := some 23) (by rfl) rfl (ex_appM (ys := [y]) rfl rfl rfl rfl mb rowb (by rw [List.length_append, List.length_take, List.length_singleton]; omega) hbB) ?_
   rintro v6 w6 ⟨m6, b6⟩
   simp only [nz]
   refine pl_t 0 (?_) (by rfl) ?_ rfl ?_
   rotate_left
   ·go_simp
    try with_reducible rfl
   simp only [nz]
   refine pl_nil ?_
   have HD : Hid (Mine w6 B v6 (zz ++ et.take (k + 1)) ∧ Below B wa w6) := hide ⟨by rw [HT.out, ← List.append_assoc]; exact m6, HK.out.2.trans ((hbw.mono hBr).trans b6)⟩
   clear m6 b6 mb rowb hbw hy HT HK hb0
   go_wp2_with fail
   go_roundw
   case rel => exact ⟨k + 1, by omega, by go_num, HD⟩
   case measure => simp [intOf]; omega
  ·obtain rfl : k = 16 := by omega
   have HE2 : Hid (Mine wr w.heap.size vk EL ∧ Below w.heap.size w wr) := hide (by
    have h1 := HK.out.1
    rw [List.take_of_length_le (by rw [htl]; exact Nat.le_refl _), ← HE.out] at h1
    exact ⟨h1.mono' hB9, HB0.out.trans (HK.out.2.mono hB9)⟩)
   clear HK ct hlt
   go_wp2_with fail
   go_ret
   exact ⟨vk, rfl, HE2.out⟩
structure GI (wd wr : World) (A : Nat) (x1 : Int) (s1 : ByteArray) (r : List Int) (k : Nat) : Prop where
 os : wr.os = wd.os
 tape : wr.tape = wd.tape
 output : wr.output = wd.output
 size : wr.heap.size = wd.heap.size
 other : ∀ b, b ≠ A → wr.heap[b]? = wd.heap[b]?
 c0 : wr.cell? ⟨A, 0, none⟩ = some (.int .i64 x1)
 c1 : wr.cell? ⟨A, 1, none⟩ = some (.string s1)
 cs : ∀ j, j < k → wr.cell? ⟨A, 2 + j, none⟩ = some (.int .u8 (r.getD j 0))
 th : wr.there A 0 18
theorem GI.step {wd wr : World} {A : Nat} {x1 : Int} {s1 : ByteArray} {r : List Int} {k : Nat} (h : GI wd wr A x1 s1 r k) (hk : k < 16) {y : Int} (hy : r.getD k 0 = y) : GI wd (wr.setCells A (2 + k) [.int .u8 y]) A x1 s1 r (k + 1) := by
 have hg := gb_setsR wr A [.int .u8 y] (2 + k)
 have ht : wr.there A (2 + k) 1 := there_partO h.th (by omega)
 have hsame : (wr.setCells A (2 + k) [.int .u8 y]).rangeAt A (2 + k) [.int .u8 y] := World.rangeAt_setCells_same wr A (2 + k) [.int .u8 y] ht
 have hap : ∀ j v, j ≠ 2 + k → wr.cell? ⟨A, j, none⟩ = some v → (wr.setCells A (2 + k) [.int .u8 y]).cell? ⟨A, j, none⟩ = some v := fun j v hj hv => by
  have h1 : wr.rangeAt A j [v] := fun i u hu => by
   rcases i with _ | i
   ·simp at hu; subst hu; exact hv
   ·simp at hu
  have h2 := World.rangeAt_setCells_apart h1 A (2 + k) [.int .u8 y] (by simp only [List.length_singleton]; omega)
  exact h2 0 v rfl
 refine ⟨hg.os.trans h.os, hg.tape.trans h.tape, hg.output.trans h.output, by rw [size_sets]; exact h.size, fun b hb => (blk_sets hb).trans (h.other b hb), hap 0 _ (by omega) h.c0, hap 1 _ (by omega) h.c1, fun j hj => ?_, World.there_setCells h.th _ _ _⟩
 by_cases e : j = k
 ·subst e
  rw [hy]
  exact hsame 0 _ rfl
 ·exact hap _ _ (by omega) (h.cs j (by omega))
theorem GI.low {wd wr : World} {A : Nat} {x1 : Int} {s1 : ByteArray} {r : List Int} {k : Nat} (h : GI wd wr A x1 s1 r k) : Below A wd wr := ⟨h.os, h.tape, h.output, Nat.le_of_eq h.size.symm, fun i hi => h.other i (by omega)⟩
theorem GI.tag {wd wr : World} {A : Nat} {x1 : Int} {s1 : ByteArray} {r : List Int} (h : GI wd wr A x1 s1 r 16) (hr : r.length = 16) : wr.rangeAt A 0 (Ev.cells ⟨x1, s1, r⟩) := fun j v hv => by
 rw [Nat.zero_add]
 rcases j with _ | _ | j
 ·simp [Ev.cells] at hv; subst hv; exact h.c0
 ·simp [Ev.cells] at hv; subst hv; exact h.c1
 ·have hv : (v8 r)[j]? = some v := hv
  have hj : j < r.length := by have := (List.getElem?_eq_some_iff.1 hv).1; rwa [v8_length] at this
  have := h.cs j (by omega)
  rw [show j + 2 = 2 + j by omega]
  rw [this]
  simp only [v8, List.getElem?_map, List.getElem?_eq_getElem hj, Option.map_some, Option.some.injEq] at hv
  rw [← hv, List.getD_eq_getElem?_getD, List.getElem?_eq_getElem hj]
  rfl
theorem rawS_full {rest : List Int} {e : Int} (h : (rawS rest e 16).2.2 = 0) : (rawS rest e 16).1.length = 16 := (rawS_16 rest e).2 h
theorem doneE_0 {r : List Int} {e : Int} (h : doneE r e = 0) : e = 0 := by
 unfold doneE at h
 by_cases h0 : e = 0
 ·exact h0
 ·rw [if_neg h0] at h; exact h
set_option maxRecDepth 100000 in
set_option maxHeartbeats 2000000 in
theorem xeget_any (sb : ByteArray) (hs : sb.size ≤ 40000) (w : World) : Calls Tryz.prog 16 #[.string sb] w fun en w' => en = .returned (.tuple #[.agg (getE (strL sb)).1.cells.toArray, .int .i64 (getE (strL sb)).2]) ∧ Below w.heap.size w w' := by
 obtain ⟨zc, hzc, hzl, hz1, hzr, hb0⟩ : ∃ z : List Value, Hid (z = evZ.cells) ∧ z.length = 18 ∧ (∀ v ∈ z, v.oneCell' = true) ∧ (∀ w : World, (zeroValue 25).run Tryz.prog w = .ok (.agg z.toArray) w) ∧ ∀ w : World, (Instr.build 25 #[]).run Tryz.prog w = .ok (.agg z.toArray) w := ⟨_, hide rfl, rfl, EvE.one evZ, zero_e0, build_e0⟩
 have hiz : (Tryz.prog.info? 25).map (·.size) = some zc.length := by rw [hzl]; exact isz18
 obtain ⟨cap, hcv⟩ : ∃ cap : World → Nat, ∀ w0, ∃ w1, (convert 9 59 (.string sb)).run Tryz.prog w0 = .ok (.slice (some ⟨w0.heap.size, 0, none⟩) (strL sb).length (cap w0)) w1 ∧ RowAt w1 (some ⟨w0.heap.size, 0, none⟩) (strL sb) ∧ Below w0.heap.size w0 w1 := ⟨fun w0 => (bytes_of sb (by omega) w0).choose, fun w0 => (bytes_of sb (by omega) w0).choose_spec⟩
 have hll : (strL sb).length ≤ 40000 := by rw [strL_length]; exact hs
 have hbz : Bs (strL sb) := strL_byte sb
 obtain ⟨zs, hzs⟩ : ∃ z, Hid (strL sb = z) := ⟨_, hide rfl⟩
 simp only [hzs.out] at hcv
 rw [hzs.out] at hll hbz ⊢
 have HBZ := hide hbz
 clear hbz
 obtain ⟨hB1, hr1, hs1⟩ := boxed_new w zc 25
 have ht1 := there_newN w zc.toArray 25 (n := 18) (by simp [hzl])
 have HG : Hid (∀ r, rawS (textS (numS zs 0 64).2.1 (numS zs 0 64).2.2 4194304).2.1 (textS (numS zs 0 64).2.1 (numS zs 0 64).2.2 4194304).2.2 16 = r → evS zs 0 = (⟨(numS zs 0 64).1, strOf (textS (numS zs 0 64).2.1 (numS zs 0 64).2.2 4194304).1, padN 16 r.1⟩, r.2.1, r.2.2)) := hide (fun r hr => by subst hr; rfl)
 obtain ⟨G, hG⟩ : ∃ G, Hid (getE zs = G) := ⟨_, hide rfl⟩
 rw [hG.out]
 go_enter Tryz.func16, Tryz.ntmps16
 go_upto_region 0 with fail
 try simp only [Act.put]
 refine pl_begin ?_
 refine pl_run (d := some 2) (v := .pointer (some ⟨w.heap.size, 0, none⟩)) (w' := w.alloc (.cells zc.toArray 25)) (by rfl) (ex_alloc rfl (hzr _)) rfl ?_
 simp only [nz]
 refine pl_t 3 (?_) (by rfl) ?_ rfl ?_
 rotate_left
 ·go_simp
  try with_reducible rfl
 simp only [nz]
 refine pl_nil ?_
 obtain ⟨W1, hW1⟩ : ∃ W, w.alloc (.cells zc.toArray 25) = W := ⟨_, rfl⟩
 rw [hW1] at hB1 hr1 hs1 ht1 ⊢
 clear hW1 hr1
 obtain ⟨W2, hcv1, row2, hb2⟩ := hcv W1
 go_upto_region 1 with fail
 try simp only [Act.put]
 refine pl_begin ?_
 refine pl_t 9 (?_) (by rfl) ?_ rfl ?_
 rotate_left
 ·go_simp
  try with_reducible rfl
 simp only [nz]
 refine pl_run (d := some 10) (v := .slice (some ⟨W1.heap.size, 0, none⟩) zs.length (cap W1)) (w' := W2) (by rfl) (ex_conv rfl rfl hcv1) rfl ?_
 simp only [nz]
 refine pl_call (d := some 11) (by rfl) (by go_simp; first | done | exact ⟨rfl, rfl⟩ | with_reducible rfl) rfl ?_
 refine (refRead_any _ (cap W1) zs W2 row2 hll).mono ?_
 rintro _ W3 ⟨R, rfl, hRw, S0, hb3⟩
 refine ⟨_, rfl, ?_⟩
 simp only [nz]
 refine pl_t 4 (?_) (by rfl) ?_ rfl ?_
 rotate_left
 ·go_simp
  try with_reducible rfl
 simp only [nz]
 refine pl_nil ?_
 have z2 := hb2.size
 have z3 := hb3.size
 have hB3 := hB1.trans ((hb2.trans (hb3.mono z2)).mono hB1.size)
 have tT3 := there_below (there_below ht1 hb2 hs1) hb3 (by omega)
 obtain ⟨D, hD⟩ : ∃ D, Hid (W2.heap.size = D) := ⟨_, hide rfl⟩
 rw [hD.out] at S0
 have hDR : D ≤ R := by rw [← hD.out]; exact hRw
 have hRlt : R < W3.heap.size := by obtain ⟨_, _, hR, _⟩ := S0; exact hR.1
 have X0 : XR W3 D R (zs, 0) := ⟨S0, hRlt, hDR⟩
 obtain ⟨hB4, rA, sA⟩ := boxed_new W3 zc 25
 have tA := there_newN W3 zc.toArray 25 (n := 18) (by simp [hzl])
 go_upto_region 2 with fail
 try simp only [Act.put]
 refine pl_begin ?_
 refine pl_run (d := some 5) (v := .pointer (some ⟨W3.heap.size, 0, none⟩)) (w' := W3.alloc (.cells zc.toArray 25)) (by rfl) (ex_alloc rfl (hzr _)) rfl ?_
 simp only [nz]
 refine pl_nil ?_
 have S3 := X0.below hB4
 have B3' := hB3.trans (hB4.mono hB3.size)
 have tT := there_below tT3 hB4 (by omega)
 obtain ⟨w3, hw3⟩ : ∃ W, W3.alloc (.cells zc.toArray 25) = W := ⟨_, rfl⟩
 rw [hw3] at rA sA tA S3 B3' tT ⊢
 clear hw3
 obtain ⟨A, hA⟩ : ∃ A, W3.heap.size = A := ⟨_, rfl⟩
 rw [hA] at rA sA tA hRlt
 simp only [hA]
 have hAR : A ≠ R := by omega
 have hTA : w.heap.size < A := by omega
 have hTR : w.heap.size < R := by omega
 have sT : w.heap.size < w3.heap.size := by omega
 rw [hzc.out, evZ_cells] at rA
 clear hA hB3 hB1 hb2 hb3 z2 z3 hs1 ht1 tT3 S0 X0 hB4 row2 hcv1 hcv hRw hzr
 obtain ⟨⟨x1, y1, z1⟩, hn1⟩ : ∃ p, Hid (numS zs 0 64 = p) := ⟨_, hide rfl⟩
 go_upto_region 3 with fail
 try simp only [Act.put]
 refine pl_begin ?_
 refine pl_t 12 (?_) (by rfl) ?_ rfl ?_
 rotate_left
 ·go_simp
  try with_reducible rfl
 simp only [nz]
 refine pl_call (d := some 13) (by rfl) (by go_simp; first | done | exact ⟨rfl, rfl⟩ | with_reducible rfl) rfl ?_
 refine (xnumS D R 64 (zs, 0) w3 S3).mono ?_
 rintro _ w4 ⟨hh, S4, g4⟩
 have hh1 : xnuS 64 (zs, 0) = (x1, y1, z1) := hn1.out
 rw [hh1] at hh S4
 subst hh
 refine ⟨_, rfl, ?_⟩
 simp only [nz]
 refine pl_t 14 (.pointer (some ⟨A, 0, none⟩)) (by rfl) (by go_simp <;> (try simp [*])) rfl ?_
 simp only [nz]
 refine pl_store (w' := w4.setCells A 0 [.int .i64 x1]) (by rfl) (ex_put1 (n := 18) rfl rfl rfl (there_gbR tA g4 sA hAR) (by decide) iszI rfl rfl) rfl ?_
 refine pl_nil ?_
 have rA4 := range_gbR rA g4 sA hAR
 have tA4 := there_gbR tA g4 sA hAR
 have rA5 := range_set rA4 0 (.int .i64 x1)
 have B4 := low_gb B3' g4 (by omega) (by omega)
 have tT4 := there_gbR tT g4 (by omega) (by omega)
 have z4 := g4.size
 have hb5 : Below A w4 (w4.setCells A 0 [.int .i64 x1]) := below_sets (Nat.le_refl _) _ _ _ (Below.refl _ _)
 have S5 := S4.low hb5 hRlt
 have tA5 : (w4.setCells A 0 [.int .i64 x1]).there A 0 18 := World.there_setCells tA4 _ _ _
 have B5 := B4.trans (hb5.mono (by omega))
 have tT5 := there_below tT4 hb5 (by omega)
 have sA5 : A < (w4.setCells A 0 [.int .i64 x1]).heap.size := by rw [size_sets]; omega
 have rA5 : (w4.setCells A 0 [.int .i64 x1]).rangeAt A 0 (.int .i64 x1 :: .string ⟨#[]⟩ :: v8 (List.replicate 16 (0 : Int))) := rA5
 obtain ⟨w5, hw5⟩ : ∃ W, w4.setCells A 0 [.int .i64 x1] = W := ⟨_, rfl⟩
 rw [hw5] at rA5 tA5 S5 B5 tT5 sA5 ⊢
 clear hw5 rA rA4 tA tA4 S4 S3 g4 B3' B4 tT tT4 sA sT z4 hb5
 obtain ⟨⟨x2, y2, z2⟩, hn2⟩ : ∃ p, Hid (textS y1 z1 4194304 = p) := ⟨_, hide rfl⟩
 obtain ⟨s1, hs1⟩ : ∃ s, Hid (strOf x2 = s) := ⟨_, hide rfl⟩
 go_upto_region 4 with fail
 try simp only [Act.put]
 refine pl_begin ?_
 refine pl_t 15 (?_) (by rfl) ?_ rfl ?_
 rotate_left
 ·go_simp
  try with_reducible rfl
 simp only [nz]
 refine pl_call (d := some 16) (by rfl) (by go_simp; first | done | exact ⟨rfl, rfl⟩ | with_reducible rfl) rfl ?_
 refine (xtextS D R 4194304 (y1, z1) w5 S5).mono ?_
 rintro _ w6 ⟨hh, S6, g6⟩
 have hh1 : xtxS 4194304 (y1, z1) = (s1, y2, z2) := by show (strOf (textS y1 z1 4194304).1, (textS y1 z1 4194304).2) = _; rw [hn2.out, hs1.out]
 rw [hh1] at hh S6
 subst hh
 refine ⟨_, rfl, ?_⟩
 simp only [nz]
 refine pl_t 17 (.pointer (some ⟨A, 1, none⟩)) (by rfl) (by go_simp <;> (try simp [*])) rfl ?_
 simp only [nz]
 refine pl_store (w' := w6.setCells A 1 [.string s1]) (by rfl) (ex_put1 (n := 18) rfl rfl rfl (there_gbR tA5 g6 sA5 hAR) (by decide) iszS9 rfl rfl) rfl ?_
 refine pl_nil ?_
 have rA6 := range_gbR rA5 g6 sA5 hAR
 have tA6 := there_gbR tA5 g6 sA5 hAR
 have rA7 := range_set rA6 1 (.string s1)
 have B6 := low_gb B5 g6 (by omega) (by omega)
 have tT6 := there_gbR tT5 g6 (by omega) (by omega)
 have z6 := g6.size
 have hb7 : Below A w6 (w6.setCells A 1 [.string s1]) := below_sets (Nat.le_refl _) _ _ _ (Below.refl _ _)
 have S7 := S6.low hb7 hRlt
 have tA7 : (w6.setCells A 1 [.string s1]).there A 0 18 := World.there_setCells tA6 _ _ _
 have B7 := B6.trans (hb7.mono (by omega))
 have tT7 := there_below tT6 hb7 (by omega)
 have sA7 : A < (w6.setCells A 1 [.string s1]).heap.size := by rw [size_sets]; omega
 have rA7 : (w6.setCells A 1 [.string s1]).rangeAt A 0 (.int .i64 x1 :: .string s1 :: v8 (List.replicate 16 (0 : Int))) := rA7
 obtain ⟨w7, hw7⟩ : ∃ W, w6.setCells A 1 [.string s1] = W := ⟨_, rfl⟩
 rw [hw7] at rA7 tA7 S7 B7 tT7 sA7 ⊢
 clear hw7 rA5 rA6 tA5 tA6 S5 S6 g6 B5 B6 tT5 tT6 sA5 z6 hb7
 obtain ⟨⟨r1, y3, z3⟩, hrw⟩ : ∃ p, Hid (rawS y2 z2 16 = p) := ⟨_, hide rfl⟩
 have hfull : Hid (z3 = 0 → r1.length = 16) := hide (fun h => by have := rawS_full (rest := y2) (e := z2) (by rw [hrw.out]; exact h); rw [hrw.out] at this; exact this)
 go_upto_region 5 with fail
 try simp only [Act.put]
 refine pl_begin ?_
 refine pl_t 18 (?_) (by rfl) ?_ rfl ?_
 rotate_left
 ·go_simp
  try with_reducible rfl
 simp only [nz]
 refine pl_call (d := some 19) (by rfl) (by go_simp; first | done | exact ⟨rfl, rfl⟩ | with_reducible rfl) rfl ?_
 refine (refRaw_any (B := D) R y2 z2 16 w7 S7.st).mono ?_
 rintro _ w9 ⟨v9, rfl, m9, S9, g9⟩
 rw [hrw.out] at m9 S9
 have S9 : XR w9 D R (y3, z3) := S7.gb g9 S9
 refine ⟨_, rfl, ?_⟩
 simp only [nz]
 refine pl_t 6 (?_) (by rfl) ?_ rfl ?_
 rotate_left
 ·go_simp
  try with_reducible rfl
 simp only [nz]
 refine pl_nil ?_
 have rA9 := range_gbR rA7 g9 sA7 hAR
 have tA9 := there_gbR tA7 g9 sA7 hAR
 have tT9 := there_gbR tT7 g9 (by omega) (by omega)
 have B9 := low_gb B7 g9 (by omega) (by omega)
 have sA9 := Nat.lt_of_lt_of_le sA7 g9.size
 have hm9 : Mine w9 (A + 1) v9 r1 := m9.mono' (by omega)
 clear rA7 tA7 tT7 B7 S7 m9
 have HEV := HG.out _ (by rw [hn1.out, hn2.out, hrw.out])
 rw [hn1.out, hn2.out] at HEV
 simp only [hs1.out] at HEV
 have HV := hide HEV
 have HOK : Hid (Ev.ok ⟨x1, s1, padN 16 r1⟩) := hide (by have := evS_ok HBZ.out; rw [HEV] at this; exact this)
 have hGd : Hid (G = if doneE y3 z3 = 0 then (⟨x1, s1, padN 16 r1⟩, 0) else (evZ, doneE y3 z3)) := hide (by
  rw [← hG.out]
  unfold getE
  rw [HV.out])
 clear HEV HG HV hG
 obtain ⟨f, hf⟩ : ∃ f, doneE y3 z3 = f := ⟨_, rfl⟩
 have hfz : Hid (f = 0 → r1.length = 16) := hide (fun h => hfull.out (doneE_0 (hf.trans h)))
 rw [hf] at hGd
 go_upto_region 6 with fail
 try simp only [Act.put]
 refine pl_begin ?_
 refine pl_t 20 (?_) (by rfl) ?_ rfl ?_
 rotate_left
 ·go_simp
  try with_reducible rfl
 simp only [nz]
 refine pl_call (d := some 21) (by rfl) (by go_simp; first | done | exact ⟨rfl, rfl⟩ | with_reducible rfl) rfl ?_
 refine (xdoneS D R (y3, z3) w9 S9).mono ?_
 rintro _ wd ⟨rfl, hbd⟩
 refine ⟨_, rfl, ?_⟩
 simp only [nz]
 refine pl_t 7 (?_) (by rfl) ?_ rfl ?_
 rotate_left
 ·go_simp
  try with_reducible rfl
 simp only [nz]
 refine pl_nil ?_
 simp only [hf]
 have rAd := range_below rA9 hbd sA9
 have tAd := there_below tA9 hbd sA9
 have tTd := there_below tT9 hbd (by omega)
 have Bd := B9.trans (hbd.mono B9.size)
 have sAd := Nat.lt_of_lt_of_le sA9 hbd.size
 have hmd := hm9.below hbd
 clear hf S9 rA9 tA9 tT9 B9 sA9 hm9 hbd g9
 by_cases hf0 : f = 0
 rotate_left
 ·have hfb : (f != 0) = true := by simpa using hf0
  have hr : G = (evZ, f) := by rw [hGd.out, if_neg hf0]
  go_upto_region 8 with fail
  try simp only [Act.put]
  refine pl_begin ?_
  refine pl_t 24 (.agg zc.toArray) (by rfl) (ex_build (parts := []) rfl rfl (hb0 _)) rfl ?_
  simp only [nz]
  refine pl_t 25 (?_) (by rfl) ?_ rfl ?_
  rotate_left
  ·go_simp
   try with_reducible rfl
  simp only [nz]
  refine pl_store (w' := wd.setCells w.heap.size 0 zc) (by rfl) (ex_put (cs := zc.toArray) rfl rfl rfl (by simpa [hzl] using tTd) (by simpa using hiz) (all_one hz1)) rfl ?_
  refine pl_t 3 (?_) (by rfl) ?_ rfl ?_
  rotate_left
  ·go_simp
   try with_reducible rfl
  simp only [nz]
  refine pl_nil ?_
  have hrs := run_loadVar_mid (P := Tryz.prog) (wd.setCells w.heap.size 0 zc) w.heap.size 0 25 zc _ (World.rangeAt_setCells_same wd w.heap.size 0 zc (by rw [hzl]; exact tTd)) Tryz.underlying25 rfl hiz
  have HF : Hid (Ending.returned (.tuple #[.agg zc.toArray, .int .i64 f]) = Ending.returned (.tuple #[.agg G.1.cells.toArray, .int .i64 G.2]) ∧ Below w.heap.size w (wd.setCells w.heap.size 0 zc)) := hide ⟨by rw [hr, ← hzc.out], below_sets (Nat.le_refl _) _ _ _ Bd⟩
  clear rAd tAd tTd Bd hGd hr hmd
  go_wp2_with fail
  refine bodyPost_ret (results_ct rfl _ _ _ rfl hrs) rfl ?_
  exact HF.out
 subst hf0
 have hl16 := hfz.out rfl
 have hr : Hid (G = (⟨x1, s1, padN 16 r1⟩, 0)) := hide (by rw [hGd.out, if_pos rfl])
 have hpad : padN 16 r1 = r1 := by unfold padN; rw [if_pos hl16]
 rw [hpad] at hr HOK
 obtain ⟨a9, c9, rfl, hc9, hm9, row9⟩ := hmd.rowAt (by unfold maxLen; omega)
 obtain ⟨b, off, hab, hbl, hbA, hrow⟩ : ∃ b off, a9 = some ⟨b, off, none⟩ ∧ b < wd.heap.size ∧ b ≠ A ∧ wd.rangeAt b off (v8 r1) := by
  rcases row9.2.2 with h0 | ⟨b, off, e1, e2, e3⟩
  ·exfalso; rw [h0] at hl16; simp at hl16
  ·refine ⟨b, off, e1, e2, ?_, e3⟩
   have := (hmd.1.lt b (by rw [e1]; rfl)).1
   omega
 subst hab
 rw [hl16]
 have hGI : Hid (GI wd wd A x1 s1 r1 0) := hide ⟨rfl, rfl, rfl, rfl, fun _ _ => rfl, by have := rAd 0 _ rfl; rwa [Nat.zero_add] at this, by have := rAd 1 _ rfl; rwa [Nat.zero_add] at this, fun j hj => absurd hj (by omega), tAd⟩
 clear hGd rAd tAd hmd row9 hpad hfull
 go_wp2_with fail
 go_loopw [8] (fun iv wr => ∃ k : Nat, k ≤ 16 ∧ iv = .int .i64 (k : Int) ∧ Hid (GI wd wr A x1 s1 r1 k)) (fun iv _ => 16 - (intOf iv).toNat)
 case atStart => exact ⟨0, by omega, rfl, hGI⟩
 case round =>
  clear hGI
  obtain ⟨k, hk, rfl, HK⟩ := hrel
  by_cases hlt : k < 16
  ·have k1 : (k : Int) < 16 := by omega
   have hkx : k < r1.length := by omega
   obtain ⟨y, hyy⟩ : ∃ y, r1.getD k 0 = y := ⟨_, rfl⟩
   have hy : wr.cell? ⟨b, off + k, none⟩ = some (.int .u8 y) := by
    rw [(cell_block (HK.out.other b hbA)).1]
    exact hrow k _ (by rw [← hyy]; simp [v8, List.getElem?_eq_getElem hkx])
   have HD := hide (HK.out.step hlt hyy)
   clear hyy
   go_upto_region 12 with fail
   try simp only [Act.put]
   refine pl_begin ?_
   refine pl_t 30 (?_) (by rfl) ?_ rfl ?_
   rotate_left
   ·go_simp
    try with_reducible rfl
   simp only [nz]
   refine pl_t 31 (?_) (by rfl) ?_ rfl ?_
   rotate_left
   ·go_simp
    try with_reducible rfl
   simp only [nz]
   refine pl_t 32 (?_) (by rfl) ?_ rfl ?_
   rotate_left
   ·go_simp
    try with_reducible rfl
   simp only [nz]
   refine pl_t 33 (.pointer (some ⟨b, off + k, none⟩)) (by rfl) (by go_simp <;> (try simp [*])) rfl ?_
   simp only [nz]
   refine pl_t 34 (.int .u8 y) (by rfl) (pl_one rfl rfl hy Tryz.underlying5 rfl) rfl ?_
   simp only [nz]
   refine pl_t 35 (.pointer (some ⟨A, 2, none⟩)) (by rfl) (by go_simp; first | done | with_reducible rfl) rfl ?_
   simp only [nz]
   refine pl_t 36 (.pointer (some ⟨A, 2 + k, none⟩)) (by rfl) (by go_simp <;> (try simp [*])) rfl ?_
   simp only [nz]
   refine pl_store (w' := wr.setCells A (2 + k) [.int .u8 y]) (by rfl) (ex_put1 (n := 18) rfl rfl rfl HK.out.th (by omega) isz8 rfl rfl) rfl ?_
   refine pl_nil ?_
   clear hy HK
   go_wp2_with fail
   go_roundw
   case rel => exact ⟨k + 1, by omega, by go_num, HD⟩
   case measure => simp [intOf]; omega
  ·obtain rfl : k = 16 := by omega
   have rQ := HK.out.tag hl16
   have tTr := there_below tTd HK.out.low hTA
   have Br := Bd.trans (HK.out.low.mono (by omega))
   have hql : (Ev.cells ⟨x1, s1, r1⟩).length = 18 := EvE.len _ HOK.out
   have hq1 : ∀ v ∈ Ev.cells ⟨x1, s1, r1⟩, v.oneCell' = true := EvE.one ⟨x1, s1, r1⟩
   have hiq : (Tryz.prog.info? 25).map (·.size) = some (Ev.cells ⟨x1, s1, r1⟩).length := by rw [hql]; exact isz18
   obtain ⟨q, hq⟩ : ∃ q, Hid (Ev.cells ⟨x1, s1, r1⟩ = q) := ⟨_, hide rfl⟩
   rw [hq.out] at rQ hql hq1 hiq
   clear HK hlt hrow hbl
   go_upto_region 13 with fail
   try simp only [Act.put]
   refine pl_begin ?_
   refine pl_t 37 (.agg q.toArray) (by rfl) (ex_mid rfl rfl rQ Tryz.underlying25 rfl hiq) rfl ?_
   simp only [nz]
   refine pl_store (w' := wr.setCells w.heap.size 0 q) (by rfl) (ex_put (cs := q.toArray) rfl rfl rfl (by simpa [hql] using tTr) (by simpa using hiq) (all_one hq1)) rfl ?_
   refine pl_t 3 (?_) (by rfl) ?_ rfl ?_
   rotate_left
   ·go_simp
    try with_reducible rfl
   simp only [nz]
   refine pl_nil ?_
   have hrs := run_loadVar_mid (P := Tryz.prog) (wr.setCells w.heap.size 0 q) w.heap.size 0 25 q _ (World.rangeAt_setCells_same wr w.heap.size 0 q (by rw [hql]; exact tTr)) Tryz.underlying25 rfl hiq
   have HF : Hid (Ending.returned (.tuple #[.agg q.toArray, .int .i64 0]) = Ending.returned (.tuple #[.agg G.1.cells.toArray, .int .i64 G.2]) ∧ Below w.heap.size w (wr.setCells w.heap.size 0 q)) := hide ⟨by rw [hr.out, ← hq.out], below_sets (Nat.le_refl _) _ _ _ Br⟩
   clear rQ tTr Br tTd Bd
   go_wp2_with fail
   refine bodyPost_ret (results_ct rfl _ _ _ rfl hrs) rfl ?_
   exact HF.out
theorem hs_moreV {P : Program} {ops : Array Oper} {Q : Exit → Act → World → Prop} {S S' : World → Prop} (h : ∀ w, S' w → S w) : ∀ (fuel : Nat) (listed : Array Bool) (a : Act) (w : World), HeldS P ops Q S' fuel listed a w → HeldS P ops Q S fuel listed a w
  | 0, _, _, _, k => k
  | fuel + 1, _, _, _, k => ⟨k.1, fun i hi => wpOp_mono (fun a' w' k' => ⟨h w' k'.1, hs_moreV h fuel _ a' w' k'.2⟩) (k.2 i hi)⟩
set_option maxRecDepth 100000 in
set_option maxHeartbeats 4000000 in
theorem envelopeReads_walk (al : Option Addr) (cap : Nat) (bs : List Int) (e : Ev) (sb : ByteArray) (w : World) (hG : Glob w) (hrow : RowAt w al bs) (he : e.ok) : Calls Tryz.prog 4 #[.slice al bs.length cap, .agg e.cells.toArray, .string sb] w fun r w' => r = .returned (.bool true) ∧ Below w.heap.size w w' := by
 obtain ⟨zc, hzl, hzr⟩ : ∃ z : List Value, z.length = 18 ∧ (∀ w : World, (zeroValue 25).run Tryz.prog w = .ok (.agg z.toArray) w) := ⟨_, rfl, zero_e0⟩
 have HG := hide hG
 have hql : e.cells.length = 18 := EvE.len e he
 have hqi : (Tryz.prog.info? 25).map (·.size) = some e.cells.length := by rw [hql]; exact isz18
 obtain ⟨B, rA, sA⟩ := boxed_new w e.cells 25
 have c1 : (w.alloc (.cells e.cells.toArray 25)).cell? ⟨w.heap.size, 1, none⟩ = some (.string e.s) := by have := rA 1 _ rfl; rwa [Nat.zero_add] at this
 have cP0 := fun (hb : bs.length ≤ 2000) (h : e.s.size ≤ 20000) w0 h0 => eput_any al cap bs e w0 h0 (by omega) he (by omega)
 have cX0 := fun (hb : bs.length ≤ 2000) (h : e.s.size ≤ 20000) w0 h0 => xeput_any al cap bs e w0 h0 (by omega) he (by omega)
 have cG0 := fun (h : sb.size ≤ 20000) w0 => eget_any sb (by omega) w0
 have cY0 := fun (h : sb.size ≤ 20000) w0 => xeget_any sb (by omega) w0
 have hgok := getE_ok (strL_byte sb)
 have hrow := hrow.below B
 obtain ⟨⟨g, f⟩, hgf⟩ : ∃ p, Hid (getE (strL sb) = p) := ⟨_, hide rfl⟩
 rw [hgf.out] at hgok
 simp only [hgf.out] at cG0 cY0
 have hgl : g.cells.length = 18 := EvE.len g hgok
 have hgi : (Tryz.prog.info? 25).map (·.size) = some g.cells.length := by rw [hgl]; exact isz18
 have hg1 : ∀ v ∈ g.cells, v.oneCell' = true := EvE.one g
 have heq := fun w0 => Ev_eql g hgok w0
 obtain ⟨qg, hqg⟩ : ∃ q, Hid (g.cells = q) := ⟨_, hide rfl⟩
 rw [hqg.out] at hgl hgi hg1
 simp only [hqg.out] at cG0 cY0 heq
 obtain ⟨EL, hEL⟩ : ∃ l, Hid (bs ++ evL e = l) := ⟨_, hide rfl⟩
 simp only [hEL.out] at cP0 cX0
 obtain ⟨st, hsd⟩ : ∃ s, Hid (strOf EL = s) := ⟨_, hide rfl⟩
 obtain ⟨z, hz⟩ : ∃ z, e.s.size = z := ⟨_, rfl⟩
 obtain ⟨zm, hm⟩ : ∃ z, sb.size = z := ⟨_, rfl⟩
 obtain ⟨bl, hbl⟩ : ∃ z, bs.length = z := ⟨_, rfl⟩
 have HZ0 := hide hz
 have HM := hide hm
 have HBL := hide hbl
 rw [hz, hbl] at cP0 cX0
 rw [hm] at cG0 cY0
 obtain ⟨es, hes⟩ : ∃ x, e.s = x := ⟨_, rfl⟩
 rw [hes] at c1 HZ0
 have HZ := HZ0
 obtain ⟨q, hq⟩ : ∃ q, Hid (e.cells = q) := ⟨_, hide rfl⟩
 rw [hq.out] at hql hqi B rA sA c1 hrow ⊢
 simp only [hq.out] at cP0 cX0
 clear hG hz hm hes he HZ0 hgok hgf hqg hq hEL
 rw [hbl]
 clear hbl
 go_enter Tryz.func4, Tryz.ntmps4
 go_upto_region 1 with fail
 obtain ⟨W, hW⟩ : ∃ W, w.alloc (.cells q.toArray 25) = W := ⟨_, rfl⟩
 rw [hW] at B rA sA c1 hrow ⊢
 clear hW
 obtain ⟨A, hA⟩ : ∃ A, w.heap.size = A := ⟨_, rfl⟩
 rw [hA] at rA sA c1
 simp only [hA]
 clear hA
 by_cases k0 : bl ≤ 2000
 rotate_left
 ·have k0' : (2000 : Int) < bl := by omega
  try simp only [Act.put]
  refine pl_begin ?_
  refine pl_t 11 (?_) (by rfl) ?_ rfl ?_
  rotate_left
  ·go_simp
   try with_reducible rfl
  simp only [nz]
  refine pl_t 12 (.int .i64 (bl : Int)) (by rfl) (by go_simp <;> (try simp [HBL.out])) rfl ?_
  simp only [nz]
  refine pl_t 13 (.bool true) (by rfl) (by go_simp <;> (try simp [*])) rfl ?_
  simp only [nz]
  refine pl_t 14 (?_) (by rfl) ?_ rfl ?_
  rotate_left
  ·go_simp
   try with_reducible rfl
  simp only [nz]
  refine pl_skip (d := some 15) (by rfl) rfl ?_
  simp only [nz]
  refine pl_skip (d := some 16) (by rfl) rfl ?_
  simp only [nz]
  refine pl_skip (d := some 17) (by rfl) rfl ?_
  simp only [nz]
  refine pl_skip (d := some 18) (by rfl) rfl ?_
  simp only [nz]
  refine pl_t 19 (?_) (by rfl) ?_ rfl ?_
  rotate_left
  ·go_simp
   try with_reducible rfl
  simp only [nz]
  refine pl_t 20 (?_) (by rfl) ?_ rfl ?_
  rotate_left
  ·go_simp
   try with_reducible rfl
  simp only [nz]
  refine pl_skip (d := some 21) (by rfl) rfl ?_
  simp only [nz]
  refine pl_skip (d := some 22) (by rfl) rfl ?_
  simp only [nz]
  refine pl_skip (d := some 23) (by rfl) rfl ?_
  simp only [nz]
  refine pl_t 24 (?_) (by rfl) ?_ rfl ?_
  rotate_left
  ·go_simp
   try with_reducible rfl
  simp only [nz]
  refine pl_nil ?_
  clear c1 rA hrow cP0 cX0 cG0 cY0 heq k0 k0'
  go_upto_region 2 with fail
  try simp only [Act.put]
  refine pl_begin ?_
  refine pl_call (d := some 25) (by rfl) (by go_simp; first | done | exact ⟨rfl, rfl⟩ | with_reducible rfl) rfl ?_
  refine (lives14_any W (HG.out.below B)).mono ?_
  rintro _ wL ⟨rfl, hbL⟩
  refine ⟨_, rfl, ?_⟩
  simp only [nz]
  refine pl_t 6 (?_) (by rfl) ?_ rfl ?_
  rotate_left
  ·go_simp
   try with_reducible rfl
  simp only [nz]
  refine pl_nil ?_
  have HB := hide (B.trans (hbL.mono B.size))
  go_wp2_with fail
  go_ret
  exact ⟨rfl, HB.out⟩
 have k0' : ¬ (2000 : Int) < bl := by omega
 by_cases k1 : z ≤ 20000
 rotate_left
 ·have k1' : (20000 : Int) < z := by omega
  try simp only [Act.put]
  refine pl_begin ?_
  refine pl_t 11 (?_) (by rfl) ?_ rfl ?_
  rotate_left
  ·go_simp
   try with_reducible rfl
  simp only [nz]
  refine pl_t 12 (.int .i64 (bl : Int)) (by rfl) (by go_simp <;> (try simp [HBL.out])) rfl ?_
  simp only [nz]
  refine pl_t 13 (.bool false) (by rfl) (by go_simp <;> (try simp [*])) rfl ?_
  simp only [nz]
  refine pl_t 14 (?_) (by rfl) ?_ rfl ?_
  rotate_left
  ·go_simp
   try with_reducible rfl
  simp only [nz]
  refine pl_t 15 (?_) (by rfl) ?_ rfl ?_
  rotate_left
  ·go_simp
   try with_reducible rfl
  simp only [nz]
  refine pl_t 16 (.string es) (by rfl) (pl_one rfl rfl c1 Tryz.underlying9 rfl) rfl ?_
  simp only [nz]
  refine pl_t 17 (.int .i64 (z : Int)) (by rfl) (by go_simp <;> (try simp [HZ.out])) rfl ?_
  simp only [nz]
  refine pl_t 18 (.bool true) (by rfl) (by go_simp <;> (try simp [*])) rfl ?_
  simp only [nz]
  refine pl_t 19 (?_) (by rfl) ?_ rfl ?_
  rotate_left
  ·go_simp
   try with_reducible rfl
  simp only [nz]
  refine pl_t 20 (?_) (by rfl) ?_ rfl ?_
  rotate_left
  ·go_simp
   try with_reducible rfl
  simp only [nz]
  refine pl_skip (d := some 21) (by rfl) rfl ?_
  simp only [nz]
  refine pl_skip (d := some 22) (by rfl) rfl ?_
  simp only [nz]
  refine pl_skip (d := some 23) (by rfl) rfl ?_
  simp only [nz]
  refine pl_t 24 (?_) (by rfl) ?_ rfl ?_
  rotate_left
  ·go_simp
   try with_reducible rfl
  simp only [nz]
  refine pl_nil ?_
  clear c1 rA hrow cP0 cX0 cG0 cY0 heq k0 k0' k1 k1'
  go_upto_region 2 with fail
  try simp only [Act.put]
  refine pl_begin ?_
  refine pl_call (d := some 25) (by rfl) (by go_simp; first | done | exact ⟨rfl, rfl⟩ | with_reducible rfl) rfl ?_
  refine (lives14_any W (HG.out.below B)).mono ?_
  rintro _ wL ⟨rfl, hbL⟩
  refine ⟨_, rfl, ?_⟩
  simp only [nz]
  refine pl_t 6 (?_) (by rfl) ?_ rfl ?_
  rotate_left
  ·go_simp
   try with_reducible rfl
  simp only [nz]
  refine pl_nil ?_
  have HB := hide (B.trans (hbL.mono B.size))
  go_wp2_with fail
  go_ret
  exact ⟨rfl, HB.out⟩
 have k1' : ¬ (20000 : Int) < z := by omega
 by_cases k2 : zm ≤ 20000
 rotate_left
 ·have k2' : (20000 : Int) < zm := by omega
  try simp only [Act.put]
  refine pl_begin ?_
  refine pl_t 11 (?_) (by rfl) ?_ rfl ?_
  rotate_left
  ·go_simp
   try with_reducible rfl
  simp only [nz]
  refine pl_t 12 (.int .i64 (bl : Int)) (by rfl) (by go_simp <;> (try simp [HBL.out])) rfl ?_
  simp only [nz]
  refine pl_t 13 (.bool false) (by rfl) (by go_simp <;> (try simp [*])) rfl ?_
  simp only [nz]
  refine pl_t 14 (?_) (by rfl) ?_ rfl ?_
  rotate_left
  ·go_simp
   try with_reducible rfl
  simp only [nz]
  refine pl_t 15 (?_) (by rfl) ?_ rfl ?_
  rotate_left
  ·go_simp
   try with_reducible rfl
  simp only [nz]
  refine pl_t 16 (.string es) (by rfl) (pl_one rfl rfl c1 Tryz.underlying9 rfl) rfl ?_
  simp only [nz]
  refine pl_t 17 (.int .i64 (z : Int)) (by rfl) (by go_simp <;> (try simp [HZ.out])) rfl ?_
  simp only [nz]
  refine pl_t 18 (.bool false) (by rfl) (by go_simp <;> (try simp [*])) rfl ?_
  simp only [nz]
  refine pl_t 19 (?_) (by rfl) ?_ rfl ?_
  rotate_left
  ·go_simp
   try with_reducible rfl
  simp only [nz]
  refine pl_t 20 (?_) (by rfl) ?_ rfl ?_
  rotate_left
  ·go_simp
   try with_reducible rfl
  simp only [nz]
  refine pl_t 21 (?_) (by rfl) ?_ rfl ?_
  rotate_left
  ·go_simp
   try with_reducible rfl
  simp only [nz]
  refine pl_t 22 (.int .i64 (zm : Int)) (by rfl) (by go_simp <;> (try simp [HM.out])) rfl ?_
  simp only [nz]
  refine pl_t 23 (.bool true) (by rfl) (by go_simp <;> (try simp [*])) rfl ?_
  simp only [nz]
  refine pl_t 24 (?_) (by rfl) ?_ rfl ?_
  rotate_left
  ·go_simp
   try with_reducible rfl
  simp only [nz]
  refine pl_nil ?_
  clear c1 rA hrow cP0 cX0 cG0 cY0 heq k0 k0' k1 k1' k2 k2'
  go_upto_region 2 with fail
  try simp only [Act.put]
  refine pl_begin ?_
  refine pl_call (d := some 25) (by rfl) (by go_simp; first | done | exact ⟨rfl, rfl⟩ | with_reducible rfl) rfl ?_
  refine (lives14_any W (HG.out.below B)).mono ?_
  rintro _ wL ⟨rfl, hbL⟩
  refine ⟨_, rfl, ?_⟩
  simp only [nz]
  refine pl_t 6 (?_) (by rfl) ?_ rfl ?_
  rotate_left
  ·go_simp
   try with_reducible rfl
  simp only [nz]
  refine pl_nil ?_
  have HB := hide (B.trans (hbL.mono B.size))
  go_wp2_with fail
  go_ret
  exact ⟨rfl, HB.out⟩
 have k2' : ¬ (20000 : Int) < zm := by omega
 have cP := cP0 k0 k1
 have cX := cX0 k0 k1
 have cG := cG0 k2
 have cY := cY0 k2
 try simp only [Act.put]
 refine pl_begin ?_
 refine pl_t 11 (?_) (by rfl) ?_ rfl ?_
 rotate_left
 ·go_simp
  try with_reducible rfl
 simp only [nz]
 refine pl_t 12 (.int .i64 (bl : Int)) (by rfl) (by go_simp <;> (try simp [HBL.out])) rfl ?_
 simp only [nz]
 refine pl_t 13 (.bool false) (by rfl) (by go_simp <;> (try simp [*])) rfl ?_
 simp only [nz]
 refine pl_t 14 (?_) (by rfl) ?_ rfl ?_
 rotate_left
 ·go_simp
  try with_reducible rfl
 simp only [nz]
 refine pl_t 15 (?_) (by rfl) ?_ rfl ?_
 rotate_left
 ·go_simp
  try with_reducible rfl
 simp only [nz]
 refine pl_t 16 (.string es) (by rfl) (pl_one rfl rfl c1 Tryz.underlying9 rfl) rfl ?_
 simp only [nz]
 refine pl_t 17 (.int .i64 (z : Int)) (by rfl) (by go_simp <;> (try simp [HZ.out])) rfl ?_
 simp only [nz]
 refine pl_t 18 (.bool false) (by rfl) (by go_simp <;> (try simp [*])) rfl ?_
 simp only [nz]
 refine pl_t 19 (?_) (by rfl) ?_ rfl ?_
 rotate_left
 ·go_simp
  try with_reducible rfl
 simp only [nz]
 refine pl_t 20 (?_) (by rfl) ?_ rfl ?_
 rotate_left
 ·go_simp
  try with_reducible rfl
 simp only [nz]
 refine pl_t 21 (?_) (by rfl) ?_ rfl ?_
 rotate_left
 ·go_simp
  try with_reducible rfl
 simp only [nz]
 refine pl_t 22 (.int .i64 (zm : Int)) (by rfl) (by go_simp <;> (try simp [HM.out])) rfl ?_
 simp only [nz]
 refine pl_t 23 (.bool false) (by rfl) (by go_simp <;> (try simp [*])) rfl ?_
 simp only [nz]
 refine pl_t 24 (?_) (by rfl) ?_ rfl ?_
 rotate_left
 ·go_simp
  try with_reducible rfl
 simp only [nz]
 refine pl_nil ?_
 clear c1 cP0 cX0 cG0 cY0 k0 k0' k1 k1' k2 k2'
 go_upto_region 3 with fail
 try simp only [Act.put]
 refine pl_begin ?_
 refine pl_t 27 (?_) (by rfl) ?_ rfl ?_
 rotate_left
 ·go_simp
  try with_reducible rfl
 simp only [nz]
 refine pl_call (d := some 28) (by rfl) (by go_simp; first | done | exact ⟨rfl, rfl⟩ | with_reducible rfl) rfl ?_
 refine (cG W).mono ?_
 rintro _ w2 ⟨rfl, hb2⟩
 refine ⟨_, rfl, ?_⟩
 simp only [nz]
 refine pl_t 26 (?_) (by rfl) ?_ rfl ?_
 rotate_left
 ·go_simp
  try with_reducible rfl
 simp only [nz]
 refine pl_t 29 (?_) (by rfl) ?_ rfl ?_
 rotate_left
 ·go_simp
  try with_reducible rfl
 simp only [nz]
 refine pl_t 30 (?_) (by rfl) ?_ rfl ?_
 rotate_left
 ·go_simp
  try with_reducible rfl
 simp only [nz]
 refine pl_run (d := some 7) (v := .pointer (some ⟨w2.heap.size, 0, none⟩)) (w' := w2.alloc (.cells zc.toArray 25)) (by rfl) (ex_alloc rfl (hzr _)) rfl ?_
 simp only [nz]
 refine pl_store (w' := (w2.alloc (.cells zc.toArray 25)).setCells w2.heap.size 0 qg) (by rfl) (ex_put (cs := qg.toArray) rfl rfl rfl (there_newN _ _ _ (by simp [hzl, hgl])) (by simpa using hgi) (all_one hg1)) rfl ?_
 refine pl_t 8 (?_) (by rfl) ?_ rfl ?_
 rotate_left
 ·go_simp
  try with_reducible rfl
 simp only [nz]
 refine pl_nil ?_
 obtain ⟨r7, hF, hF3, -⟩ := fresh_store w2 zc.toArray 25 qg (by simp [hzl, hgl])
 have rA := range_below (range_below rA hb2 sA) hF (Nat.lt_of_lt_of_le sA hb2.size)
 have hrow := (hrow.below hb2).below hF
 have B := B.trans ((hb2.trans (hF.mono hb2.size)).mono B.size)
 have sA := Nat.lt_of_lt_of_le sA (Nat.le_trans hb2.size hF.size)
 obtain ⟨X, hX⟩ : ∃ X, w2.heap.size = X := ⟨_, rfl⟩
 simp only [hX] at r7 hF3 rA B sA hrow ⊢
 obtain ⟨w3, hw3⟩ : ∃ W, (w2.alloc (.cells zc.toArray 25)).setCells X 0 qg = W := ⟨_, rfl⟩
 rw [hw3] at r7 hF3 rA B sA hrow ⊢
 have s7 : X < w3.heap.size := by omega
 clear hw3 hX hF hF3 hb2 cG
 go_upto_region 4 with fail
 try simp only [Act.put]
 refine pl_begin ?_
 refine pl_t 32 (?_) (by rfl) ?_ rfl ?_
 rotate_left
 ·go_simp
  try with_reducible rfl
 simp only [nz]
 refine pl_call (d := some 33) (by rfl) (by go_simp; first | done | exact ⟨rfl, rfl⟩ | with_reducible rfl) rfl ?_
 refine (cY w3).mono ?_
 rintro _ w4 ⟨rfl, hb4⟩
 refine ⟨_, rfl, ?_⟩
 simp only [nz]
 refine pl_t 31 (?_) (by rfl) ?_ rfl ?_
 rotate_left
 ·go_simp
  try with_reducible rfl
 simp only [nz]
 refine pl_t 34 (?_) (by rfl) ?_ rfl ?_
 rotate_left
 ·go_simp
  try with_reducible rfl
 simp only [nz]
 refine pl_t 35 (?_) (by rfl) ?_ rfl ?_
 rotate_left
 ·go_simp
  try with_reducible rfl
 simp only [nz]
 refine pl_run (d := some 9) (v := .pointer (some ⟨w4.heap.size, 0, none⟩)) (w' := w4.alloc (.cells zc.toArray 25)) (by rfl) (ex_alloc rfl (hzr _)) rfl ?_
 simp only [nz]
 refine pl_store (w' := (w4.alloc (.cells zc.toArray 25)).setCells w4.heap.size 0 qg) (by rfl) (ex_put (cs := qg.toArray) rfl rfl rfl (there_newN _ _ _ (by simp [hzl, hgl])) (by simpa using hgi) (all_one hg1)) rfl ?_
 refine pl_t 10 (?_) (by rfl) ?_ rfl ?_
 rotate_left
 ·go_simp
  try with_reducible rfl
 simp only [nz]
 refine pl_nil ?_
 obtain ⟨r9, hF, hF3, -⟩ := fresh_store w4 zc.toArray 25 qg (by simp [hzl, hgl])
 have rA := range_below (range_below rA hb4 sA) hF (Nat.lt_of_lt_of_le sA hb4.size)
 have r7 := range_below (range_below r7 hb4 s7) hF (Nat.lt_of_lt_of_le s7 hb4.size)
 have hrow := (hrow.below hb4).below hF
 have B := B.trans ((hb4.trans (hF.mono hb4.size)).mono B.size)
 have sA := Nat.lt_of_lt_of_le sA (Nat.le_trans hb4.size hF.size)
 have s7 := Nat.lt_of_lt_of_le s7 (Nat.le_trans hb4.size hF.size)
 obtain ⟨Y, hY⟩ : ∃ X, w4.heap.size = X := ⟨_, rfl⟩
 simp only [hY] at r9 hF3 rA r7 B sA s7 hrow ⊢
 obtain ⟨w5, hw5⟩ : ∃ W, (w4.alloc (.cells zc.toArray 25)).setCells Y 0 qg = W := ⟨_, rfl⟩
 rw [hw5] at r9 hF3 rA r7 B sA s7 hrow ⊢
 have s9 : Y < w5.heap.size := by omega
 clear hw5 hY hF hF3 hb4 cY
 go_upto_region 5 with fail
 have hdr : Below w5.heap.size w5 w5.drew := (Below.refl _ _).drew
 have rA := range_below rA hdr sA
 have r7 := range_below r7 hdr s7
 have r9 := range_below r9 hdr s9
 have hrow := hrow.below hdr
 have B := B.trans (hdr.mono B.size)
 have sA := Nat.lt_of_lt_of_le sA hdr.size
 have s7 := Nat.lt_of_lt_of_le s7 hdr.size
 have s9 := Nat.lt_of_lt_of_le s9 hdr.size
 refine hs_begin (S := (Below w5.drew.heap.size w5.drew)) 23 rfl (by kernel_rfl) ?_
 obtain ⟨w8, hw8⟩ : ∃ W, w5.drew = W := ⟨_, rfl⟩
 rw [hw8] at rA r7 r9 hrow B sA s7 s9 ⊢
 clear hw8 hdr
 have hS : (Below w8.heap.size w8) w8 := Below.refl _ _
 refine hs_t 0 36 (?_) rfl (by kernel_rfl) (by kernel_rfl) (by kernel_rfl) (by rfl) ?_ hS rfl ?_
 rotate_left
 ·intro w' hw
  go_simp
  try with_reducible rfl
 simp only [nz]
 refine hs_t 1 37 (.agg q.toArray) rfl (by kernel_rfl) (by kernel_rfl) (by kernel_rfl) (by rfl) (fun w' hw => ex_mid rfl rfl (range_below rA hw sA) Tryz.underlying25 rfl hqi) hS rfl ?_
 simp only [nz]
 refine hs_t 4 40 (?_) rfl (by kernel_rfl) (by kernel_rfl) (by kernel_rfl) (by rfl) ?_ hS rfl ?_
 rotate_left
 ·intro w' hw
  go_simp
  try with_reducible rfl
 simp only [nz]
 refine hs_t 5 41 (.agg q.toArray) rfl (by kernel_rfl) (by kernel_rfl) (by kernel_rfl) (by rfl) (fun w' hw => ex_mid rfl rfl (range_below rA hw sA) Tryz.underlying25 rfl hqi) hS rfl ?_
 simp only [nz]
 refine hs_call (i := 2) (d := some 38) rfl (by kernel_rfl) (by rfl) (by go_simp; first | done | exact ⟨rfl, rfl⟩ | with_reducible rfl) rfl ?_
 refine (cP w8 hrow).mono ?_
 rintro _ wa ⟨va, rfl, ma, hbwa⟩
 have hS0 : (Below w8.heap.size w8) wa := hbwa
 refine ⟨_, rfl, hbwa, ?_⟩
 simp only [nz]
 refine hs_moreV (S' := (Below wa.heap.size wa)) (fun w' hw' => hbwa.trans (hw'.mono hbwa.size)) _ _ _ _ ?_
 have hS : (Below wa.heap.size wa) wa := Below.refl _ _
 refine hs_t 3 39 (.string st) rfl (by kernel_rfl) (by kernel_rfl) (by kernel_rfl) (by rfl) (fun w' hw => ex_conv rfl rfl (by rw [← hsd.out]; exact mine_str (ma.below hw))) hS rfl ?_
 simp only [nz]
 refine hs_call (i := 6) (d := some 42) rfl (by kernel_rfl) (by rfl) (by go_simp; first | done | exact ⟨rfl, rfl⟩ | with_reducible rfl) rfl ?_
 refine (cX wa (hrow.below hbwa)).mono ?_
 rintro _ wb ⟨vb, rfl, mb, hbwb⟩
 have hS0 : (Below wa.heap.size wa) wb := hbwb
 refine ⟨_, rfl, hbwb, ?_⟩
 simp only [nz]
 refine hs_moreV (S' := (Below wb.heap.size wb)) (fun w' hw' => hbwb.trans (hw'.mono hbwb.size)) _ _ _ _ ?_
 have hS : (Below wb.heap.size wb) wb := Below.refl _ _
 refine hs_t 7 43 (.string st) rfl (by kernel_rfl) (by kernel_rfl) (by kernel_rfl) (by rfl) (fun w' hw => ex_conv rfl rfl (by rw [← hsd.out]; exact mine_str (mb.below hw))) hS rfl ?_
 simp only [nz]
 have hAB : Below w8.heap.size w8 wb := hbwa.trans (hbwb.mono hbwa.size)
 have r7 := range_below r7 hAB s7
 have r9 := range_below r9 hAB s9
 have s7 := Nat.lt_of_lt_of_le s7 hAB.size
 have s9 := Nat.lt_of_lt_of_le s9 hAB.size
 have B := B.trans (hAB.mono B.size)
 refine hs_t 8 44 (.bool true) rfl (by kernel_rfl) (by kernel_rfl) (by kernel_rfl) (by rfl) (fun w' hw => by go_simp <;> (try simp)) hS rfl ?_
 simp only [nz]
 refine hs_t 9 45 (?_) rfl (by kernel_rfl) (by kernel_rfl) (by kernel_rfl) (by rfl) ?_ hS rfl ?_
 rotate_left
 ·intro w' hw
  go_simp
  try with_reducible rfl
 simp only [nz]
 refine hs_t 10 46 (.agg qg.toArray) rfl (by kernel_rfl) (by kernel_rfl) (by kernel_rfl) (by rfl) (fun w' hw => ex_mid rfl rfl (range_below r7 hw s7) Tryz.underlying25 rfl hgi) hS rfl ?_
 simp only [nz]
 refine hs_t 11 47 (.agg qg.toArray) rfl (by kernel_rfl) (by kernel_rfl) (by kernel_rfl) (by rfl) (fun w' hw => ex_mid rfl rfl (range_below r9 hw s9) Tryz.underlying25 rfl hgi) hS rfl ?_
 simp only [nz]
 refine hs_t 12 48 (.bool true) rfl (by kernel_rfl) (by kernel_rfl) (by kernel_rfl) (by rfl) (fun w' hw => ex_bin rfl rfl rfl (by kernel_rfl) (heq _)) hS rfl ?_
 simp only [nz]
 refine hs_t 13 49 (?_) rfl (by kernel_rfl) (by kernel_rfl) (by kernel_rfl) (by rfl) ?_ hS rfl ?_
 rotate_left
 ·intro w' hw
  go_simp
  try with_reducible rfl
 simp only [nz]
 refine hs_t 14 50 (?_) rfl (by kernel_rfl) (by kernel_rfl) (by kernel_rfl) (by rfl) ?_ hS rfl ?_
 rotate_left
 ·intro w' hw
  go_simp
  try with_reducible rfl
 simp only [nz]
 refine hs_t 15 51 (?_) rfl (by kernel_rfl) (by kernel_rfl) (by kernel_rfl) (by rfl) ?_ hS rfl ?_
 rotate_left
 ·intro w' hw
  go_simp
  try with_reducible rfl
 simp only [nz]
 refine hs_t 16 52 (?_) rfl (by kernel_rfl) (by kernel_rfl) (by kernel_rfl) (by rfl) ?_ hS rfl ?_
 rotate_left
 ·intro w' hw
  go_simp
  try with_reducible rfl
 simp only [nz]
 refine hs_t 17 53 (.bool true) rfl (by kernel_rfl) (by kernel_rfl) (by kernel_rfl) (by rfl) (fun w' hw => by go_simp <;> (try simp)) hS rfl ?_
 simp only [nz]
 refine hs_t 18 54 (?_) rfl (by kernel_rfl) (by kernel_rfl) (by kernel_rfl) (by rfl) ?_ hS rfl ?_
 rotate_left
 ·intro w' hw
  go_simp
  try with_reducible rfl
 simp only [nz]
 refine hs_t 19 55 (?_) rfl (by kernel_rfl) (by kernel_rfl) (by kernel_rfl) (by rfl) ?_ hS rfl ?_
 rotate_left
 ·intro w' hw
  go_simp
  try with_reducible rfl
 simp only [nz]
 refine hs_call (i := 20) (d := some 56) rfl (by kernel_rfl) (by rfl) (by go_simp; first | done | exact ⟨rfl, rfl⟩ | with_reducible rfl) rfl ?_
 refine (lives14_any wb (HG.out.below B)).mono ?_
 rintro _ wL ⟨rfl, hbL⟩
 have hS : (Below wb.heap.size wb) wL := hbL
 refine ⟨_, rfl, hS, ?_⟩
 simp only [nz]
 refine hs_t 21 57 (?_) rfl (by kernel_rfl) (by kernel_rfl) (by kernel_rfl) (by rfl) ?_ hS rfl ?_
 rotate_left
 ·intro w' hw
  go_simp
  try with_reducible rfl
 simp only [nz]
 refine hs_t 22 6 (?_) rfl (by kernel_rfl) (by kernel_rfl) (by kernel_rfl) (by rfl) ?_ hS rfl ?_
 rotate_left
 ·intro w' hw
  go_simp
  try with_reducible rfl
 simp only [nz]
 refine hs_done (by kernel_rfl) ?_
 have HB := hide (B.trans (hbL.mono B.size))
 go_wp2_with fail
 go_ret
 exact ⟨rfl, HB.out⟩
open Go.ChangeShapes Go.WideShapes Go.ChangeAt Go.RowKit
set_option linter.constructorNameAsVariable false
theorem own : ownKnob Tryz.prog.godebug = none := by kernel_rfl
theorem laidOut : laidOutB Tryz.prog = true := by kernel_rfl
theorem wf64 {z : Int} (h : (Lit.int .i64 z).wf = true) : -9223372036854775808 ≤ z ∧ z ≤ 9223372036854775807 := by
 simp only [Lit.wf, Bool.and_eq_true, decide_eq_true_eq] at h
 exact h
theorem some_at {α : Type} {xs : List α} {n i : Nat} (hl : xs.length = n) (hi : i < n) : ∃ y, xs[i]? = some y := ⟨xs[i]'(by omega), List.getElem?_eq_getElem (by omega)⟩
theorem drop_one {α : Type} {l : List α} {o : Nat} {v : α} (h : (l.drop o).take 1 = [v]) : l[o]? = some v := by
 have := congrArg (·[0]?) h
 simpa [List.getElem?_take, List.getElem?_drop] using this
section
variable {H : Type} {enc : TypeId × Value → H} {W : World} {b : Nat} {sp : Nat → Bool} {held : Bool} {m : Nat}
theorem bytes_at {t n : Nat} {l : List Value} {y : DataW H × List MemPlace} (hu : Tryz.prog.underlying t = some (.array n 5)) (hct : Tryz.prog.cellsOf t = n) (h : DataW.trod enc Tryz.prog W b sp held m t l = some y) : ∃ zs : List Int, l = v8 zs ∧ zs.length = n ∧ ∀ z ∈ zs, 0 ≤ z ∧ z < 256 := by
  have hce : Tryz.prog.cellsOf 5 = 1 := by kernel_rfl
  cases m with
  | zero => simp [DataW.trod] at h
  | succ m =>
    simp only [DataW.trod, hu, hce, hct, Nat.mul_one] at h
    split at h
    · rename_i hsz
      obtain ⟨xs, hm, hx⟩ := Option.map_eq_some_iff.1 h
      have key : ∀ i, i < n → ∃ z, l[i]? = some (.int .u8 z) ∧ 0 ≤ z ∧ z < 256 := fun i hi => by
        obtain ⟨y, hy, hf⟩ := Lib.mapM_at hm i i (by simp [hi])
        obtain ⟨z, hc, rfl, hw⟩ := DataW.trod_int Tryz.underlying5 hf
        refine ⟨z, drop_one hc, ?_⟩
        simp [Lit.wf, IntKind.min, IntKind.max, IntKind.signed, IntKind.bits] at hw
        omega
      have hln : l.length = n := by simpa using hsz
      refine ⟨l.map (fun v => match v with | .int _ z => z | _ => 0), ?_, by simpa using hln, ?_⟩
      · apply List.ext_getElem?
        intro i
        by_cases hi : i < n
        · obtain ⟨z, hz, _⟩ := key i hi
          simp only [v8, List.map_map, List.getElem?_map, hz, Option.map_some]
          rfl
        · rw [List.getElem?_eq_none (by omega), List.getElem?_eq_none (by simp [v8]; omega)]
      · intro z hz
        obtain ⟨u, hu, rfl⟩ := List.mem_map.1 hz
        obtain ⟨i, hi, rfl⟩ := List.mem_iff_getElem.1 hu
        obtain ⟨z, hz, hb⟩ := key i (by omega)
        rw [List.getElem?_eq_getElem hi] at hz
        rw [Option.some.inj hz]
        exact hb
    · cases h
end
theorem cells_some {w : World} {base n : Nat} {x : Addr} {cs : List Value} (h : w.cells? base x n = some cs) : cs.length = n ∧ ∀ j v, cs[j]? = some v → w.cell? (x.add j) = some v := by
 unfold World.cells? at h
 split at h
 ·have hl := Lib.mapM_length h
  refine ⟨by simpa using hl, fun j v hv => ?_⟩
  have hj : j < n := by
   have := (List.getElem?_eq_some_iff.1 hv).1
   have : cs.length = n := by simpa using hl
   omega
  obtain ⟨y, hy, hf⟩ := Lib.mapM_at h j j (by simp [hj])
  rw [hv] at hy
  exact hf.trans hy.symm
 ·cases h
theorem flat_getA {α : Type} {f : α → List Value} {k : Nat} (hk : 0 < k) (R : Nat → α) : ∀ (n : Nat), (∀ i, i < n → (f (R i)).length = k) → ∀ j, j < n * k → (((List.range n).map R).flatMap f)[j]? = (f (R (j / k)))[j % k]? := by
  intro n
  induction n with
  | zero => intro _ j hj; omega
  | succ n ih =>
    intro hR j hj
    have hl : (((List.range n).map R).flatMap f).length = n * k := by
      have := flat_len_k (f := f) (k := k) (ys := (List.range n).map R) (fun y hy => by
        obtain ⟨i, hi, rfl⟩ := List.mem_map.1 hy
        exact hR i (by have := List.mem_range.1 hi; omega))
      simpa using this
    rw [List.range_succ, List.map_append, List.flatMap_append]
    by_cases h : j < n * k
    · rw [List.getElem?_append_left (by omega), ih (fun i hi => hR i (by omega)) j h]
    · rw [List.getElem?_append_right (by omega), hl]
      have e0 : j = (j - n * k) + k * n := by rw [Nat.mul_comm k n]; omega
      have hlt : j - n * k < k := by rw [Nat.add_mul, Nat.one_mul] at hj; omega
      have e1 : j / k = n := by rw [e0, Nat.add_mul_div_left _ _ hk, Nat.div_eq_of_lt hlt]; omega
      have e2 : j % k = j - n * k := by
        have := congrArg (· % k) e0
        simp only [Nat.add_mul_mod_self_left] at this
        rw [this, Nat.mod_eq_of_lt hlt]
      rw [e1, e2]
      simp
set_option maxRecDepth 100000 in
theorem rows_of {α : Type} [Inhabited α] (f : α → List Value) (ok : α → Prop) (k : Nat) (hk : 0 < k) (tl te : TypeId) (hu : Tryz.prog.underlying tl = some (.slice te)) (hct : Tryz.prog.cellsOf te = k) (hf : ∀ y, ok y → (f y).length = k)
  {H : Type} {enc : TypeId × Value → H} {W : World} {b : Nat} {sp : Nat → Bool} {held : Bool} {fuel : Nat} {l : List Value} {x : DataW H × List MemPlace}
  (hel : ∀ (m : Nat) (l : List Value) (z : DataW H × List MemPlace), DataW.trod enc Tryz.prog W b sp held m te l = some z → ∃ y, l = f y ∧ ok y)
  (h : DataW.trod enc Tryz.prog W b sp held fuel tl l = some x) : ∃ (a : Option Addr) (cap : Nat) (ys : List α), l = [.slice a ys.length cap] ∧ ys.length ≤ cap ∧ cap ≤ maxLen ∧ (∀ y ∈ ys, ok y) ∧ RowOf f W a ys := by
 rcases Deep.open_slice hu h with ⟨rfl, _⟩ | ⟨a, len, cap, m, n, D, Pl, rfl, hb, hlc, hcm, hm, _, hel2⟩
 ·exact ⟨none, 0, [], rfl, by simp, by simp, by simp, .inl rfl⟩
 ·rw [hct] at hel2
  have hml : len ≤ m := by rw [hm]; split <;> omega
  have key : ∀ i, i < len → ∃ y : α, W.cells? b (a.add (i * k)) k = some (f y) ∧ ok y := fun i hi => by
   obtain ⟨cs, h1, h2⟩ := hel2 i (by omega)
   obtain ⟨y, rfl, hy⟩ := hel _ _ _ h2
   exact ⟨y, h1, hy⟩
  obtain ⟨R, hR⟩ := Deep.choose_lt key
  refine ⟨some a, cap, (List.range len).map R, by simp, by simpa using hlc, hcm, ?_, ?_⟩
  ·intro y hy
   obtain ⟨i, hi, rfl⟩ := List.mem_map.1 hy
   exact (hR i (List.mem_range.1 hi)).2
  ·by_cases h0 : len = 0
   ·left; simp [h0]
   ·right
    obtain ⟨bb, off, spot⟩ := a
    have hlen0 := hf _ (hR 0 (by omega)).2
    have hc := (cells_some (hR 0 (by omega)).1).2 0 ((f (R 0))[0]'(by omega)) (List.getElem?_eq_getElem _)
    have hspot : spot = none := by simpa [Addr.add] using World.cell?_spot hc
    subst hspot
    refine ⟨bb, off, rfl, ?_, fun j v hv => ?_⟩
    ·have := World.block_lt_of_cell? W _ hc; simpa [Addr.add] using this
    ·have hj : j < len * k := by
      have := (List.getElem?_eq_some_iff.1 hv).1
      rw [flat_len_k (k := k)] at this
      ·simpa using this
      ·intro y hy
       obtain ⟨i, hi, rfl⟩ := List.mem_map.1 hy
       exact hf _ (hR i (List.mem_range.1 hi)).2
     rw [flat_getA hk R len (fun i hi => hf _ (hR i hi).2) j hj] at hv
     have hdm : j / k < len := (Nat.div_lt_iff_lt_mul hk).2 hj
     have := (cells_some (hR (j / k) hdm).1).2 _ _ hv
     rw [Addr.add_mid, Addr.add_mid] at this
     rw [← this]
     congr 2
     have := Nat.div_add_mod j k
     rw [Nat.mul_comm] at this
     omega
theorem take_cut {α : Type} (l : List α) (o n k : Nat) : (l.drop o).take (n + k) = (l.drop o).take n ++ (l.drop (o + n)).take k := by
 rw [List.take_add, List.drop_drop]
theorem take_whole {α : Type} {l : List α} {n : Nat} (h : l.length = n) : l = (l.drop 0).take n := by
 rw [List.drop_zero, List.take_of_length_le (by omega)]
set_option maxRecDepth 100000 in
theorem env_of {H : Type} {enc : TypeId × Value → H} {W : World} {b : Nat} {sp : Nat → Bool} {held : Bool} {fuel : Nat} {l : List Value} {x : DataW H × List MemPlace}
  (h : DataW.trod enc Tryz.prog W b sp held fuel 25 l = some x) : ∃ r : Ev, l = EvE.f r ∧ EvE.ok r := by
 have hct : Tryz.prog.cellsOf 25 = 18 := by kernel_rfl
 obtain ⟨xs, m, _, rfl, hcl, hl, hf⟩ := DataW.trod_struct Tryz.underlying25 h
 rw [hct] at hcl
 have hl : xs.length = 3 := hl
 have h0 : DataW.trod enc Tryz.prog W b sp held m 3 ((l.drop 0).take (Tryz.prog.cellsOf 3)) = xs[0]? := hf 0 _ rfl
 rw [show Tryz.prog.cellsOf 3 = 1 by kernel_rfl] at h0
 obtain ⟨y0, e0⟩ := some_at hl (show 0 < 3 by omega)
 obtain ⟨z0, g0, _, wz0⟩ := DataW.trod_int Tryz.underlying3 (h0.trans e0)
 have bz0 := wf64 wz0
 have h1 : DataW.trod enc Tryz.prog W b sp held m 9 ((l.drop 1).take (Tryz.prog.cellsOf 9)) = xs[1]? := hf 1 _ rfl
 rw [show Tryz.prog.cellsOf 9 = 1 by kernel_rfl] at h1
 obtain ⟨y1, e1⟩ := some_at hl (show 1 < 3 by omega)
 obtain ⟨z1, g1, _, bz1⟩ := DataW.trod_string Tryz.underlying9 (h1.trans e1)
 have h2 : DataW.trod enc Tryz.prog W b sp held m 23 ((l.drop 2).take (Tryz.prog.cellsOf 23)) = xs[2]? := hf 2 _ rfl
 rw [show Tryz.prog.cellsOf 23 = 16 by kernel_rfl] at h2
 obtain ⟨y2, e2⟩ := some_at hl (show 2 < 3 by omega)
 obtain ⟨z2, g2, lz2, bz2⟩ := bytes_at Tryz.underlying23 (by kernel_rfl) (h2.trans e2)
 refine ⟨⟨z0, z1, z2⟩, ?_, ⟨lz2, bz2, bz1, bz0.1, bz0.2⟩⟩
 have e := take_whole (n := 1 + (1 + (16))) hcl
 rw [take_cut, take_cut, g0, g1, g2] at e
 first | exact e | (rw [e]; rfl) | (rw [e]; simp)
end Go.Proofs.YtcbpbkefggekmaaGreatDoor
namespace Go.Proofs.YtcbpbkefggekmaaGreatDoor
open Go.ChangeShapes Go.WideShapes Go.ChangeAt Go.RowKit
open Sha
def laid2 {H : Type} : List (String × DataW H) := [("raddle/digest.starts", Rows.laid_raddle_digest_starts), ("raddle/digest.roots", Rows.laid_raddle_digest_roots)]
theorem gS : Tryz.prog.globalNamed "raddle/digest.starts" = some 0 := by kernel_rfl
theorem gR : Tryz.prog.globalNamed "raddle/digest.roots" = some 1 := by kernel_rfl
theorem tS : (Tryz.prog.globals[0]?).map (·.type) = some 168 := by kernel_rfl
theorem tR : (Tryz.prog.globals[1]?).map (·.type) = some 238 := by kernel_rfl
theorem door_met (os : Os) (args : Array Value) : laidMetH Tryz.prog laid2 ((World.doorLaid Tryz.prog 400 os).forCall (fun _ _ => 0) ⟨#[], args, []⟩).memory :=
 laidMetH_of_parts3 (fuel := 8) (laidMet_of_run' 8 (by kernel_rfl) (by kernel_rfl)) (by kernel_rfl) (by kernel_rfl)
def startZ : List Int := (list init).map fun x => (x.toNat : Int)
def rootZ : List Int := kl.map fun x => (x.toNat : Int)
theorem starts_tab {H : Type} : (Rows.laid_raddle_digest_starts : DataW H) = Lib.tabData .u32 startZ := by kernel_rfl
theorem roots_tab {H : Type} : (Rows.laid_raddle_digest_roots : DataW H) = Lib.tabData .u32 rootZ := by kernel_rfl
theorem glob_of {W : World} (h : laidMetH Tryz.prog laid2 W) : Glob W := by
 rw [MakeChecks.laidMetH_plain _ _ _ (by kernel_rfl)] at h
 obtain ⟨ps, ⟨g0, t0, cs0, f0, p0, q0, hg0, ht0, hv0, hd0, ⟨g1, t1, cs1, f1, p1, q1, hg1, ht1, hv1, hd1, _, _⟩, _⟩, _, _⟩ := h
 obtain rfl := Option.some.inj (gS.symm.trans hg0)
 obtain rfl := Option.some.inj (gR.symm.trans hg1)
 obtain rfl := Option.some.inj (tS.symm.trans ht0)
 obtain rfl := Option.some.inj (tR.symm.trans ht1)
 rw [starts_tab] at hd0
 rw [roots_tab] at hd1
 have e0 := Lib.cells_of_tab Tryz.underlying168 Tryz.underlying167 (by kernel_rfl) (by kernel_rfl) hd0
 have e1 := Lib.cells_of_tab Tryz.underlying238 Tryz.underlying167 (by kernel_rfl) (by kernel_rfl) hd1
 have r0 : W.rangeAt 0 0 (v32 (list init)) := fun j v hv => by
  have := World.var?_cell hg0 hv0 j
  rw [Nat.zero_add, this, ← Array.getElem?_toList, e0]
  simpa [startZ, v32] using hv
 have r1 : W.rangeAt 1 0 (v32 kl) := fun j v hv => by
  have := World.var?_cell hg1 hv1 j
  rw [Nat.zero_add, this, ← Array.getElem?_toList, e1]
  simpa [rootZ, v32] using hv
 refine ⟨r0, r1, ?_⟩
 have := World.block_lt_of_cell? W _ (r1 0 _ rfl)
 exact this
open Go.ChangeShapes Go.WideShapes Go.ChangeAt Go.RowKit
open Sha Tal
set_option linter.unusedVariables false
set_option maxRecDepth 100000 in
theorem open_env {H : Type} {enc : TypeId × Value → H} {W : World} {base b : Nat} {sp : Nat → Bool} {held : Bool} {fuel : Nat} {v : Value} {x : DataW H × List MemPlace} (hv : Value.okWide Tryz.prog W .any base 25 v)
  (h : DataW.trod enc Tryz.prog W b sp held fuel 25 v.cells.toList = some x) : ∃ m : Ev, v = .agg m.cells.toArray ∧ m.ok := by
 unfold Value.okWide at hv
 rw [Tryz.underlying25] at hv
 obtain ⟨cs, rfl, hsz, _⟩ := hv
 obtain ⟨r, h1, h2⟩ := env_of h
 refine ⟨r, ?_, h2⟩
 simp only [Value.cells] at h1
 have h1 : cs.toList = r.cells := h1
 rw [← h1]
open Go.ChangeShapes Go.WideShapes Go.ChangeAt Go.RowKit
open Sha Tal
set_option linter.unusedVariables false
set_option maxRecDepth 100000 in
theorem bytesD_of {H : Type} {enc : TypeId × Value → H} {W : World} {b : Nat} {sp : Nat → Bool} {held : Bool} {fuel : Nat} {l : List Value} {x : DataW H × List MemPlace}
    (h : DataW.trod enc Tryz.prog W b sp held fuel 59 l = some x) : ∃ (a : Option Addr) (cap : Nat) (zs : List Int), l = [.slice a zs.length cap] ∧ zs.length ≤ cap ∧ cap ≤ maxLen ∧ RowAt W a zs := by
  obtain ⟨a, cap, zs, h1, h2, h3, h4, h5⟩ := rows_of (fun z : Int => [Value.int .u8 z]) (fun z => 0 ≤ z ∧ z < 256) 1 (by omega) 59 5 Tryz.underlying59 (by kernel_rfl) (fun _ _ => rfl) (fun m l z hz => by
    obtain ⟨c, hc, rfl, hw⟩ := DataW.trod_int Tryz.underlying5 hz
    refine ⟨c, by simpa using hc, ?_⟩
    simp [Lit.wf, IntKind.min, IntKind.max, IntKind.signed, IntKind.bits] at hw
    omega) h
  refine ⟨a, cap, zs, h1, h2, h3, by omega, h4, ?_⟩
  rcases h5 with h5 | ⟨b, off, rfl, h6, h7⟩
  · exact .inl h5
  · refine .inr ⟨b, off, rfl, h6, ?_⟩
    have e : ∀ ys : List Int, ys.flatMap (fun z : Int => [Value.int .u8 z]) = v8 ys := fun ys => by
      induction ys with
      | nil => rfl
      | cons z ys ih => rw [List.flatMap_cons, ih]; rfl
    rwa [e] at h7
set_option maxRecDepth 100000 in
theorem open_bytesK {H : Type} {enc : TypeId × Value → H} {W : World} {base b : Nat} {sp : Nat → Bool} {held : Bool} {fuel : Nat} {v : Value} {x : DataW H × List MemPlace} (hv : Value.okWide Tryz.prog W .any base 59 v)
  (h : DataW.trod enc Tryz.prog W b sp held fuel 59 v.cells.toList = some x) : ∃ (a : Option Addr) (cap : Nat) (zs : List Int), v = .slice a zs.length cap ∧ zs.length ≤ cap ∧ cap ≤ maxLen ∧ RowAt W a zs := by
 obtain ⟨a0, len, cap, rfl⟩ := okWide_slice Tryz.underlying59 hv
 obtain ⟨a, cap', ys, h1, h2, h3, h4⟩ := bytesD_of h
 simp [Value.cells] at h1
 obtain ⟨rfl, rfl, rfl⟩ := h1
 exact ⟨a0, cap, ys, rfl, h2, h3, h4⟩
end Go.Proofs.YtcbpbkefggekmaaGreatDoor
namespace Go.Proofs.YtcbpbkefggekmaaGreatDoor.envelopeReads
open Go.ChangeShapes Go.WideShapes Go.ChangeAt Go.RowKit
open Go.ChangeMaps (open_string shut_string)
set_option linter.unusedVariables false
set_option maxRecDepth 100000 in
theorem lifted (os : Os) (started : os.Started) (H : Type) (enc : TypeId × Value → H) :
  ReturnsInHanded {} Tryz.checked os 4 .any (fun w args => (Rows.envelopeReadsSpec.pre enc Tryz.prog Tryz.f4 [] false w args ∧ laidMetH Tryz.prog laid2 w) ∧ sizedMet enc Tryz.prog Tryz.f4 (OpenSpec.ofChange Rows.envelopeReadsSpec) false w args)
   (Rows.envelopeReadsSpec.post enc Tryz.prog Tryz.f4 false true false false) := by
 refine returnsInHanded_of_change_and (C := Tryz.checked) (X := fun w _ => laidMetH Tryz.prog laid2 w) (fun _ _ _ hh h => h.of_heap hh) own started (by kernel_rfl) Tryz.func4
  (ChangeSpec.witness_shaped (enc := enc) (C := Tryz.checked) (os := os) (X := fun w _ => laidMetH Tryz.prog laid2 w) false (World.doorLaid Tryz.prog 400 os) #[.slice none 0 0, .agg #[.int .i64 0, .string ByteArray.empty, .int .u8 0, .int .u8 0, .int .u8 0, .int .u8 0, .int .u8 0, .int .u8 0, .int .u8 0, .int .u8 0, .int .u8 0, .int .u8 0, .int .u8 0, .int .u8 0, .int .u8 0, .int .u8 0, .int .u8 0, .int .u8 0], .string ByteArray.empty] 8 rfl (World.shaped_of_RefB (by kernel_rfl) (by kernel_rfl)) (by kernel_rfl) (by kernel_rfl) (by kernel_rfl) (door_met os _)) ?_
 intro W base args ds gs before hval0 hW _ _ hL _
 have hval : ∀ (j : Nat) t v, Tryz.f4.params[j]? = some t → args[j]? = some v → Value.okWide Tryz.prog W .any base t v := hval0
 have hW' := hW
 obtain ⟨p, q, hA0, hV, rfl, hfz, hnd⟩ := hW
 have hA : DataW.TrodAll enc Tryz.prog W 0 (fun _ => true) true Tryz.f4.params.toList args.toList ds p := hA0
 rw [Tryz.params4] at hA hval
 obtain ⟨v0, vs0, d0, ds0, p0, q0, hargs, rfl, rfl, h0, r0⟩ := trodAll_cons hA
 obtain ⟨v1, vs1, d1, ds1, p1, q1, rfl, rfl, rfl, h1, r1⟩ := trodAll_cons r0
 obtain ⟨v2, vs2, d2, ds2, p2, q2, rfl, rfl, rfl, h2, r2⟩ := trodAll_cons r1
 obtain ⟨rfl, rfl, rfl⟩ := trodAll_nil r2
 obtain rfl : args = #[v0, v1, v2] := by cases args; simp_all
 obtain ⟨rfl, rfl⟩ := trodVars_none hV
 have k0 := h0
 have lt0 : ∀ x ∈ p0, x.block < W.heap.size := by obtain ⟨m, hm⟩ := k0; exact DataW.trod_lt m _ _ _ hm
 have k1 := h1
 have lt1 : ∀ x ∈ p1, x.block < W.heap.size := by obtain ⟨m, hm⟩ := k1; exact DataW.trod_lt m _ _ _ hm
 have k2 := h2
 have lt2 : ∀ x ∈ p2, x.block < W.heap.size := by obtain ⟨m, hm⟩ := k2; exact DataW.trod_lt m _ _ _ hm
 obtain ⟨fuel0, hf0⟩ := h0
 obtain ⟨al0, cl0, zs0, rfl, le0, lm0, row0⟩ := open_bytesK (hval 0 59 v0 rfl rfl) hf0
 obtain ⟨fuel1, hf1⟩ := h1
 obtain ⟨x1, rfl, ok1⟩ := open_env (hval 1 25 v1 rfl rfl) hf1
 obtain ⟨s2, rfl, rfl, rfl, hs2⟩ := open_string Tryz.underlying9 (hval 2 9 v2 rfl rfl) h2
 have hG := glob_of hL
 clear hA0 hval0
 refine (envelopeReads_walk al0 cl0 zs0 x1 s2 W hG row0 ok1).mono fun e W' ⟨he, bel⟩ => ?_
 subst he
 exact ⟨_, rfl, _, _, _, [], _, [], hW', trodAll_mk1 (shut_bool Tryz.underlying4 _), (trodAll_cons_mk (Below.trod laidOut (by kernel_rfl) (of_decide_eq_true (by kernel_rfl)) k0 bel lt0) (trodAll_cons_mk (Below.trod laidOut (by kernel_rfl) (of_decide_eq_true (by kernel_rfl)) k1 bel lt1) (trodAll_cons_mk (Below.trod laidOut (by kernel_rfl) (of_decide_eq_true (by kernel_rfl)) k2 bel lt2) trodAll_mk0))), rfl, bel.frame _, fun h => by cases h⟩
theorem over : Rows.EnvelopeReadsSaid :=
 OpenClaim.holds_of_wide 4 Tryz.f4 rfl rfl rfl rfl rfl rfl rfl ⟨rfl, rfl, rfl, rfl, rfl⟩ rfl rfl rfl rfl rfl (by kernel_rfl) Tryz.func4 (by kernel_rfl)
  (of_decide_eq_true (by kernel_rfl)) (by unfold Func.isWrapper; first | (rw [if_pos (by decide +kernel)]; kernel_rfl) | (rw [if_neg (by decide +kernel)]; exact ⟨rfl, rfl⟩))
  (fun os started H enc _ => lifted os started H enc)
end Go.Proofs.YtcbpbkefggekmaaGreatDoor.envelopeReads
namespace Go.Proofs.YtcbpbkefggekmaaGreatDoor
theorem envelopeReads_card : Rows.EnvelopeReadsCardSaid :=
 Claim7.holds_tied_plain_at .later [] [.data, .data] true (true, "25d2a5b30884e3b71ad816cffc66fba19366bef644f7b28281847e0f0242141c") false
  envelopeReads.over (fun _ h => by cases h) (by kernel_rfl) (fun _ h => by cases h) envelopeReads_row_tie rfl ⟨rfl, rfl⟩ (by kernel_rfl) rfl
  (fun f fn hf hfn => by
   obtain rfl : f = 4 := Option.some.inj ((show Tryz.prog.funcNamed "raddle/raddlelaw14.EnvelopeReads" = some 4 by kernel_rfl).symm.trans hf) |>.symm
   obtain rfl : fn = Tryz.f4 := (Option.some.inj (Tryz.func4.symm.trans hfn)).symm
   exact ⟨by kernel_rfl, fun j t ht => by
    rw [Tryz.params4] at ht
    rcases j with _ | _ | _ | j
    ·obtain rfl : t = 59 := by simpa using ht.symm
     exact (show Tryz.prog.wantsStandIn 59 = false by kernel_rfl)
    ·obtain rfl : t = 25 := by simpa using ht.symm
     exact (show Tryz.prog.wantsStandIn 25 = false by kernel_rfl)
    ·obtain rfl : t = 9 := by simpa using ht.symm
     exact (show Tryz.prog.wantsStandIn 9 = false by kernel_rfl)
    ·simp at ht⟩)
  (by kernel_rfl)
#print axioms envelopeReads_card
end Go.Proofs.YtcbpbkefggekmaaGreatDoor
