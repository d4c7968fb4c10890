/- Get; seal.blockOf: a key, filled up to a block; the closure of seal.Mac: the digest of the key's block, xored, and the parts; seal.Mac: the mac of parts; the do -/
import Derived.Test.YtcbpbkefggekmaaGreatDoorJR0
import Derived.Test.YtcbpbkefggekmaaGreatDoorJR3
import Derived.Test.YtcbpbkefggekmaaGreatDoorJR4
import Derived.Test.YtcbpbkefggekmaaGreatDoorJR8
import Derived.Test.YtcbpbkefggekmaaGreatDoorJR10
import Derived.Test.YtcbpbkefggekmaaGreatDoorJR1
import Derived.Laws.MakeOwn
import Derived.Test.YtcbpbkefggekmaaGreatDoorJR2
import Derived.Laws.IdiomStrings
import Derived.Lib.SlBytesConst
namespace Go.Proofs.YtcbpbkefggekmaaGreatDoor
open Go.RowKit
open Sha Tal
set_option linter.unusedVariables false
set_option linter.unusedSimpArgs false
theorem ex_conv {o : Oper} {a : Act} {w w' : World} {x : Operand} {s d : TypeId} {u v : Value} (ho : o.op = .convert s d x) (hx : a.eval x = u) (hc : (convert s d u).run Tryz.prog w = .ok v w') : (execOp a.eval o).run Tryz.prog w = .ok (.value v) w' := by
 unfold execOp
 simp [ho, hx, hc]
def evZ : Ev := ⟨0, ⟨#[]⟩, List.replicate 16 0⟩
def getE (zs : List Int) : Ev × Int := if doneE (evS zs 0).2.1 (evS zs 0).2.2 = 0 then ((evS zs 0).1, 0) else (evZ, doneE (evS zs 0).2.1 (evS zs 0).2.2)
theorem evZ_ok : evZ.ok := ⟨rfl, fun z hz => by have := List.eq_of_mem_replicate hz; omega, by decide, by decide, by decide⟩
theorem evS_ok {zs : List Int} (h : Bs zs) : (evS zs 0).1.ok := enS_ok (zs, 0, false) (fun _ => h)
theorem getE_ok {zs : List Int} (h : Bs zs) : (getE zs).1.ok := by
 unfold getE
 split
 ·exact evS_ok h
 ·exact evZ_ok
theorem copy_padO {w : World} {B o n : Nat} {a : Option Addr} {cap : Nat} {t : List Int} (h0 : 0 < n) (hT : w.there B o n) (hz : w.rangeAt B o (v8 (List.replicate n (0 : Int)))) (hrow : RowAt w a t) (ht : t.length = n ∨ t = []) :
  ∃ w', (Builtin.copy_ #[59, 59] 3 #[.slice (some ⟨B, o, none⟩) n n, .slice a t.length cap]).run Tryz.prog w = .ok (goInt t.length) w' ∧ w'.rangeAt B o (v8 (padN n t)) ∧ w' = w.setCells B o (v8 t) := by
 rcases ht with ht | rfl
 ·rcases hrow.2.2 with rfl | ⟨b, off, rfl, hb, hr⟩
  ·exfalso; simp at ht; omega
  ·refine ⟨_, ?_, ?_, rfl⟩
   ·have := run_copy_cells (P := Tryz.prog) w 59 59 3 5 B o n n ⟨b, off, none⟩ t.length cap (v8 t) Tryz.underlying59 isz8 (by rw [v8_length, ht]; exact (Nat.min_self _).symm) (fun j v hv => by rw [Addr.add_mid]; exact hr j v hv) (fun j hj => by rw [v8_length] at hj; exact (hT j (by omega)).1) (fun j hj => by rw [v8_length] at hj; exact (hT j (by omega)).2) (v8_one _)
    rw [v8_length] at this
    exact this
   ·unfold padN
    rw [if_pos ht]
    exact World.rangeAt_setCells_same w B o (v8 t) (by rw [v8_length, ht]; exact hT)
 ·refine ⟨w, run_copy_none (P := Tryz.prog) w 59 59 3 5 _ a n n 0 cap Tryz.underlying59 isz8 (by simp), ?_, rfl⟩
  unfold padN
  rw [if_neg (by simp; omega)]
  exact hz
theorem build_e0 (w : World) : (Instr.build 25 #[]).run Tryz.prog w = .ok (.agg evZ.cells.toArray) w := by kernel_rfl
theorem zero_e0 (w : World) : (zeroValue 25).run Tryz.prog w = .ok (.agg evZ.cells.toArray) w := by kernel_rfl
theorem evZ_cells : evZ.cells = .int .i64 0 :: .string ⟨#[]⟩ :: v8 (List.replicate 16 (0 : Int)) := rfl
theorem there_partO {w : World} {b n o m : Nat} (h : w.there b 0 n) (hm : o + m ≤ n) : w.there b o m := fun j hj => by
 have := h (o + j) (by omega)
 rwa [Nat.zero_add] at this
theorem isz18 : (Tryz.prog.info? 25).map (·.size) = some 18 := by kernel_rfl
theorem iszS9 : (Tryz.prog.info? 9).map (·.size) = some 1 := by kernel_rfl
theorem low_gb {w a b : World} {R B : Nat} (h : Below B w a) (hg : a.grownBy b (some R)) (hB : B ≤ a.heap.size) (hR : B ≤ R) : Below B w b := h.grown hg hB (fun k hk => by injection hk with hk; omega)
set_option maxRecDepth 100000 in
set_option maxHeartbeats 2000000 in
theorem eget_any (sb : ByteArray) (hs : sb.size ≤ 40000) (w : World) : Calls Tryz.prog 15 #[.string sb] w fun en w' => en = .returned (.tuple #[.agg (getE (strL sb)).1.cells.toArray, .int .i64 (getE (strL sb)).2]) ∧ Below w.heap.size w w' := by
 obtain ⟨zc, hzc, hzl, hz1, hzr, hb0⟩ : ∃ z : List Value, Hid (z = evZ.cells) ∧ z.length = 18 ∧ (∀ v ∈ z, v.oneCell' = true) ∧ (∀ w : World, (zeroValue 25).run Tryz.prog w = .ok (.agg z.toArray) w) ∧ ∀ w : World, (Instr.build 25 #[]).run Tryz.prog w = .ok (.agg z.toArray) w := ⟨_, hide rfl, rfl, EvE.one evZ, zero_e0, build_e0⟩
 have hiz : (Tryz.prog.info? 25).map (·.size) = some zc.length := by rw [hzl]; exact isz18
 obtain ⟨cap, hcv⟩ : ∃ cap : World → Nat, ∀ w0, ∃ w1, (convert 9 59 (.string sb)).run Tryz.prog w0 = .ok (.slice (some ⟨w0.heap.size, 0, none⟩) (strL sb).length (cap w0)) w1 ∧ RowAt w1 (some ⟨w0.heap.size, 0, none⟩) (strL sb) ∧ Below w0.heap.size w0 w1 := ⟨fun w0 => (bytes_of sb (by omega) w0).choose, fun w0 => (bytes_of sb (by omega) w0).choose_spec⟩
 have hll : (strL sb).length ≤ 40000 := by rw [strL_length]; exact hs
 have hbz : Bs (strL sb) := strL_byte sb
 obtain ⟨zs, hzs⟩ : ∃ z, Hid (strL sb = z) := ⟨_, hide rfl⟩
 simp only [hzs.out] at hcv
 rw [hzs.out] at hll hbz ⊢
 have HBZ := hide hbz
 clear hbz
 obtain ⟨hB1, hr1, hs1⟩ := boxed_new w zc 25
 have ht1 := there_newN w zc.toArray 25 (n := 18) (by simp [hzl])
 have HG : Hid (∀ r, rawS (textS (numS zs 0 64).2.1 (numS zs 0 64).2.2 4194304).2.1 (textS (numS zs 0 64).2.1 (numS zs 0 64).2.2 4194304).2.2 16 = r → evS zs 0 = (⟨(numS zs 0 64).1, strOf (textS (numS zs 0 64).2.1 (numS zs 0 64).2.2 4194304).1, padN 16 r.1⟩, r.2.1, r.2.2)) := hide (fun r hr => by subst hr; rfl)
 obtain ⟨G, hG⟩ : ∃ G, Hid (getE zs = G) := ⟨_, hide rfl⟩
 rw [hG.out]
 go_enter Tryz.func15, Tryz.ntmps15
 go_upto_region 0 with fail
 try simp only [Act.put]
 refine pl_begin ?_
 refine pl_run (d := some 2) (v := .pointer (some ⟨w.heap.size, 0, none⟩)) (w' := w.alloc (.cells zc.toArray 25)) (by rfl) (ex_alloc rfl (hzr _)) rfl ?_
 simp only [nz]
 refine pl_t 3 (?_) (by rfl) ?_ rfl ?_
 rotate_left
 ·go_simp
  try with_reducible rfl
 simp only [nz]
 refine pl_nil ?_
 obtain ⟨W1, hW1⟩ : ∃ W, w.alloc (.cells zc.toArray 25) = W := ⟨_, rfl⟩
 rw [hW1] at hB1 hr1 hs1 ht1 ⊢
 clear hW1 hr1
 obtain ⟨W2, hcv1, row2, hb2⟩ := hcv W1
 go_upto_region 1 with fail
 try simp only [Act.put]
 refine pl_begin ?_
 refine pl_t 7 (?_) (by rfl) ?_ rfl ?_
 rotate_left
 ·go_simp
  try with_reducible rfl
 simp only [nz]
 refine pl_run (d := some 8) (v := .slice (some ⟨W1.heap.size, 0, none⟩) zs.length (cap W1)) (w' := W2) (by rfl) (ex_conv rfl rfl hcv1) rfl ?_
 simp only [nz]
 refine pl_call (d := some 9) (by rfl) (by go_simp; first | done | exact ⟨rfl, rfl⟩ | with_reducible rfl) rfl ?_
 refine (read_any _ (cap W1) zs W2 row2 (by omega)).mono ?_
 rintro _ W3 ⟨R, rfl, hRw, S0, hb3⟩
 refine ⟨_, rfl, ?_⟩
 simp only [nz]
 refine pl_t 4 (?_) (by rfl) ?_ rfl ?_
 rotate_left
 ·go_simp
  try with_reducible rfl
 simp only [nz]
 refine pl_nil ?_
 have z2 := hb2.size
 have z3 := hb3.size
 have hB3 := hB1.trans ((hb2.trans (hb3.mono z2)).mono hB1.size)
 have tT3 := there_below (there_below ht1 hb2 hs1) hb3 (by omega)
 obtain ⟨hB4, rA, sA⟩ := boxed_new W3 zc 25
 have tA := there_newN W3 zc.toArray 25 (n := 18) (by simp [hzl])
 go_upto_region 2 with fail
 try simp only [Act.put]
 refine pl_begin ?_
 refine pl_run (d := some 5) (v := .pointer (some ⟨W3.heap.size, 0, none⟩)) (w' := W3.alloc (.cells zc.toArray 25)) (by rfl) (ex_alloc rfl (hzr _)) rfl ?_
 simp only [nz]
 refine pl_nil ?_
 have S3 := S0.below hB4
 have hRlt := S0.1.1
 have B3' := hB3.trans (hB4.mono hB3.size)
 have tT := there_below tT3 hB4 (by omega)
 obtain ⟨w3, hw3⟩ : ∃ W, W3.alloc (.cells zc.toArray 25) = W := ⟨_, rfl⟩
 rw [hw3] at rA sA tA S3 B3' tT ⊢
 clear hw3
 obtain ⟨A, hA⟩ : ∃ A, W3.heap.size = A := ⟨_, rfl⟩
 rw [hA] at rA sA tA hRlt
 simp only [hA]
 have hAR : A ≠ R := by omega
 have hTA : w.heap.size < A := by omega
 have hTR : w.heap.size < R := by omega
 have sT : w.heap.size < w3.heap.size := by omega
 rw [hzc.out, evZ_cells] at rA
 clear hA hB3 hB1 hb2 hb3 z2 z3 hs1 ht1 tT3 S0 hB4 row2 hcv1 hcv hRw hzr
 have hp5' := numS_bd (most := 64) (rest := zs) (e := 0) (fun _ => HBZ.out) (by omega)
 have hb5' := numS_bz (most := 64) (rest := zs) (e := 0) (fun _ => HBZ.out)
 have hln5 := numS_len zs 0 64
 obtain ⟨⟨x1, y1, z1⟩, hn1⟩ : ∃ p, Hid (numS zs 0 64 = p) := ⟨_, hide rfl⟩
 go_upto_region 3 with fail
 try simp only [Act.put]
 refine pl_begin ?_
 refine pl_t 10 (?_) (by rfl) ?_ rfl ?_
 rotate_left
 ·go_simp
  try with_reducible rfl
 simp only [nz]
 refine pl_call (d := some 11) (by rfl) (by go_simp; first | done | exact ⟨rfl, rfl⟩ | with_reducible rfl) rfl ?_
 refine (num_any R zs 0 64 w3 S3).mono ?_
 rintro _ w4 ⟨hh, S4, g4⟩
 rw [hn1.out] at hh S4
 subst hh
 refine ⟨_, rfl, ?_⟩
 simp only [nz]
 refine pl_t 12 (.pointer (some ⟨A, 0, none⟩)) (by rfl) (by go_simp <;> (try simp [*])) rfl ?_
 simp only [nz]
 refine pl_store (w' := w4.setCells A 0 [.int .i64 x1]) (by rfl) (ex_put1 (n := 18) rfl rfl rfl (there_gbR tA g4 sA hAR) (by decide) iszI rfl rfl) rfl ?_
 refine pl_nil ?_
 have rA4 := range_gbR rA g4 sA hAR
 have tA4 := there_gbR tA g4 sA hAR
 have rA5 := range_set rA4 0 (.int .i64 x1)
 have B4 := low_gb B3' g4 (by omega) (by omega)
 have tT4 := there_gbR tT g4 (by omega) (by omega)
 have z4 := g4.size
 have hb5 : Below A w4 (w4.setCells A 0 [.int .i64 x1]) := below_sets (Nat.le_refl _) _ _ _ (Below.refl _ _)
 have S5 := S4.belowN hb5 hRlt
 have tA5 : (w4.setCells A 0 [.int .i64 x1]).there A 0 18 := World.there_setCells tA4 _ _ _
 have B5 := B4.trans (hb5.mono (by omega))
 have tT5 := there_below tT4 hb5 (by omega)
 have sA5 : A < (w4.setCells A 0 [.int .i64 x1]).heap.size := by rw [size_sets]; omega
 have rA5 : (w4.setCells A 0 [.int .i64 x1]).rangeAt A 0 (.int .i64 x1 :: .string ⟨#[]⟩ :: v8 (List.replicate 16 (0 : Int))) := rA5
 obtain ⟨w5, hw5⟩ : ∃ W, w4.setCells A 0 [.int .i64 x1] = W := ⟨_, rfl⟩
 rw [hw5] at rA5 tA5 S5 B5 tT5 sA5 ⊢
 clear hw5 rA rA4 tA tA4 S4 S3 g4 B3' B4 tT tT4 sA sT z4 hb5
 rw [hn1.out] at hp5' hb5' hln5
 have hp5 : 0 ≤ (numS y1 z1 9223372036854775807).1 := (numS_bd (most := 9223372036854775807) (rest := y1) (e := z1) hb5' (by omega)).1
 have hln6 := textS_len y1 z1 4194304
 obtain ⟨⟨x2, y2, z2⟩, hn2⟩ : ∃ p, Hid (textS y1 z1 4194304 = p) := ⟨_, hide rfl⟩
 obtain ⟨s1, hs1⟩ : ∃ s, Hid (strOf x2 = s) := ⟨_, hide rfl⟩
 go_upto_region 4 with fail
 try simp only [Act.put]
 refine pl_begin ?_
 refine pl_t 13 (?_) (by rfl) ?_ rfl ?_
 rotate_left
 ·go_simp
  try with_reducible rfl
 simp only [nz]
 refine pl_call (d := some 14) (by rfl) (by go_simp; first | done | exact ⟨rfl, rfl⟩ | with_reducible rfl) rfl ?_
 refine (text_any R y1 z1 4194304 w5 S5 hp5).mono ?_
 rintro _ w6 ⟨hh, S6, g6⟩
 rw [hn2.out] at hh S6
 rw [show strOf ((x2, y2, z2) : List Int × List Int × Int).1 = s1 from hs1.out] at hh
 subst hh
 refine ⟨_, rfl, ?_⟩
 simp only [nz]
 refine pl_t 15 (.pointer (some ⟨A, 1, none⟩)) (by rfl) (by go_simp <;> (try simp [*])) rfl ?_
 simp only [nz]
 refine pl_store (w' := w6.setCells A 1 [.string s1]) (by rfl) (ex_put1 (n := 18) rfl rfl rfl (there_gbR tA5 g6 sA5 hAR) (by decide) iszS9 rfl rfl) rfl ?_
 refine pl_nil ?_
 have rA6 := range_gbR rA5 g6 sA5 hAR
 have tA6 := there_gbR tA5 g6 sA5 hAR
 have rA7 := range_set rA6 1 (.string s1)
 have B6 := low_gb B5 g6 (by omega) (by omega)
 have tT6 := there_gbR tT5 g6 (by omega) (by omega)
 have z6 := g6.size
 have hb7 : Below A w6 (w6.setCells A 1 [.string s1]) := below_sets (Nat.le_refl _) _ _ _ (Below.refl _ _)
 have S7 := S6.belowN hb7 hRlt
 have tA7 : (w6.setCells A 1 [.string s1]).there A 0 18 := World.there_setCells tA6 _ _ _
 have B7 := B6.trans (hb7.mono (by omega))
 have tT7 := there_below tT6 hb7 (by omega)
 have sA7 : A < (w6.setCells A 1 [.string s1]).heap.size := by rw [size_sets]; omega
 have rA7 : (w6.setCells A 1 [.string s1]).rangeAt A 0 (.int .i64 x1 :: .string s1 :: v8 (List.replicate 16 (0 : Int))) := rA7
 obtain ⟨w7, hw7⟩ : ∃ W, w6.setCells A 1 [.string s1] = W := ⟨_, rfl⟩
 rw [hw7] at rA7 tA7 S7 B7 tT7 sA7 ⊢
 clear hw7 rA5 rA6 tA5 tA6 S5 S6 g6 B5 B6 tT5 tT6 sA5 z6 hb7
 go_upto_region 5 with fail
 have hdr : Below w7.heap.size w7 w7.drew := (Below.refl _ _).drew
 have rA8 := range_below rA7 hdr sA7
 have tA8 := there_below tA7 hdr sA7
 have S8 := S7.below hdr
 have B8 := B7.trans (hdr.mono B7.size)
 have tT8 := there_below tT7 hdr (by omega)
 have sA8 := Nat.lt_of_lt_of_le sA7 hdr.size
 refine hs_begin (S := fun _ : World => True) 5 rfl (by kernel_rfl) ?_
 obtain ⟨w8, hw8⟩ : ∃ W, w7.drew = W := ⟨_, rfl⟩
 rw [hw8] at rA8 tA8 S8 B8 tT8 sA8 ⊢
 clear hw8 hdr rA7 tA7 S7 B7 tT7 sA7
 have hS : (fun _ : World => True) w8 := trivial
 rw [hn2.out] at hln6
 have hl8 : y2.length ≤ 40000 := by simp only at hln5 hln6; omega
 obtain ⟨⟨r1, y3, z3⟩, hrw⟩ : ∃ p, Hid (rawS y2 z2 16 = p) := ⟨_, hide rfl⟩
 refine hs_t 0 16 (.pointer (some ⟨A, 2, none⟩)) rfl (by kernel_rfl) (by kernel_rfl) (by kernel_rfl) (by rfl) (fun w' hw => by go_simp <;> (try simp [*])) hS rfl ?_
 simp only [nz]
 refine hs_t 1 17 (.slice (some ⟨A, 2, none⟩) 16 16) rfl (by kernel_rfl) (by kernel_rfl) (by kernel_rfl) (by rfl) (fun w' hw => by go_simp; first | done | with_reducible rfl) hS rfl ?_
 simp only [nz]
 refine hs_t 2 18 (?_) rfl (by kernel_rfl) (by kernel_rfl) (by kernel_rfl) (by rfl) ?_ hS rfl ?_
 rotate_left
 ·intro w' hw
  go_simp
  try with_reducible rfl
 simp only [nz]
 refine hs_call (i := 3) (d := some 19) rfl (by kernel_rfl) (by rfl) (by go_simp; first | done | exact ⟨rfl, rfl⟩ | with_reducible rfl) rfl ?_
 refine (raw_big R y2 z2 16 w8 S8 hl8).mono ?_
 rintro _ w9 ⟨v9, rfl, m9, S9, g9⟩
 have hS : (fun _ : World => True) w9 := trivial
 refine ⟨_, rfl, hS, ?_⟩
 have hN : (rawS y2 z2 16).1.length = 16 ∨ (rawS y2 z2 16).1 = [] := rawS_N y2 z2 16
 rw [hrw.out] at m9 S9 hN
 obtain ⟨av, cv, hve, -, -, row9⟩ := m9.rowAt (by unfold maxLen; rcases hN with h | h <;> (rw [h]; simp))
 rw [hve]
 have tA9 := there_gbR tA8 g9 sA8 hAR
 have rA9 := range_gbR rA8 g9 sA8 hAR
 have sA9 := Nat.lt_of_lt_of_le sA8 g9.size
 have rz9 : w9.rangeAt A 2 (v8 (List.replicate 16 (0 : Int))) := fun j y hy => by
  have := rA9 (j + 2) y hy
  rw [show 0 + (j + 2) = 2 + j by omega] at this
  exact this
 obtain ⟨wc, hcp, hrc, hwc⟩ := copy_padO (n := 16) (cap := cv) (by decide) (there_partO tA9 (by decide)) rz9 row9 hN
 have hSc : (fun _ : World => True) wc := trivial
 simp only [nz]
 refine hs_run (i := 4) (d := some 20) (v := goInt r1.length) (w' := wc) rfl (by kernel_rfl) (by rfl) (exec_copy rfl rfl rfl hcp) rfl hSc ?_
 simp only [nz]
 refine hs_done (by kernel_rfl) ?_
 have z9 := g9.size
 have hbc : Below A w9 wc := by rw [hwc]; exact below_sets (Nat.le_refl _) _ _ _ (Below.refl _ _)
 have Sc := S9.belowN hbc hRlt
 have Bc : Below w.heap.size w wc := (low_gb B8 g9 (by omega) (by omega)).trans (hbc.mono (by omega))
 have tTc := there_below (there_gbR tT8 g9 (by omega) (by omega)) hbc hTA
 have tcc : wc.rangeAt A 0 [.int .i64 x1, .string s1] := by
  rw [hwc]
  exact World.rangeAt_setCells_apart (fun j y hy => by
   rcases j with _ | _ | j
   ·exact rA9 0 y hy
   ·exact rA9 1 y hy
   ·simp at hy) _ _ _ (.inr (.inl (by simp)))
 have rAc : wc.rangeAt A 0 (Ev.cells ⟨x1, s1, padN 16 r1⟩) := range_join (cs := [.int .i64 x1, .string s1]) tcc hrc
 have HEV := HG.out _ (by rw [hn1.out, hn2.out, hrw.out])
 rw [hn1.out, hn2.out] at HEV
 simp only [hs1.out] at HEV
 have HV := hide HEV
 have hok : Ev.ok ⟨x1, s1, padN 16 r1⟩ := by have := evS_ok HBZ.out; rw [HEV] at this; exact this
 have hql : (Ev.cells ⟨x1, s1, padN 16 r1⟩).length = 18 := EvE.len _ hok
 have hq1 := EvE.one ⟨x1, s1, padN 16 r1⟩
 have hiq : (Tryz.prog.info? 25).map (·.size) = some (Ev.cells ⟨x1, s1, padN 16 r1⟩).length := by rw [hql]; exact isz18
 have hq1 : ∀ v ∈ Ev.cells ⟨x1, s1, padN 16 r1⟩, v.oneCell' = true := hq1
 obtain ⟨q, hq⟩ : ∃ q, Hid (Ev.cells ⟨x1, s1, padN 16 r1⟩ = q) := ⟨_, hide rfl⟩
 rw [hq.out] at rAc hql hq1 hiq
 have hGd : Hid (G = if doneE y3 z3 = 0 then (⟨x1, s1, padN 16 r1⟩, 0) else (evZ, doneE y3 z3)) := hide (by
  rw [← hG.out]
  unfold getE
  rw [HV.out])
 clear HEV HG HV hcp hrc hwc row9 m9 hve S9 S8 g9 rA9 rA8 tA9 tA8 tT8 B8 rz9 tcc hok hS hSc hbc hN sA8 sA9 z9 hp5 hp5' hb5' hln5 hln6 hl8 hG
 obtain ⟨f, hf⟩ : ∃ f, doneE y3 z3 = f := ⟨_, rfl⟩
 rw [hf] at hGd
 go_upto_region 6 with fail
 try simp only [Act.put]
 refine pl_begin ?_
 refine pl_t 21 (?_) (by rfl) ?_ rfl ?_
 rotate_left
 ·go_simp
  try with_reducible rfl
 simp only [nz]
 refine pl_call (d := some 22) (by rfl) (by go_simp; first | done | exact ⟨rfl, rfl⟩ | with_reducible rfl) rfl ?_
 refine (done_any R y3 z3 wc Sc).mono ?_
 rintro _ wd ⟨rfl, hx⟩
 obtain rfl := hx.symm
 clear hx
 refine ⟨_, rfl, ?_⟩
 simp only [nz]
 refine pl_t 6 (?_) (by rfl) ?_ rfl ?_
 rotate_left
 ·go_simp
  try with_reducible rfl
 simp only [nz]
 refine pl_nil ?_
 simp only [hf]
 clear hf Sc
 by_cases hf0 : f = 0
 ·subst hf0
  have hr : G = (⟨x1, s1, padN 16 r1⟩, 0) := by rw [hGd.out, if_pos rfl]
  go_upto_region 9 with fail
  try simp only [Act.put]
  refine pl_begin ?_
  refine pl_t 27 (.agg q.toArray) (by rfl) (ex_mid rfl rfl rAc Tryz.underlying25 rfl hiq) rfl ?_
  simp only [nz]
  refine pl_store (w' := wc.setCells w.heap.size 0 q) (by rfl) (ex_put (cs := q.toArray) rfl rfl rfl (by simpa [hql] using tTc) (by simpa using hiq) (all_one hq1)) rfl ?_
  refine pl_t 3 (?_) (by rfl) ?_ rfl ?_
  rotate_left
  ·go_simp
   try with_reducible rfl
  simp only [nz]
  refine pl_nil ?_
  have hrs := run_loadVar_mid (P := Tryz.prog) (wc.setCells w.heap.size 0 q) w.heap.size 0 25 q _ (World.rangeAt_setCells_same wc w.heap.size 0 q (by rw [hql]; exact tTc)) Tryz.underlying25 rfl hiq
  have HF : Hid (Ending.returned (.tuple #[.agg q.toArray, .int .i64 0]) = Ending.returned (.tuple #[.agg G.1.cells.toArray, .int .i64 G.2]) ∧ Below w.heap.size w (wc.setCells w.heap.size 0 q)) := hide ⟨by rw [hr, ← hq.out], below_sets (Nat.le_refl _) _ _ _ Bc⟩
  clear rAc tTc Bc hGd hr
  go_wp2_with fail
  refine bodyPost_ret (results_ct rfl _ _ _ rfl hrs) rfl ?_
  exact HF.out
 ·have hfb : (f != 0) = true := by simpa using hf0
  have hr : G = (evZ, f) := by rw [hGd.out, if_neg hf0]
  go_upto_region 8 with fail
  try simp only [Act.put]
  refine pl_begin ?_
  refine pl_t 25 (.agg zc.toArray) (by rfl) (ex_build (parts := []) rfl rfl (hb0 _)) rfl ?_
  simp only [nz]
  refine pl_t 26 (?_) (by rfl) ?_ rfl ?_
  rotate_left
  ·go_simp
   try with_reducible rfl
  simp only [nz]
  refine pl_store (w' := wc.setCells w.heap.size 0 zc) (by rfl) (ex_put (cs := zc.toArray) rfl rfl rfl (by simpa [hzl] using tTc) (by simpa using hiz) (all_one hz1)) rfl ?_
  refine pl_t 3 (?_) (by rfl) ?_ rfl ?_
  rotate_left
  ·go_simp
   try with_reducible rfl
  simp only [nz]
  refine pl_nil ?_
  have hrs := run_loadVar_mid (P := Tryz.prog) (wc.setCells w.heap.size 0 zc) w.heap.size 0 25 zc _ (World.rangeAt_setCells_same wc w.heap.size 0 zc (by rw [hzl]; exact tTc)) Tryz.underlying25 rfl hiz
  have HF : Hid (Ending.returned (.tuple #[.agg zc.toArray, .int .i64 f]) = Ending.returned (.tuple #[.agg G.1.cells.toArray, .int .i64 G.2]) ∧ Below w.heap.size w (wc.setCells w.heap.size 0 zc)) := hide ⟨by rw [hr, ← hzc.out], below_sets (Nat.le_refl _) _ _ _ Bc⟩
  clear rAc tTc Bc hGd hr
  go_wp2_with fail
  refine bodyPost_ret (results_ct rfl _ _ _ rfl hrs) rfl ?_
  exact HF.out
end Go.Proofs.YtcbpbkefggekmaaGreatDoor
namespace Go.Proofs.YtcbpbkefggekmaaGreatDoor.Qs
open Go.RowKit
open Sha
end Go.Proofs.YtcbpbkefggekmaaGreatDoor.Qs
namespace Go.Proofs.YtcbpbkefggekmaaGreatDoor.Sha
open Go.Proofs.YtcbpbkefggekmaaGreatDoor.Qs
open Go.RowKit
open Sha
def macKey (zs : List Int) : List Int := if 64 < zs.length then sha zs else zs
def macBlock (zs : List Int) : List Int := macKey zs ++ List.replicate (64 - (macKey zs).length) 0
end Go.Proofs.YtcbpbkefggekmaaGreatDoor.Sha
namespace Go.Proofs.YtcbpbkefggekmaaGreatDoor.Qs
open Go.RowKit
open Sha
theorem isz52 : (Tryz.prog.info? 169).map (·.size) = some 64 := by kernel_rfl
theorem macKey_len (zs : List Int) : (macKey zs).length ≤ 64 := by
 unfold macKey
 split
 ·rw [sha_length]; omega
 ·omega
theorem macBlock_len (zs : List Int) : (macBlock zs).length = 64 := by
 have := macKey_len zs
 simp [macBlock]; omega
theorem new64 (w : World) : (w.alloc (.cells (Array.replicate 64 (.int .u8 0)) 169)).rangeAt w.heap.size 0 (v8 (List.replicate 64 (0 : Int))) ∧ (w.alloc (.cells (Array.replicate 64 (.int .u8 0)) 169)).there w.heap.size 0 64 := new_bytes w 64 169
theorem copy_head (w : World) (B : Nat) (a : Option Addr) (cap : Nat) (ks : List Int) (hl : ks.length ≤ 64) (h : RowAt w a ks) (hT : w.there B 0 64) (hz : w.rangeAt B 0 (v8 (List.replicate 64 (0 : Int)))) :
  ∃ w', (Builtin.copy_ #[59, 59] 3 #[.slice (some ⟨B, 0, none⟩) 64 64, .slice a ks.length cap]).run Tryz.prog w = .ok (goInt ks.length) w' ∧ w'.rangeAt B 0 (v8 (ks ++ List.replicate (64 - ks.length) (0 : Int))) ∧ w' = w.setCells B 0 (v8 ks) := by
 rcases h.2.2 with rfl | ⟨b, off, rfl, hb, hr⟩
 ·exact ⟨w, run_copy_none (P := Tryz.prog) w 59 59 3 5 _ a 64 64 0 cap Tryz.underlying59 isz8 rfl, by simpa using hz, rfl⟩
 ·refine ⟨w.setCells B 0 (v8 ks), ?_, ?_, rfl⟩
  ·have := run_copy_cells (P := Tryz.prog) w 59 59 3 5 B 0 64 64 ⟨b, off, none⟩ ks.length cap (v8 ks) Tryz.underlying59 isz8 (by rw [v8_length]; exact (Nat.min_eq_left hl).symm) (fun j v hv => by rw [Addr.add_mid]; exact hr j v hv) (fun j hj => by rw [v8_length] at hj; exact (hT j (by omega)).1) (fun j hj => by rw [v8_length] at hj; exact (hT j (by omega)).2) (v8_one _)
   rw [v8_length] at this
   exact this
  ·have e0 : List.replicate 64 (0 : Int) = [] ++ List.replicate ks.length (0 : Int) ++ List.replicate (64 - ks.length) (0 : Int) := by
    rw [List.nil_append, List.replicate_append_replicate]; congr 1; omega
   rw [e0, v8_append, v8_append] at hz
   have := range_fill (vs := v8 ks) hz (by simp) (by
    rw [v8_length]
    have := there_part hT 0 ks.length (by omega)
    simpa [v8] using this)
   rw [← v8_append, ← v8_append] at this
   simpa [v8] using this
set_option maxRecDepth 20000 in
set_option maxHeartbeats 1000000 in
theorem blockOf_any (a : Option Addr) (cap : Nat) (zs : List Int) (w : World) (hG : Glob w) (h : RowAt w a zs) (hc : zs.length ≤ cap) (hm : cap ≤ maxLen) (hl : zs.length ≤ 1000000) :
   Calls Tryz.prog 105 #[.slice a zs.length cap] w fun e w' => e = .returned (.agg (v8 (macBlock zs)).toArray) ∧ Below w.heap.size w w' := by
  go_enter Tryz.func105, Tryz.ntmps105
  go_upto_region 2 with fail
  go_name_world w1 hw1
  obtain ⟨hB1, hZ, hT, hT0, hz1⟩ : Below w.heap.size w w1 ∧ w1.rangeAt (w.heap.size + 1) 0 (v8 (List.replicate 64 (0 : Int))) ∧ w1.there (w.heap.size + 1) 0 64 ∧ w1.there w.heap.size 0 64 ∧ w1.heap.size = w.heap.size + 2 := by
    have q := new64 (w.alloc (.cells (Array.replicate 64 (.int .u8 0)) 169))
    have q2 := World.there_alloc (new64 w).2 (.cells (Array.replicate 64 (.int .u8 0)) 169)
    have es : (w.alloc (.cells (Array.replicate 64 (.int .u8 0)) 169)).heap.size = w.heap.size + 1 := by simp
    have hB : Below w.heap.size w ((w.alloc (.cells (Array.replicate 64 (.int .u8 0)) 169)).alloc (.cells (Array.replicate 64 (.int .u8 0)) 169)) := ((Below.refl _ _).alloc (Nat.le_refl _) _).alloc (by simp) _
    have hs : ((w.alloc (.cells (Array.replicate 64 (.int .u8 0)) 169)).alloc (.cells (Array.replicate 64 (.int .u8 0)) 169)).heap.size = w.heap.size + 2 := by simp
    rw [es] at q
    rw [show (w.alloc (.cells (Array.replicate 64 (.int .u8 0)) 169)).alloc (.cells (Array.replicate 64 (.int .u8 0)) 169) = w1 from hw1] at q q2 hB hs
    exact ⟨hB, q.1, q.2, q2, hs⟩
  clear hw1
  have HZ1 : Hid (w1.heap.size = w.heap.size + 2) := hz1
  clear hz1
  have fin : ∀ (w3 : World) (ks : List Int), ks = macKey zs → w3.rangeAt (w.heap.size + 1) 0 (v8 (ks ++ List.replicate (64 - ks.length) (0 : Int))) → w3.rangeAt (w.heap.size + 1) 0 (v8 (macBlock zs)) := fun w3 ks e hr => by rw [e] at hr; exact hr
  by_cases hlt : 64 < zs.length
  · have hltI : (64 : Int) < zs.length := by omega
    have ek : macKey zs = sha zs := by unfold macKey; rw [if_pos hlt]
    have hat : (⟨a, cap, zs⟩ : Part).at w1 := Part.at.below (w := w) ⟨h, hc, hm⟩ hB1
    have hP := one_part w1 #[.slice a zs.length cap] ⟨a, cap, zs⟩ hat rfl
    have hBp : Below w.heap.size w (w1.alloc (.cells #[.slice a zs.length cap] 59)) := hB1.alloc hB1.size _
    have hcz : cat [(⟨a, cap, zs⟩ : Part)] = zs := by simp [cat]
    have c1 := sum_any _ 1 _ _ (hG.below hBp) hP (by rw [hcz]; omega)
    rw [hcz] at c1
    simp only [List.length_cons, List.length_nil, Nat.zero_add] at c1
    have hBq : Below w1.heap.size w1 (w1.alloc (.cells #[.slice a zs.length cap] 59)) := (Below.refl _ _).alloc (Nat.le_refl _) _
    obtain ⟨d, hd⟩ : ∃ d, Hid (sha zs = d) := ⟨_, rfl⟩
    have hdl : d.length = 32 := by rw [← hd.out]; exact sha_length zs
    have hdo : ∀ z ∈ d, 0 ≤ z ∧ z < 256 := by rw [← hd.out]; exact sha_ok zs
    rw [hd.out] at c1 ek
    clear hP hat hcz
    go_wp2_with fail
    refine c1.mono ?_
    rintro e w2 ⟨rfl, hw2⟩
    have hw2' : Below w1.heap.size w1 w2 := hBq.trans (hw2.mono hBq.size)
    clear c1 hw2 hBq hBp
    have hd1 : (v8 d).length = 32 := by rw [v8_length, hdl]
    have F := fresh_store w2 (Array.replicate 32 (.int .u8 0)) 41 (v8 d) (by rw [hd1]; rfl)
    have hi24 : (Tryz.prog.info? 41).map (·.size) = some (v8 d).toArray.size := by rw [List.size_toArray, hd1]; exact isz24
    have hN24 : (w2.alloc (.cells (Array.replicate 32 (.int .u8 0)) 41)).there w2.heap.size 0 (v8 d).toArray.size := by
      have e : (v8 d).toArray.size = 32 := by rw [List.size_toArray, hd1]
      rw [e]; exact (new_bytes w2 32 41).2
    have h1d := all_oneCell_toArray (v8_one d)
    go_upto_region 4 with (refine wpList_store_mid (op := ⟨none, .store 41 (.tmp 4) (.tmp 10), _, _, _, none⟩) rfl 41 _ _ rfl _ _ (v8 d).toArray rfl rfl hN24 hi24 h1d ?_)
    go_name_world w4 hw4
    rw [show (w2.alloc (.cells (Array.replicate 32 (.int .u8 0)) 41)).setCells w2.heap.size 0 (v8 d) = w4 from hw4] at F
    obtain ⟨hRd, hBd, hzd, _⟩ := F
    have hw4' : Below w1.heap.size w1 w4 := hw2'.trans (hBd.mono hw2'.size)
    have hB4 : Below w.heap.size w w4 := hB1.trans (hw4'.mono hB1.size)
    have hZ4 := range_below hZ hw4' (by have := HZ1.out; omega)
    have hT4 := there_below hT hw4' (by have := HZ1.out; omega)
    have hT04 := there_below hT0 hw4' (by have := HZ1.out; omega)
    have hrow : RowAt w4 (some ⟨w2.heap.size, 0, none⟩) d := ⟨by rw [hdl]; unfold maxLen; omega, hdo, Or.inr ⟨_, _, rfl, by omega, hRd⟩⟩
    obtain ⟨w3, hcp, hr3, hw3⟩ := copy_head w4 (w.heap.size + 1) (some ⟨w2.heap.size, 0, none⟩) 32 d (by omega) hrow hT4 hZ4
    have hsl := slice_all (w := w4) Tryz.underlying169 isz8 (w.heap.size + 1) 0 (by omega)
    have hsl2 := slice_all (w := w4) Tryz.underlying41 isz8 w2.heap.size 0 (by omega)
    have hR3 := fin w3 d ek.symm hr3
    have hB3 : Below w.heap.size w w3 := by rw [hw3]; exact below_sets (Nat.le_succ _) _ _ _ hB4
    have hT3 : w3.there w.heap.size 0 64 := by rw [hw3]; exact World.there_setCells hT04 _ _ _
    have hml := macBlock_len zs
    rw [hdl] at hcp
    clear fin hr3 ek hw4 hN24 hi24 h1d hd1 hZ hT hT0 hB1
    simp only [Act.put]
    go_upto_region 6 with fail
    rw [← hw3]
    obtain ⟨cs, hcs⟩ : ∃ cs, Hid (v8 (macBlock zs) = cs) := ⟨_, rfl⟩
    have hcl : cs.length = 64 := by rw [← hcs.out, v8_length, hml]
    have h1c : ∀ v ∈ cs, v.oneCell' = true := by rw [← hcs.out]; exact v8_one _
    rw [hcs.out] at hR3
    have hi : (Tryz.prog.info? 169).map (·.size) = some cs.length := by rw [hcl]; exact isz52
    clear hw3
    refine wp_region_list ?_
    refine wpList_load_mid rfl 169 _ rfl _ _ rfl cs _ hR3 Tryz.underlying169 rfl hi ?_
    refine wpList_store_mid rfl 169 _ _ rfl _ _ cs.toArray rfl rfl (by simpa [hcl] using hT3) (by simpa using hi) (all_oneCell_toArray h1c) ?_
    have hRr := World.rangeAt_setCells_same w3 w.heap.size 0 cs (by rw [hcl]; exact hT3)
    have hBl := below_sets (Nat.le_refl w.heap.size) cs 0 w3 hB3
    generalize w3.setCells w.heap.size 0 cs = wx at *
    have hrs := run_loadVar_mid (P := Tryz.prog) wx w.heap.size 0 169 cs _ hRr Tryz.underlying169 rfl hi
    clear hi
    go_wp2_with fail
    refine bodyPost_ret (v := .agg cs.toArray) (by simp [results, Tryz.results105, Act.put, asAddr, hrs]) rfl ⟨by rw [hcs.out], hBl⟩
  · have hltI : ¬ (64 : Int) < zs.length := by omega
    have ek : macKey zs = zs := by unfold macKey; rw [if_neg hlt]
    obtain ⟨w3, hcp, hr3, hw3⟩ := copy_head w1 (w.heap.size + 1) a cap zs (by omega) (h.below hB1) hT hZ
    have hsl := slice_all (w := w1) Tryz.underlying169 isz8 (w.heap.size + 1) 0 (by omega)
    have hR3 := fin w3 zs ek.symm hr3
    have hB3 : Below w.heap.size w w3 := by rw [hw3]; exact below_sets (Nat.le_succ _) _ _ _ hB1
    have hT3 : w3.there w.heap.size 0 64 := by rw [hw3]; exact World.there_setCells hT0 _ _ _
    have hml := macBlock_len zs
    clear fin hr3 ek
    go_upto_region 6 with fail
    rw [← hw3]
    obtain ⟨cs, hcs⟩ : ∃ cs, Hid (v8 (macBlock zs) = cs) := ⟨_, rfl⟩
    have hcl : cs.length = 64 := by rw [← hcs.out, v8_length, hml]
    have h1c : ∀ v ∈ cs, v.oneCell' = true := by rw [← hcs.out]; exact v8_one _
    rw [hcs.out] at hR3
    have hi : (Tryz.prog.info? 169).map (·.size) = some cs.length := by rw [hcl]; exact isz52
    clear hw3
    refine wp_region_list ?_
    refine wpList_load_mid rfl 169 _ rfl _ _ rfl cs _ hR3 Tryz.underlying169 rfl hi ?_
    refine wpList_store_mid rfl 169 _ _ rfl _ _ cs.toArray rfl rfl (by simpa [hcl] using hT3) (by simpa using hi) (all_oneCell_toArray h1c) ?_
    have hRr := World.rangeAt_setCells_same w3 w.heap.size 0 cs (by rw [hcl]; exact hT3)
    have hBl := below_sets (Nat.le_refl w.heap.size) cs 0 w3 hB3
    generalize w3.setCells w.heap.size 0 cs = wx at *
    have hrs := run_loadVar_mid (P := Tryz.prog) wx w.heap.size 0 169 cs _ hRr Tryz.underlying169 rfl hi
    clear hi
    go_wp2_with fail
    refine bodyPost_ret (v := .agg cs.toArray) (by simp [results, Tryz.results105, asAddr, hrs]) rfl ⟨by rw [hcs.out], hBl⟩
def xorB (x z : Int) : Int := bits .xor .u8 z x
theorem xorB_ok (x z : Int) : 0 ≤ xorB x z ∧ xorB x z < 256 := by
 unfold xorB
 show 0 ≤ IntKind.u8.wrap _ ∧ IntKind.u8.wrap _ < 256
 rw [IntKind.wrap_u8]; omega
def xorL (x : Int) (zs : List Int) : List Int := zs.map (xorB x)
theorem xorL_ok (x : Int) (zs : List Int) : ∀ z ∈ xorL x zs, 0 ≤ z ∧ z < 256 := fun z hz => by
 obtain ⟨u, _, rfl⟩ := List.mem_map.1 hz; exact xorB_ok x u
theorem xorL_len (x : Int) (zs : List Int) : (xorL x zs).length = zs.length := by simp [xorL]
theorem parts_src {w : World} {a : Option Addr} {ps : List Part} (h : PartsAt w a ps) (cap : Nat) : Src Tryz.prog 1 166 (.slice a ps.length cap) ps.length (ps.map Part.val) w := by
 have one : ∀ u ∈ ps.map Part.val, u.oneCell' = true := fun u hu => by
  obtain ⟨p, _, rfl⟩ := List.mem_map.1 hu; rfl
 cases a with
 | none =>
  have : ps = [] := by
   rcases h.2.2 with q | ⟨b, off, hx, _⟩
   ·exact q
   ·cases hx
  subst this
  exact Src.ofNil w Tryz.underlying166 cap
 | some y =>
  refine Src.ofSlice w Tryz.underlying166 y ps.length cap _ (by simp) (fun j u hu => ?_) one
  rcases h.2.2 with rfl | ⟨b, off, hx, _, hr⟩
  ·simp at hu
  ·cases hx
   rw [Addr.add_mid]
   exact hr j u hu
set_option maxRecDepth 20000 in
set_option maxHeartbeats 1000000 in
theorem macC_any (x : Int) (K : Nat) (kb : List Int) (a : Option Addr) (cap : Nat) (ps : List Part) (w : World) (hG : Glob w) (hkl : kb.length = 64) (hK : w.rangeAt K 0 (v8 kb)) (hKs : K < w.heap.size) (h : PartsAt w a ps) (hn : (cat ps).length < 1000000) (hpl : ps.length ≤ 100000) :
   Calls Tryz.prog 106 #[.int .u8 x, .slice a ps.length cap, .pointer (some ⟨K, 0, none⟩)] w fun e w' => e = .returned (.agg (v8 (sha (xorL x kb ++ cat ps))).toArray) ∧ Below w.heap.size w w' := by
  have hBr : Below w.heap.size w (w.alloc (.cells (Array.replicate 32 (.int .u8 0)) 41)) := (Below.refl _ _).alloc (Nat.le_refl _) _
  have hT0 := (new_bytes w 32 41).2
  have hK1 := range_below hK hBr hKs
  have hvl : (v8 kb).length = 64 := by rw [v8_length, hkl]
  have hi : (Tryz.prog.info? 169).map (·.size) = some (v8 kb).length := by rw [hvl]; exact isz52
  have hi' : (Tryz.prog.info? 169).map (·.size) = some (v8 kb).toArray.size := by rw [List.size_toArray]; exact hi
  have hN := (new64 (w.alloc (.cells (Array.replicate 32 (.int .u8 0)) 41))).2
  have hN' : ((w.alloc (.cells (Array.replicate 32 (.int .u8 0)) 41)).alloc (.cells (Array.replicate 64 (.int .u8 0)) 169)).there (w.heap.size + 1) 0 (v8 kb).toArray.size := by
    have e : (v8 kb).toArray.size = 64 := by rw [List.size_toArray, hvl]
    rw [e]
    have es : (w.alloc (.cells (Array.replicate 32 (.int .u8 0)) 41)).heap.size = w.heap.size + 1 := by simp
    rw [es] at hN
    exact hN
  have h1c := all_oneCell_toArray (v8_one kb)
  have F := fresh_store (w.alloc (.cells (Array.replicate 32 (.int .u8 0)) 41)) (Array.replicate 64 (.int .u8 0)) 169 (v8 kb) (by rw [hvl]; rfl)
  have es : (w.alloc (.cells (Array.replicate 32 (.int .u8 0)) 41)).heap.size = w.heap.size + 1 := by simp
  rw [es] at F
  clear hN
  go_enter Tryz.func106, Tryz.ntmps106
  go_upto_region 2 with (first | refine wpList_load_mid (op := ⟨some 9, .load 169 (.tmp 2), _, _, _, none⟩) rfl 169 _ rfl _ _ rfl (v8 kb) _ hK1 Tryz.underlying169 rfl hi ?_ | refine wpList_store_mid (op := ⟨none, .store 169 (.tmp 6) (.tmp 9), _, _, _, none⟩) rfl 169 _ _ rfl _ _ (v8 kb).toArray rfl rfl hN' hi' h1c ?_)
  go_name_world w1 hw1
  rw [show ((w.alloc (.cells (Array.replicate 32 (.int .u8 0)) 41)).alloc (.cells (Array.replicate 64 (.int .u8 0)) 169)).setCells (w.heap.size + 1) 0 (v8 kb) = w1 from hw1] at F
  obtain ⟨hR1, hB1', hz1, hT1⟩ := F
  have hB1 : Below w.heap.size w w1 := hBr.trans (hB1'.mono (by omega))
  have hT01 := there_below hT0 hB1' (by omega)
  have hT1' : w1.there (w.heap.size + 1) 0 64 := by simpa using hT1
  clear hw1 hB1' hT1 hN' hi hi' h1c hvl hK1 hT0 hBr es hz1
  simp only [Act.put]
  go_wp2_with fail
  go_loopw [10] (fun i wr => ∃ k : Nat, k ≤ 64 ∧ i = .int .i64 (k : Int) ∧ wr.rangeAt (w.heap.size + 1) 0 (v8 (xorL x (kb.take k) ++ kb.drop k)) ∧ wr.there (w.heap.size + 1) 0 64 ∧ wr.there w.heap.size 0 32 ∧ Below w.heap.size w wr ∧ w.heap.size + 1 < wr.heap.size) (fun i _ => 64 - (intOf i).toNat)
  case atStart => exact ⟨0, by omega, rfl, by simpa [xorL] using hR1, hT1', hT01, hB1, World.block_lt_of_cell? w1 _ (hR1 0 (.int .u8 (kb.getD 0 0)) (by
      have h0 : 0 < kb.length := by omega
      simp [v8, List.getElem?_eq_getElem h0]))⟩
  case round =>
    clear hR1 hT1' hT01 hB1
    obtain ⟨k, hk, rfl, hR, hT, hT0, hB, hsz⟩ := hrel
    by_cases hlt : k < 64
    · have hlk : k < kb.length := by omega
      obtain ⟨z, hz⟩ : ∃ z, Hid (kb[k] = z) := ⟨kb[k], (rfl : kb[k] = kb[k])⟩
      have hcell : wr.cell? ⟨w.heap.size + 1, k, none⟩ = some (.int .u8 z) := by
        have := hR k (.int .u8 z) (by
          unfold v8
          rw [List.map_append, List.getElem?_append_right (by rw [List.length_map, xorL_len, List.length_take]; omega), List.length_map, xorL_len, List.length_take_of_le (by omega), Nat.sub_self, List.getElem?_map, List.getElem?_drop, Nat.add_zero, List.getElem?_eq_getElem hlk, hz.out]
          rfl)
        rwa [Nat.zero_add] at this
      have hf := (hT k (by omega)).2
      rw [Nat.zero_add] at hf
      have HE : Hid (bits .xor .u8 z x = xorB x z) := rfl
      go_wp2_with fail
      rw [HE.out]
      go_roundw
      case rel =>
        refine ⟨k + 1, by omega, by go_num, ?_, there_set hT _ _, there_set hT0 _ _, hB.setCell (p := ⟨w.heap.size + 1, k, none⟩) (by simp) _, by simpa using hsz⟩
        have := range_set hR k (.int .u8 (xorB x z))
        rw [Nat.zero_add, v8_set] at this
        have e1 : (xorL x (kb.take k) ++ kb.drop k).set k (xorB x z) = xorL x (kb.take (k + 1)) ++ kb.drop (k + 1) := by
          have hl : (xorL x (kb.take k)).length = k := by rw [xorL_len, List.length_take_of_le (by omega)]
          rw [List.set_append_right _ _ (by omega), hl, Nat.sub_self, List.drop_eq_getElem_cons hlk, hz.out, List.set_cons_zero, List.take_succ_eq_append_getElem hlk, hz.out]
          simp [xorL]
        rw [e1] at this
        exact this
      case measure => simp [intOf]; omega
    · have hk64 : k = 64 := by omega
      have hkI : ¬ (k : Int) < 64 := by omega
      have hR64 : wr.rangeAt (w.heap.size + 1) 0 (v8 (xorL x kb)) := by
        rw [List.take_of_length_le (by omega), List.drop_eq_nil_of_le (by omega), List.append_nil] at hR
        exact hR
      clear hR hk64
      have hPw := h.below hB
      obtain ⟨i0, hi, hz0, hz1, hz2⟩ := info_parts infoP
      obtain ⟨w3, hmk, hown3, hgr3⟩ := run_makeSlice_owned (P := Tryz.prog) wr (w.heap.size + 2) 166 59 i0 (.slice none 0 0) 1 Tryz.underlying166 hi hz0 hz1 .i64 .i64 (1 + ps.length) (by omega) (by rw [hz2]; omega) (by unfold maxLen; omega) (by omega)
      have hmk' : (Instr.makeSlice 166 (.int .i64 0) (.int .i64 (1 + (ps.length : Int)))).run Tryz.prog wr = .ok (.slice (some ⟨wr.heap.size, 0, none⟩) 0 (1 + ps.length)) w3 := by
        have := hmk
        rw [show ((1 + ps.length : Nat) : Int) = 1 + (ps.length : Int) by omega] at this
        exact this
      have hw3 : Below (w.heap.size + 2) wr w3 := (Below.refl _ _).grown hgr3 (by omega) (fun _ h => by cases h)
      have hs3 : wr.heap.size ≤ w3.heap.size := hw3.size
      clear hmk hgr3
      obtain ⟨c0, hc0⟩ : ∃ c0, Hid (1 + ps.length = c0) := ⟨_, rfl⟩
      have hown4 := owns_below hown3 ((Below.refl w3.heap.size w3).alloc (Nat.le_refl _) (.cells #[.slice (some ⟨w.heap.size + 1, 0, none⟩) 64 64] 59))
      have hB4 : Below (w.heap.size + 2) wr (w3.alloc (.cells #[.slice (some ⟨w.heap.size + 1, 0, none⟩) 64 64] 59)) := hw3.alloc (by omega) _
      have hxl : (xorL x kb).length = 64 := by rw [xorL_len, hkl]
      have hsrc : Src Tryz.prog 1 166 (.slice (some ⟨w3.heap.size, 0, none⟩) 1 1) 1 [.slice (some ⟨w.heap.size + 1, 0, none⟩) 64 64] (w3.alloc (.cells #[.slice (some ⟨w.heap.size + 1, 0, none⟩) 64 64] 59)) := by
        have := one_src w3 ⟨some ⟨w.heap.size + 1, 0, none⟩, 64, xorL x kb⟩
        unfold Part.val at this
        rw [hxl] at this
        exact this
      have hsl := slice_all (w := w3) Tryz.underlying169 isz8 (w.heap.size + 1) 0 (by omega)
      go_wp2_with (at_builtin; refine wpList_append_own_src _ rfl _ _ 166 166 rfl (w.heap.size + 2) 59 i0 (.slice none 0 0) 1 24 Tryz.underlying166 hi hz0 hz1 hz2 rfl _ 0 _ rfl hown4 _ 1 _ rfl hsrc ?c1 ?c2 ?c3 ?_)
      case c1 => unfold maxLen; omega
      case c3 => omega
      intro v5 w5 hown5 hgr5
      have hB5 := below_grown hB4 (by simp; omega) hown4 hgr5
      have hown5' : w5.ownsRow (w.heap.size + 2) 59 1 v5 1 [.slice (some ⟨w.heap.size + 1, 0, none⟩) 64 64] := by simpa using hown5
      have hs5 : wr.heap.size ≤ w5.heap.size := hB5.size
      have hBw5 : Below w.heap.size w w5 := hB.trans (hB5.mono (by omega))
      have hP5 := h.below hBw5
      have hsrc5 := parts_src hP5 cap
      clear hown4 hB4 hsrc hgr5 hown3 hmk' hsl hw3 hown5
      obtain ⟨va, vc, rfl⟩ : ∃ a c, v5 = .slice a 1 c := by
        rcases own_range hown5' with ⟨_, h0, _⟩ | ⟨g, c, e, _⟩
        · omega
        · exact ⟨_, c, e⟩
      go_wp2_with (at_builtin; refine wpList_append_own_src _ rfl _ _ 166 166 rfl (w.heap.size + 2) 59 i0 (.slice none 0 0) 1 24 Tryz.underlying166 hi hz0 hz1 hz2 rfl _ 1 _ rfl hown5' _ ps.length _ rfl hsrc5 ?d1 ?d2 ?d3 ?_)
      case d1 => unfold maxLen; omega
      case d2 => omega
      case d3 => omega
      intro v6 w6 hown6 hgr6
      have hB6 := below_grown hB5 (by omega) hown5' hgr6
      have hBw6 : Below w.heap.size w w6 := hB.trans (hB6.mono (by omega))
      have hs6 : wr.heap.size ≤ w6.heap.size := hB6.size
      have hR6 := range_below hR64 hB6 (by omega)
      have hT6 := there_below hT0 hB6 (by omega)
      have hat : (⟨some ⟨w.heap.size + 1, 0, none⟩, 64, xorL x kb⟩ : Part).at w6 := ⟨⟨by rw [hxl]; unfold maxLen; omega, xorL_ok x kb, Or.inr ⟨_, _, rfl, by omega, hR6⟩⟩, by show (xorL x kb).length ≤ 64; omega, by show 64 ≤ maxLen; unfold maxLen; omega⟩
      have hown7 : w6.ownsRow (w.heap.size + 2) 59 1 v6 ((⟨some ⟨w.heap.size + 1, 0, none⟩, 64, xorL x kb⟩ : Part) :: ps).length (((⟨some ⟨w.heap.size + 1, 0, none⟩, 64, xorL x kb⟩ : Part) :: ps).map Part.val) := by
        have e : ((⟨some ⟨w.heap.size + 1, 0, none⟩, 64, xorL x kb⟩ : Part) :: ps).map Part.val = [.slice (some ⟨w.heap.size + 1, 0, none⟩) 64 64] ++ ps.map Part.val := by
          simp only [List.map_cons, Part.val, hxl]; rfl
        rw [e, List.length_cons, Nat.add_comm ps.length 1]
        exact hown6
      obtain ⟨av, cv, rfl, hPA⟩ := own_parts hown7 (fun p hp => by
        rcases List.mem_cons.1 hp with rfl | hp
        · exact hat
        · exact (h.2.1 p hp).below hBw6) (by simp; unfold maxLen; omega)
      have hcat : cat ((⟨some ⟨w.heap.size + 1, 0, none⟩, 64, xorL x kb⟩ : Part) :: ps) = xorL x kb ++ cat ps := by simp [cat]
      have c1 := sum_any av cv _ w6 (hG.below hBw6) hPA (by rw [hcat, List.length_append, hxl]; omega)
      rw [hcat] at c1
      have hlen : ((⟨some ⟨w.heap.size + 1, 0, none⟩, 64, xorL x kb⟩ : Part) :: ps).length = 1 + ps.length := by simp; omega
      rw [hlen] at c1 ⊢
      obtain ⟨d, hd⟩ : ∃ d, Hid (v8 (sha (xorL x kb ++ cat ps)) = d) := ⟨_, rfl⟩
      have hdl : d.length = 32 := by rw [← hd.out, v8_length, sha_length]
      have h1d : ∀ v ∈ d, v.oneCell' = true := by rw [← hd.out]; exact v8_one _
      rw [hd.out] at c1
      clear hown6 hown7 hPA hcat hlen hgr6 hB6 hB5 hown5' hsrc5 hP5 hat hR6
      go_wp2_with fail
      refine c1.mono ?_
      rintro e w7 ⟨rfl, hw7⟩
      have hB7 := hBw6.trans (hw7.mono hBw6.size)
      have hT7 := there_below hT6 hw7 (by omega)
      have hi24 : (Tryz.prog.info? 41).map (·.size) = some d.toArray.size := by rw [List.size_toArray, hdl]; exact isz24
      have hsz24 : d.toArray.size = 32 := by rw [List.size_toArray, hdl]
      have hT7' : w7.there w.heap.size 0 d.toArray.size := by rw [hsz24]; exact hT7
      clear c1 hw7
      go_wp2_with (refine wpList_store_mid (op := ⟨none, .store 41 (.tmp 5) (.tmp 31), _, _, _, none⟩) rfl 41 _ _ rfl _ _ d.toArray rfl rfl hT7' hi24 (all_oneCell_toArray h1d) ?_)
      have hRr := World.rangeAt_setCells_same w7 w.heap.size 0 d (by rw [hdl]; exact hT7)
      have hBl := below_sets (Nat.le_refl w.heap.size) d 0 w7 hB7
      have hrs := run_loadVar_mid (P := Tryz.prog) (w7.setCells w.heap.size 0 d) w.heap.size 0 41 d _ hRr Tryz.underlying41 rfl (by rw [hdl]; exact isz24)
      refine bodyPost_ret (v := .agg d.toArray) (by simp [results, Tryz.results106, Act.put, asAddr, hrs]) rfl ⟨by rw [hd.out], hBl⟩
end Go.Proofs.YtcbpbkefggekmaaGreatDoor.Qs
namespace Go.Proofs.YtcbpbkefggekmaaGreatDoor.Sha
open Go.Proofs.YtcbpbkefggekmaaGreatDoor.Qs
open Go.RowKit
open Sha
def mac (key zs : List Int) : List Int := sha (xorL 92 (macBlock key) ++ sha (xorL 54 (macBlock key) ++ zs))
end Go.Proofs.YtcbpbkefggekmaaGreatDoor.Sha
namespace Go.Proofs.YtcbpbkefggekmaaGreatDoor.Qs
open Go.RowKit
open Sha
theorem mac_length (key zs : List Int) : (mac key zs).length = 32 := sha_length _
theorem mac_ok (key zs : List Int) : ∀ z ∈ mac key zs, 0 ≤ z ∧ z < 256 := sha_ok _
theorem there24 (w : World) (d : List Int) (hd : d.length = 32) : (w.alloc (.cells (Array.replicate 32 (.int .u8 0)) 41)).there w.heap.size 0 (v8 d).toArray.size := by
 have e : (v8 d).toArray.size = 32 := by rw [List.size_toArray, v8_length, hd]
 rw [e]; exact (new_bytes w 32 41).2
theorem info24 (d : List Int) (hd : d.length = 32) : (Tryz.prog.info? 41).map (·.size) = some (v8 d).toArray.size := by rw [List.size_toArray, v8_length, hd]; exact isz24
set_option maxRecDepth 20000 in
set_option maxHeartbeats 1000000 in
theorem mac_any (ka : Option Addr) (kc : Nat) (key : List Int) (a : Option Addr) (cap : Nat) (ps : List Part) (w : World) (hG : Glob w) (hk : RowAt w ka key) (hkc : key.length ≤ kc) (hkm : kc ≤ maxLen) (hkl : key.length ≤ 1000000) (h : PartsAt w a ps) (hn : (cat ps).length < 1000000) (hpl : ps.length ≤ 100000) :
   Calls Tryz.prog 64 #[.slice ka key.length kc, .slice a ps.length cap] w fun e w' => e = .returned (.agg (v8 (mac key (cat ps))).toArray) ∧ Below w.heap.size w w' := by
  have hB0 : Below w.heap.size w (w.alloc (.cells (Array.replicate 32 (.int .u8 0)) 41)) := (Below.refl _ _).alloc (Nat.le_refl _) _
  have hT0 := (new_bytes w 32 41).2
  have cb := blockOf_any ka kc key _ (hG.below hB0) (hk.below hB0) hkc hkm hkl
  obtain ⟨kb, hkb⟩ : ∃ kb, Hid (macBlock key = kb) := ⟨_, rfl⟩
  have hbl : kb.length = 64 := by rw [← hkb.out]; exact macBlock_len key
  have HM : Hid (mac key (cat ps) = sha (xorL 92 kb ++ sha (xorL 54 kb ++ cat ps))) := by rw [← hkb.out]; rfl
  rw [hkb.out] at cb
  clear hkb
  have hsb : (v8 kb).length = 64 := by rw [v8_length, hbl]
  go_enter Tryz.func64, Tryz.ntmps64
  go_wp2_with fail
  refine cb.mono ?_
  rintro e w1 ⟨rfl, hw1⟩
  clear cb
  have hB1 := hB0.trans (hw1.mono hB0.size)
  have hs1 := hw1.size
  simp only [World.size_alloc] at hs1
  have hT1 := there_below hT0 hw1 (by simp)
  have F := fresh_store w1 (Array.replicate 64 (.int .u8 0)) 169 (v8 kb) (by rw [hsb]; rfl)
  have hN : (w1.alloc (.cells (Array.replicate 64 (.int .u8 0)) 169)).there w1.heap.size 0 (v8 kb).toArray.size := by
    have e : (v8 kb).toArray.size = 64 := by rw [List.size_toArray, hsb]
    rw [e]; exact (new64 w1).2
  have hi : (Tryz.prog.info? 169).map (·.size) = some (v8 kb).toArray.size := by rw [List.size_toArray, hsb]; exact isz52
  have h1c := all_oneCell_toArray (v8_one kb)
  go_upto_region 3 with (refine wpList_store_mid (op := ⟨none, .store 169 (.tmp 5) (.tmp 9), _, _, _, none⟩) rfl 169 _ _ rfl _ _ (v8 kb).toArray rfl rfl hN hi h1c ?_)
  go_name_world w2 hw2
  rw [show (w1.alloc (.cells (Array.replicate 64 (.int .u8 0)) 169)).setCells w1.heap.size 0 (v8 kb) = w2 from hw2] at F
  obtain ⟨hR2, hB2', hz2', _⟩ := F
  have hz2 : w1.heap.size < w2.heap.size := by omega
  clear hz2'
  clear hw2 hN hi h1c hw1 hT0 hB0
  have hB2 := hB1.trans (hB2'.mono hB1.size)
  have hT2 := there_below hT1 hB2' (by omega)
  have c1 := macC_any 54 w1.heap.size kb a cap ps w2 (hG.below hB2) hbl hR2 (by omega) (h.below hB2) hn hpl
  obtain ⟨d, hd⟩ : ∃ d, Hid (sha (xorL 54 kb ++ cat ps) = d) := ⟨_, rfl⟩
  have hdl : d.length = 32 := by rw [← hd.out]; exact sha_length _
  have hdo : ∀ z ∈ d, 0 ≤ z ∧ z < 256 := by rw [← hd.out]; exact sha_ok _
  rw [hd.out] at c1 HM
  clear hd hB1 hT1
  try simp only [Act.put]
  go_wp2_with fail
  refine c1.mono ?_
  rintro e w3 ⟨rfl, hw3⟩
  clear c1
  have hB3 := hB2.trans (hw3.mono hB2.size)
  have hT3 := there_below hT2 hw3 (by omega)
  have hR3 := range_below hR2 hw3 (by omega)
  have hs3 := hw3.size
  have F := fresh_store w3 (Array.replicate 32 (.int .u8 0)) 41 (v8 d) (by rw [v8_length, hdl]; rfl)
  have hN := there24 w3 d hdl
  have hi := info24 d hdl
  have h1c := all_oneCell_toArray (v8_one d)
  go_upto_region 4 with (refine wpList_store_mid (op := ⟨none, .store 41 (.tmp 7) (.tmp 13), _, _, _, none⟩) rfl 41 _ _ rfl _ _ (v8 d).toArray rfl rfl hN hi h1c ?_)
  go_name_world w4 hw4
  rw [show (w3.alloc (.cells (Array.replicate 32 (.int .u8 0)) 41)).setCells w3.heap.size 0 (v8 d) = w4 from hw4] at F
  obtain ⟨hR4, hB4', hz4', _⟩ := F
  have hz4 : w3.heap.size < w4.heap.size := by omega
  clear hz4'
  clear hw4 hN hi h1c hw3 hR2 hT2
  have hB4 := hB3.trans (hB4'.mono hB3.size)
  have hT4 := there_below hT3 hB4' (by omega)
  have hR4k := range_below hR3 hB4' (by omega)
  have hsl := slice_all (w := w4) Tryz.underlying41 isz8 w3.heap.size 0 (by omega)
  have hat : (⟨some ⟨w3.heap.size, 0, none⟩, 32, d⟩ : Part).at w4 := ⟨⟨by rw [hdl]; unfold maxLen; omega, hdo, Or.inr ⟨_, _, rfl, by omega, hR4⟩⟩, by show d.length ≤ 32; omega, by show 32 ≤ maxLen; unfold maxLen; omega⟩
  have hP := one_part w4 #[.slice (some ⟨w3.heap.size, 0, none⟩) 32 32] ⟨some ⟨w3.heap.size, 0, none⟩, 32, d⟩ hat (by simp only [Part.val, hdl])
  have hBp : Below w.heap.size w (w4.alloc (.cells #[.slice (some ⟨w3.heap.size, 0, none⟩) 32 32] 59)) := hB4.alloc hB4.size _
  have hBq : Below w4.heap.size w4 (w4.alloc (.cells #[.slice (some ⟨w3.heap.size, 0, none⟩) 32 32] 59)) := (Below.refl _ _).alloc (Nat.le_refl _) _
  have hcz : cat [(⟨some ⟨w3.heap.size, 0, none⟩, 32, d⟩ : Part)] = d := by simp [cat]
  have c2 := macC_any 92 w1.heap.size kb _ 1 _ _ (hG.below hBp) hbl (range_below hR4k hBq (by omega)) (by simp; omega) hP (by rw [hcz]; omega) (by simp)
  rw [hcz] at c2
  simp only [List.length_cons, List.length_nil, Nat.zero_add] at c2
  obtain ⟨m, hm⟩ : ∃ m, Hid (sha (xorL 92 kb ++ d) = m) := ⟨_, rfl⟩
  have hml : m.length = 32 := by rw [← hm.out]; exact sha_length _
  rw [hm.out] at c2 HM
  clear hP hat hcz hm
  try simp only [Act.put]
  go_wp2_with fail
  refine c2.mono ?_
  rintro e w5 ⟨rfl, hw5⟩
  clear c2
  have hB5 := hBp.trans (hw5.mono hBp.size)
  have hT5' := there_below (there_below hT4 hBq (by omega)) hw5 (by simp; omega)
  have hT5 : w5.there w.heap.size 0 (v8 m).toArray.size := by
    have e : (v8 m).toArray.size = 32 := by rw [List.size_toArray, v8_length, hml]
    rw [e]; exact hT5'
  have hi := info24 m hml
  have h1c := all_oneCell_toArray (v8_one m)
  clear hw5 hBq hBp
  go_wp2_with (refine wpList_store_mid (op := ⟨none, .store 41 (.tmp 4) (.tmp 17), _, _, _, none⟩) rfl 41 _ _ rfl _ _ (v8 m).toArray rfl rfl hT5 hi h1c ?_)
  have hRr := World.rangeAt_setCells_same w5 w.heap.size 0 (v8 m) (by rw [v8_length, hml]; exact hT5')
  have hBl := below_sets (Nat.le_refl w.heap.size) (v8 m) 0 w5 hB5
  have hrs := run_loadVar_mid (P := Tryz.prog) (w5.setCells w.heap.size 0 (v8 m)) w.heap.size 0 41 (v8 m) _ hRr Tryz.underlying41 rfl (by simpa using hi)
  refine bodyPost_ret (v := .agg (v8 m).toArray) (by simp [results, Tryz.results64, Act.put, asAddr, hrs]) rfl ⟨by rw [HM.out], hBl⟩
end Go.Proofs.YtcbpbkefggekmaaGreatDoor.Qs
namespace Go.Proofs.YtcbpbkefggekmaaGreatDoor.Rk
open Qs
open Go.RowKit
open Sha Tal
def bodyL (c n : Int) (s : ByteArray) : List Int := [82] ++ putL c ++ putL n ++ textL s
set_option maxRecDepth 100000 in
set_option maxHeartbeats 1000000 in
theorem mayBe_any (c n m : Int) (s : ByteArray) (t : List Int) (w : World) :
   Calls Tryz.prog 61 #[.agg (reqL c n s t).toArray, .int .i64 m] w fun e w' => e = .returned (.bool (decide (0 ≤ c ∧ c < m ∧ 1 ≤ n ∧ n ≤ 1099511627776 ∧ s.size ≤ 64))) ∧ Below w.heap.size w w' := by
  have hB1 : Below w.heap.size w (w.alloc (.cells (reqL c n s t).toArray 81)) := (Below.refl _ _).alloc (Nat.le_refl _) _
  obtain ⟨h0, h1, h2⟩ := reqL_0 (req_cells w c n s t)
  generalize reqL c n s t = q at *
  by_cases a1 : c < 0
  · have e : decide (0 ≤ c ∧ c < m ∧ 1 ≤ n ∧ n ≤ 1099511627776 ∧ s.size ≤ 64) = false := by simp; omega
    rw [e]; clear e
    go_enter Tryz.func61, Tryz.ntmps61
    go_wp2
    go_ret
    exact ⟨rfl, hB1⟩
  · by_cases a2 : m ≤ c
    · have e : decide (0 ≤ c ∧ c < m ∧ 1 ≤ n ∧ n ≤ 1099511627776 ∧ s.size ≤ 64) = false := by simp; omega
      rw [e]; clear e
      go_enter Tryz.func61, Tryz.ntmps61
      go_wp2
      go_ret
      exact ⟨rfl, hB1⟩
    · by_cases a3 : n < 1
      · have e : decide (0 ≤ c ∧ c < m ∧ 1 ≤ n ∧ n ≤ 1099511627776 ∧ s.size ≤ 64) = false := by simp; omega
        rw [e]; clear e
        go_enter Tryz.func61, Tryz.ntmps61
        go_wp2
        go_ret
        exact ⟨rfl, hB1⟩
      · by_cases a4 : 1099511627776 < n
        · have e : decide (0 ≤ c ∧ c < m ∧ 1 ≤ n ∧ n ≤ 1099511627776 ∧ s.size ≤ 64) = false := by simp; omega
          rw [e]; clear e
          go_enter Tryz.func61, Tryz.ntmps61
          go_wp2
          go_ret
          exact ⟨rfl, hB1⟩
        · have e : decide (0 ≤ c ∧ c < m ∧ 1 ≤ n ∧ n ≤ 1099511627776 ∧ s.size ≤ 64) = decide ((s.size : Int) ≤ 64) := by
            rw [decide_eq_decide]; omega
          rw [e]; clear e
          go_enter Tryz.func61, Tryz.ntmps61
          go_wp2
          go_ret
          exact ⟨rfl, hB1⟩
end Go.Proofs.YtcbpbkefggekmaaGreatDoor.Rk
namespace Go.Proofs.YtcbpbkefggekmaaGreatDoor.Qs
open Go.RowKit
open Sha Tal
theorem str_bytes (s : ByteArray) (w : World) (hs : s.size ≤ 1000000) : ∃ cap w', (convert 9 59 (.string s)).run Tryz.prog w = .ok (.slice (some ⟨w.heap.size, 0, none⟩) s.size cap) w' ∧ RowAt w' (some ⟨w.heap.size, 0, none⟩) (strL s) ∧ s.size ≤ cap ∧ cap ≤ maxLen ∧ Below w.heap.size w w' ∧ w.heap.size < w'.heap.size := by
 refine ⟨_, _, run_bytes_of_string w 9 59 5 s Tryz.underlying9 Tryz.underlying59 Tryz.underlying5, ?_, grownCap_ge _ _ _ _, grownCap_le_maxLen _ _ _ _ (by unfold maxLen; omega), ((Below.refl _ _).drew).alloc (Nat.le_refl _) _, by simp⟩
 refine ⟨by rw [strL_length]; unfold maxLen; omega, strL_byte s, Or.inr ⟨_, 0, rfl, by simp, ?_⟩⟩
 have := range_mark w.drew (bytesRow s (grownCap w s.size 0 5)) 5 ((bytesRow s (grownCap w s.size 0 5)).size, (bytesRow s (grownCap w s.size 0 5)).size + 1)
 have e : (bytesRow s (grownCap w s.size 0 5)).toList = v8 (strL s) ++ List.replicate (grownCap w s.size 0 5 - s.size) (.int .u8 0) := by
  simp [bytesRow, v8, strL]
 rw [e] at this
 exact range_left this
def KeysAt (w : World) (p : Option Addr) (ds : List (List Int)) : Prop :=
 (p = none ∧ ds = []) ∨ ∃ K a cap, p = some ⟨K, 0, none⟩ ∧ K < w.heap.size ∧ w.cell? ⟨K, 0, none⟩ = some (.slice a ds.length cap) ∧ ds.length ≤ 4096 ∧ (∀ d ∈ ds, d.length = 32 ∧ ∀ z ∈ d, 0 ≤ z ∧ z < 256) ∧
  (ds = [] ∨ ∃ D, a = some ⟨D, 0, none⟩ ∧ D < w.heap.size ∧ ∀ i d, ds[i]? = some d → w.rangeAt D (i * 32) (v8 d))
theorem KeysAt.below {w w' : World} {p : Option Addr} {ds : List (List Int)} (h : KeysAt w p ds) (hb : Below w.heap.size w w') : KeysAt w' p ds := by
 rcases h with h | ⟨K, a, cap, rfl, hK, hc, hl, hd, hr⟩
 ·exact .inl h
 ·refine .inr ⟨K, a, cap, rfl, Nat.lt_of_lt_of_le hK hb.size, (hb.cell (p := ⟨K, 0, none⟩) hK).trans hc, hl, hd, ?_⟩
  rcases hr with hr | ⟨D, rfl, hD, hr⟩
  ·exact .inl hr
  ·exact .inr ⟨D, rfl, Nat.lt_of_lt_of_le hD hb.size, fun i d hi => range_below (hr i d hi) hb hD⟩
theorem KeysAt.len {w : World} {p : Option Addr} {ds : List (List Int)} (h : KeysAt w p ds) : ds.length ≤ 4096 := by
 rcases h with ⟨_, rfl⟩ | ⟨K, a, cap, _, _, _, hl, _⟩
 ·simp
 ·exact hl
theorem klen_any (p : Option Addr) (ds : List (List Int)) (w : World) (h : KeysAt w p ds) : Calls Tryz.prog 28 #[.pointer p] w fun e w' => e = .returned (.int .i64 (ds.length : Int)) ∧ w' = w := by
 rcases h with ⟨rfl, rfl⟩ | ⟨K, a, cap, rfl, hK, hc, hl, hd, hr⟩
 ·go_enter Tryz.func28, Tryz.ntmps28
  go_wp2
  go_ret
  exact ⟨rfl, rfl⟩
 ·clear hr hd
  go_enter Tryz.func28, Tryz.ntmps28
  go_wp2
  go_ret
  exact ⟨rfl, rfl⟩
def signOf (ds : List (List Int)) (id : Int) (body : ByteArray) : List Int × Int :=
 if ds = [] then (zeros16, 1) else if id < 0 ∨ (ds.length : Int) ≤ id then (zeros16, 2) else ((mac (ds.getD id.toNat []) (strL body)).take 16, 0)
theorem signOf_length (ds : List (List Int)) (id : Int) (body : ByteArray) : (signOf ds id body).1.length = 16 := by
 unfold signOf
 split
 ·rfl
 ·split
  ·rfl
  ·simp [mac_length]
theorem signOf_ok (ds : List (List Int)) (id : Int) (body : ByteArray) : ∀ z ∈ (signOf ds id body).1, 0 ≤ z ∧ z < 256 := by
 unfold signOf
 split
 ·decide
 ·split
  ·decide
  ·intro z hz; exact mac_ok _ _ z (List.mem_of_mem_take hz)
theorem arr16 (b : Nat) (w : World) : (Instr.arrayAt 23 (.slice (some ⟨b, 0, none⟩) 16 32)).run Tryz.prog w = .ok (.pointer (some ⟨b, 0, none⟩)) w := by kernel_rfl
theorem info16 (t : List Int) (h : t.length = 16) : (Tryz.prog.info? 23).map (·.size) = some (v8 t).toArray.size := by rw [List.size_toArray, v8_length, h]; exact iszT
theorem load16 {w : World} {b o : Nat} {t : List Int} (h : t.length = 16) (hr : w.rangeAt b o (v8 t)) : (loadVar 23 ⟨b, o, none⟩).run Tryz.prog w = .ok (.agg (v8 t).toArray) w :=
 run_loadVar_mid (P := Tryz.prog) w b o 23 (v8 t) _ hr Tryz.underlying23 rfl (by simpa using info16 t h)
set_option maxRecDepth 20000 in
set_option maxHeartbeats 1000000 in
theorem ksign_any (p : Option Addr) (ds : List (List Int)) (id : Int) (body : ByteArray) (w : World) (hG : Glob w) (h : KeysAt w p ds) (hb : ds = [] ∨ body.size ≤ 100000) :
    Calls Tryz.prog 29 #[.pointer p, .int .i64 id, .string body] w fun e w' => e = .returned (.tuple #[.agg (v8 (signOf ds id body).1).toArray, .int .i64 (signOf ds id body).2]) ∧ Below w.heap.size w w' := by
  have hB0 : Below w.heap.size w (w.alloc (.cells (Array.replicate 16 (.int .u8 0)) 23)) := (Below.refl _ _).alloc (Nat.le_refl _) _
  have cl := klen_any p ds _ (h.below hB0)
  have hR0 : (w.alloc (.cells (Array.replicate 16 (.int .u8 0)) 23)).rangeAt w.heap.size 0 (v8 zeros16) := (new_bytes w 16 23).1
  have hrs := load16 (t := zeros16) rfl hR0
  by_cases h0 : ds = []
  · subst h0
    have HS : Hid (signOf [] id body = (zeros16, 1)) := by show _ = _; simp [signOf]
    rw [HS.out]
    clear HS
    go_enter Tryz.func29, Tryz.ntmps29
    go_wp2_with (go_at_call 28; refine cl.mono ?_; rintro e w1 ⟨rfl, rfl⟩)
    exact bodyPost_ret (v := .tuple #[.agg (v8 zeros16).toArray, .int .i64 1]) (by simp [results, Tryz.results29, asAddr, hrs]) rfl ⟨rfl, hB0⟩
  · have hb := hb.resolve_left h0
    have hpos : 0 < ds.length := List.length_pos_iff.2 h0
    have hne : ((ds.length : Int) == 0) = false := by simp; omega
    have h4 := h.len
    by_cases h1 : id < 0 ∨ (ds.length : Int) ≤ id
    · have HS : Hid (signOf ds id body = (zeros16, 2)) := by show _ = _; simp [signOf, h0, h1]
      rw [HS.out]
      clear HS
      rcases h1 with h1 | h1
      · clear h0 h
        go_enter Tryz.func29, Tryz.ntmps29
        go_wp2_with (go_at_call 28; refine cl.mono ?_; rintro e w1 ⟨rfl, hx⟩; obtain rfl := hx.symm; clear hx)
        exact bodyPost_ret (v := .tuple #[.agg (v8 zeros16).toArray, .int .i64 2]) (by simp [results, Tryz.results29, asAddr, hrs]) rfl ⟨rfl, hB0⟩
      · have h1' : ¬ id < 0 := by omega
        clear h0 h
        go_enter Tryz.func29, Tryz.ntmps29
        go_wp2_with (go_at_call 28; refine cl.mono ?_; rintro e w1 ⟨rfl, hx⟩; obtain rfl := hx.symm; clear hx)
        exact bodyPost_ret (v := .tuple #[.agg (v8 zeros16).toArray, .int .i64 2]) (by simp [results, Tryz.results29, asAddr, hrs]) rfl ⟨rfl, hB0⟩
    · obtain ⟨k, rfl⟩ := Int.eq_ofNat_of_zero_le (show 0 ≤ id by omega)
      have hk : k < ds.length := by omega
      have h1a : ¬ (k : Int) < 0 := by omega
      have h1b : (k : Int) < ds.length := by omega
      have HS : Hid (signOf ds (k : Int) body = ((mac ds[k] (strL body)).take 16, 0)) := by
        show _ = _
        simp only [signOf, h0, h1, if_false, Int.toNat_natCast, List.getD_eq_getElem?_getD, List.getElem?_eq_getElem hk, Option.getD_some]
      rw [HS.out]
      clear HS h1
      obtain ⟨K, a, cap, rfl, hK, hc, _, hd, hr⟩ : ∃ K a cap, p = some ⟨K, 0, none⟩ ∧ K < w.heap.size ∧ w.cell? ⟨K, 0, none⟩ = some (.slice a ds.length cap) ∧ ds.length ≤ 4096 ∧ (∀ d ∈ ds, d.length = 32 ∧ ∀ z ∈ d, 0 ≤ z ∧ z < 256) ∧
          (ds = [] ∨ ∃ D, a = some ⟨D, 0, none⟩ ∧ D < w.heap.size ∧ ∀ i d, ds[i]? = some d → w.rangeAt D (i * 32) (v8 d)) := by
        rcases h with ⟨_, e⟩ | q
        · exact absurd e h0
        · exact q
      obtain ⟨D, rfl, hD, hr⟩ := hr.resolve_left h0
      have hrk := hr k ds[k] (List.getElem?_eq_getElem hk)
      obtain ⟨hdl, hdo⟩ := hd ds[k] (List.getElem_mem hk)
      obtain ⟨d, hd'⟩ : ∃ d, Hid (ds[k] = d) := ⟨_, hide rfl⟩
      rw [hd'.out] at hrk hdl hdo ⊢
      clear hr hd h0 h
      have hc1 := (hB0.cell (p := ⟨K, 0, none⟩) hK).trans hc
      clear hrs hR0
      have hT0 := (new_bytes w 16 23).2
      obtain ⟨cap2, w2, hcv, hrow2, hc2a, hc2b, hw2, hs2⟩ := str_bytes body (w.alloc (.cells (Array.replicate 16 (.int .u8 0)) 23)) (by omega)
      simp only [World.size_alloc] at hcv hrow2 hw2 hs2
      have hB2 : Below w.heap.size w w2 := hB0.trans (hw2.mono (by omega))
      have hT2 := there_below hT0 hw2 (by omega)
      have hat : (⟨some ⟨w.heap.size + 1, 0, none⟩, cap2, strL body⟩ : Part).at w2 := ⟨hrow2, by show (strL body).length ≤ cap2; rw [strL_length]; exact hc2a, hc2b⟩
      have hP := one_part w2 #[.slice (some ⟨w.heap.size + 1, 0, none⟩) body.size cap2] _ hat (by simp only [Part.val, strL_length])
      have hBp : Below w2.heap.size w2 (w2.alloc (.cells #[.slice (some ⟨w.heap.size + 1, 0, none⟩) body.size cap2] 59)) := (Below.refl _ _).alloc (Nat.le_refl _) _
      have hB3 := hB2.trans (hBp.mono hB2.size)
      have hkr : RowAt w (some ⟨D, k * 32, none⟩) d := ⟨by rw [hdl]; unfold maxLen; omega, hdo, Or.inr ⟨_, _, rfl, hD, hrk⟩⟩
      have ec : cat [(⟨some ⟨w.heap.size + 1, 0, none⟩, cap2, strL body⟩ : Part)] = strL body := by simp [cat]
      have cm := mac_any (some ⟨D, k * 32, none⟩) 32 d _ 1 _ _ (hG.below hB3) (hkr.below hB3) (by omega) (by unfold maxLen; omega) (by omega) hP (by rw [ec, strL_length]; omega) (by simp)
      rw [ec, hdl] at cm
      simp only [List.length_cons, List.length_nil, Nat.zero_add] at cm
      obtain ⟨m, hm⟩ : ∃ m, Hid (mac d (strL body) = m) := ⟨_, hide rfl⟩
      have hml : m.length = 32 := by rw [← hm.out]; exact mac_length _ _
      rw [hm.out] at cm ⊢
      clear hP hat ec hkr hrk hdo hrow2 hw2
      go_enter Tryz.func29, Tryz.ntmps29
      go_wp2_with (first | (go_at_call 28; refine cl.mono ?_; rintro e w1 ⟨rfl, hx⟩; obtain rfl := hx.symm; clear hx))
      refine cm.mono ?_
      rintro e w3 ⟨rfl, hw3⟩
      clear cm cl hcv
      have hB4 := hB3.trans (hw3.mono hB3.size)
      have hT3 := there_below (there_below hT2 hBp (by omega)) hw3 (by simp; omega)
      have hs3 := hw3.size
      simp only [World.size_alloc] at hs3
      have F := fresh_store w3 (Array.replicate 32 (.int .u8 0)) 41 (v8 m) (by rw [v8_length, hml]; rfl)
      have hN := there24 w3 m hml
      have hi := info24 m hml
      have h1c := all_oneCell_toArray (v8_one m)
      go_upto_region 6 with (refine wpList_store_mid (op := ⟨none, .store 41 (.tmp 8) (.tmp 32), _, _, _, none⟩) rfl 41 _ _ rfl _ _ (v8 m).toArray rfl rfl hN hi h1c ?_)
      go_name_world w4 hw4
      rw [show (w3.alloc (.cells (Array.replicate 32 (.int .u8 0)) 41)).setCells w3.heap.size 0 (v8 m) = w4 from hw4] at F
      obtain ⟨hR4, hB4', hz4', _⟩ := F
      have hz4 : w3.heap.size < w4.heap.size := by omega
      clear hz4' hw4 hN hi h1c hw3
      have hB5 := hB4.trans (hB4'.mono hB4.size)
      have hT4 := there_below hT3 hB4' (by omega)
      have hsl := slice_h (w := w4) Tryz.underlying41 isz8 w3.heap.size 0 16 16 rfl (by omega) (by omega)
      obtain ⟨t, ht⟩ : ∃ t, Hid (m.take 16 = t) := ⟨_, hide rfl⟩
      have htl : t.length = 16 := by rw [← ht.out, List.length_take]; omega
      have hRt : w4.rangeAt w3.heap.size 0 (v8 t) := by
        have e : v8 m = v8 t ++ v8 (m.drop 16) := by rw [← v8_append, ← ht.out, List.take_append_drop]
        rw [e] at hR4; exact range_left hR4
      try simp only [Act.put]
      have hl16 : (Tryz.prog.info? 23).map (·.size) = some (v8 t).length := by simpa using info16 t htl
      have hT4' : w4.there w.heap.size 0 (v8 t).toArray.size := by
        have e : (v8 t).toArray.size = 16 := by rw [List.size_toArray, v8_length, htl]
        rw [e]; exact hT4
      have h1t := all_oneCell_toArray (v8_one t)
      have hit := info16 t htl
      have hap := arr16 w3.heap.size w4
      refine wp_region_list ?_
      refine wpList_plain rfl fun K hK => ?_
      go_simp
      refine hK _ _ ?_
      clear hK K
      refine wpList_plain rfl fun K hK => ?_
      go_simp
      refine hK _ _ ?_
      clear hK K
      refine wpList_load_mid rfl 23 _ rfl _ _ rfl (v8 t) _ hRt Tryz.underlying23 rfl hl16 ?_
      refine wpList_store_mid rfl 23 _ _ rfl _ _ (v8 t).toArray rfl rfl hT4' hit h1t ?_
      go_wp2
      have hRr := World.rangeAt_setCells_same w4 w.heap.size 0 (v8 t) (by rw [v8_length, htl]; exact hT4)
      have hBl := below_sets (Nat.le_refl w.heap.size) (v8 t) 0 w4 hB5
      have hrs := load16 htl hRr
      exact bodyPost_ret (v := .tuple #[.agg (v8 t).toArray, .int .i64 0]) (by simp [results, Tryz.results29, asAddr, hrs]) rfl ⟨by rw [ht.out], hBl⟩
theorem eql16 (xs ys : List Int) (hx : xs.length = 16) (hy : ys.length = 16) (w : World) : (binOp .eql 23 (.agg (v8 xs).toArray) (.agg (v8 ys).toArray)).run Tryz.prog w = .ok (.bool (xs == ys)) w := by
 rw [run_eql_struct, run_equal8 w 9998 23 5 16 Tryz.underlying23 Tryz.underlying5 isz8 xs ys hx hy]; rfl
end Go.Proofs.YtcbpbkefggekmaaGreatDoor.Qs
namespace Go.Proofs.YtcbpbkefggekmaaGreatDoor.Rk
open Qs
open Go.RowKit
open Sha Tal
theorem one_byte (w : World) : RowAt (w.alloc (.cells #[.int .u8 82] 5)) (some ⟨w.heap.size, 0, none⟩) [82] :=
 ⟨by unfold maxLen; simp, by decide, Or.inr ⟨w.heap.size, 0, rfl, by simp, range_new w #[.int .u8 82] 5⟩⟩
theorem bodyL_length (c n : Int) (s : ByteArray) (hc : c ≤ 9223372036854775807) (hn : n ≤ 9223372036854775807) (hs : s.size ≤ 100000) : (bodyL c n s).length ≤ 200000 := by
 have h1 := putL_length c (by omega)
 have h2 := putL_length n (by omega)
 have h3 := putL_length s.size (by omega)
 simp only [bodyL, textL, List.length_append, strL_length, List.length_cons, List.length_nil]
 omega
set_option maxRecDepth 100000 in
set_option maxHeartbeats 2000000 in
theorem body_any (c n : Int) (s : ByteArray) (t : List Int) (w : World) (ht : t.length = 16) (hc : c ≤ 9223372036854775807) (hn : n ≤ 9223372036854775807) (hs : s.size ≤ 100000) :
   Calls Tryz.prog 101 #[.agg (reqL c n s t).toArray] w fun e w' => e = .returned (.string (strOf (bodyL c n s))) ∧ Below w.heap.size w w' := by
  have hB1 : Below w.heap.size w (w.alloc (.cells (reqL c n s t).toArray 81)) := (Below.refl _ _).alloc (Nat.le_refl _) _
  have hR1 := req_cells w c n s t
  have hz1 : w.heap.size < (w.alloc (.cells (reqL c n s t).toArray 81)).heap.size := by simp
  have hi : (Tryz.prog.info? 81).map (·.size) = some (reqL c n s t).length := by rw [reqL_length c n s t ht]; exact iszR
  have cf := fun a cap w0 h => fields_any a cap [82] c n s t w0 h (by simp) hc hn (by omega)
  have hbl := bodyL_length c n s hc hn hs
  obtain ⟨q, hq⟩ : ∃ q, Hid (reqL c n s t = q) := ⟨_, rfl⟩
  rw [hq.out] at hB1 hz1 hi ⊢
  rw [hq.out] at hR1
  simp only [hq.out] at cf
  have eb : [82] ++ putL c ++ putL n ++ textL s = bodyL c n s := rfl
  simp only [eb] at cf
  obtain ⟨bl, hb⟩ : ∃ bl, Hid (bodyL c n s = bl) := ⟨_, rfl⟩
  simp only [hb.out] at cf
  rw [hb.out] at hbl ⊢
  obtain ⟨st, hst⟩ : ∃ st, Hid (strOf bl = st) := ⟨_, rfl⟩
  rw [hst.out]
  clear eb
  go_enter Tryz.func101, Tryz.ntmps101
  go_upto_region 1 with fail
  go_name_world w1 hw1
  rw [show w.alloc (.cells q.toArray 81) = w1 from hw1] at hB1 hR1 hz1
  clear hw1
  have hB2' : Below w1.heap.size w1 (w1.alloc (.cells #[.int .u8 82] 5)) := (Below.refl _ _).alloc (Nat.le_refl _) _
  have hB2 := hB1.trans (hB2'.mono hB1.size)
  have hR2 := range_below hR1 hB2' hz1
  have c2 := cf _ 1 _ (one_byte w1)
  simp only [List.length_cons, List.length_nil, Nat.zero_add] at c2
  clear cf hB1 hR1 hB2'
  obtain ⟨X, hX⟩ : ∃ X, Hid (w.heap.size = X) := ⟨_, rfl⟩
  rw [hX.out] at hR2
  rw [hX.out]
  go_wp2_with (refine wpList_load_mid rfl 81 _ rfl _ 0 rfl q _ hR2 Tryz.underlying81 rfl hi ?_)
  refine c2.mono ?_
  rintro e w3 ⟨v3, rfl, hM3, hw3⟩
  have hfin := hB2.trans (hw3.mono hB2.size)
  obtain ⟨a3, cap3, rfl, _, _, hrow3⟩ := hM3.rowAt (by unfold maxLen; omega)
  have hstr := row_mine hrow3 cap3
  rw [hst.out] at hstr
  clear c2 hM3 hw3 hrow3 hR2 hB2 hbl
  generalize bl.length = nb at *
  go_wp2
  go_ret
  rw [← hX.out]
  exact ⟨rfl, hfin⟩
end Go.Proofs.YtcbpbkefggekmaaGreatDoor.Rk
namespace Go.Proofs.YtcbpbkefggekmaaGreatDoor.Qs
open Go.RowKit
open Sha Tal
def keyOf (seed : ByteArray) (id : Nat) : List Int := sha (textL seed ++ putL (id : Int))
def keysOf (seed : ByteArray) (n : Nat) : List (List Int) := (List.range n).map (keyOf seed)
theorem keysOf_length (seed : ByteArray) (n : Nat) : (keysOf seed n).length = n := by simp [keysOf]
theorem keysOf_get (seed : ByteArray) (n i : Nat) (d : List Int) (h : (keysOf seed n)[i]? = some d) : i < n ∧ d = keyOf seed i := by
 have hi : i < n := by have := (List.getElem?_eq_some_iff.1 h).1; simpa [keysOf] using this
 refine ⟨hi, ?_⟩
 simp [keysOf, List.getElem?_map, List.getElem?_range hi] at h
 exact h.symm
theorem keyOf_length (seed : ByteArray) (id : Nat) : (keyOf seed id).length = 32 := sha_length _
theorem keyOf_ok (seed : ByteArray) (id : Nat) : ∀ z ∈ keyOf seed id, 0 ≤ z ∧ z < 256 := sha_ok _
theorem info32 : (Tryz.prog.info? 41).map (fun i => (i.zero, i.size, i.bytes)) = some (some (.agg (Array.replicate 32 (.int .u8 0))), 32, 32) := by kernel_rfl
theorem own_there {w : World} {base : Nat} {e : TypeId} {size g n : Nat} {xs : List Value} (h : w.ownsRow base e size (.slice (some ⟨g, 0, none⟩) n n) n xs) : w.there g 0 (n * size) := by
 rcases h.2 with ⟨hv, _⟩ | ⟨g', cap, cur, hv, hb, hg, h1, h2, h3, h4⟩
 ·cases hv
 ·injection hv with ha hl hc
  simp only [Option.some.injEq, Addr.mk.injEq] at ha
  obtain ⟨rfl, _⟩ := ha
  subst hc
  intro j hj
  rw [Nat.zero_add]
  have hj' : j < cur.size := by rw [h3]; exact hj
  constructor
  ·simp [World.cell?, hg, hj']
  ·simp [World.frozen?, hg]
theorem there_mid {w : World} {g o n i m : Nat} (h : w.there g o n) (hm : i + m ≤ n) : w.there g (o + i) m := there_part h i m hm
theorem putL_pos (n : Int) (h : 0 ≤ n) : 0 < (putL n).length := by
 unfold putL; rw [if_neg (by omega)]; simp [numB]
set_option maxRecDepth 20000 in
set_option maxHeartbeats 2000000 in
theorem derive_yes (seed : ByteArray) (n : Nat) (w : World) (hG : Glob w) (hn1 : 1 ≤ n) (hn2 : n ≤ 4096) (hs : seed.size ≤ 64) :
    Calls Tryz.prog 27 #[.string seed, .int .i64 (n : Int)] w fun e w' => ∃ p, e = .returned (.pointer p) ∧ p ≠ none ∧ KeysAt w' p (keysOf seed n) ∧ Below w.heap.size w w' := by
  have t1 : ¬ (n : Int) < 1 := by omega
  have t2 : ¬ (4096 : Int) < n := by omega
  have t3 : ¬ (64 : Int) < seed.size := by omega
  obtain ⟨i0, hi, hz0, hz1, hz2⟩ := info_parts info32
  obtain ⟨w1, hmk, hown1, hgr1⟩ := run_makeSlice_full (P := Tryz.prog) w w.heap.size 121 41 i0 _ 32 Tryz.underlying121 hi hz0 hz1 .i64 .i64 n (by omega) (by rw [hz2]; omega) (by unfold maxLen; omega) (Nat.le_refl _)
  have hT1 := own_there hown1
  have hB1 : Below w.heap.size w w1 := (Below.refl _ _).grown hgr1 (Nat.le_refl _) (fun _ h => by cases h)
  have hs1 : w.heap.size < w1.heap.size := by
    have := (hT1 0 (by omega)).1
    obtain ⟨u, hu⟩ := Option.isSome_iff_exists.1 this
    exact World.block_lt_of_cell? w1 _ hu
  clear hown1 hgr1 hi hz0 hz1 hz2
  have hB2' : Below w1.heap.size w1 (w1.alloc (.cells #[.slice (some ⟨w.heap.size, 0, none⟩) n n] 123)) := (Below.refl _ _).alloc (Nat.le_refl _) _
  have hB2 := hB1.trans (hB2'.mono hB1.size)
  have hT2 := there_below hT1 hB2' hs1
  have hK2 : (w1.alloc (.cells #[.slice (some ⟨w.heap.size, 0, none⟩) n n] 123)).cell? ⟨w1.heap.size, 0, none⟩ = some (.slice (some ⟨w.heap.size, 0, none⟩) n n) := by
    rw [World.cell?_alloc_at _ _ _ _ rfl]; rfl
  have ct := putText_any none 0 [] seed (w1.alloc (.cells #[.slice (some ⟨w.heap.size, 0, none⟩) n n] 123)) (nil_row _) (by simp) (by omega)
  rw [List.nil_append] at ct
  have htl : (textL seed).length ≤ 73 ∧ 0 < (textL seed).length := by
    unfold textL
    have h1 := putL_length (seed.size : Int) (by omega)
    have h2 := putL_pos (seed.size : Int) (by omega)
    rw [List.length_append, strL_length]; omega
  have HK : Hid (∀ i, keyOf seed i = sha (textL seed ++ putL (i : Int))) := fun i => rfl
  generalize textL seed = ts at *
  go_enter Tryz.func27, Tryz.ntmps27
  go_wp2_with fail
  refine ct.mono ?_
  rintro e w3 ⟨v3, rfl, hM3, hw3⟩
  clear ct hmk
  have hB3 := hB2.trans (hw3.mono hB2.size)
  have hT3 := there_below hT2 hw3 (by simp; omega)
  have hK3 := (hw3.cell (p := ⟨w1.heap.size, 0, none⟩) (by simp)).trans hK2
  have hs3 := hw3.size
  simp only [World.size_alloc] at hs3 hM3
  obtain ⟨a, cap, rfl, hca, hcm, hrow⟩ := hM3.rowAt (by unfold maxLen; omega)
  obtain ⟨b, off, rfl, hbl, hbr, hbn⟩ : ∃ b off, a = some ⟨b, off, none⟩ ∧ b < w3.heap.size ∧ w3.rangeAt b off (v8 ts) ∧ w1.heap.size + 1 ≤ b := by
    rcases hrow.2.2 with h0 | ⟨b, off, rfl, hb, hr⟩
    · have := htl.2; rw [h0] at this; simp at this
    · exact ⟨b, off, rfl, hb, hr, (hM3.1.lt b rfl).1⟩
  have hto := hM3.2
  obtain ⟨D, hD⟩ : ∃ D, w.heap.size = D := ⟨_, rfl⟩
  obtain ⟨K, hKe⟩ : ∃ K, w1.heap.size = K := ⟨_, rfl⟩
  rw [hD] at hT3 hK3
  rw [hKe] at hK3
  have hDK : D < K := by omega
  have hKs : K < w3.heap.size := by omega
  have hDb : D < b := by omega
  have hKb : K < b := by omega
  have hwD : w.heap.size ≤ D := by omega
  clear hM3 hrow hw3 hT2 hK2 hB2 hB2' hT1 hB1
  rw [hD, hKe]
  clear hD hKe hs1 hs3 hbn
  go_wp2_with fail
  go_loopw [26] (fun i wr => ∃ k : Nat, k ≤ n ∧ i = .int .i64 (k : Int) ∧ wr.cell? ⟨K, 0, none⟩ = some (.slice (some ⟨D, 0, none⟩) n n) ∧ wr.there D 0 (n * 32) ∧ (∀ j, j < k → wr.rangeAt D (j * 32) (v8 (keyOf seed j))) ∧ wr.rangeAt b off (v8 ts) ∧ b < wr.heap.size ∧ Below w.heap.size w wr) (fun i _ => n - (intOf i).toNat)
  case atStart => exact ⟨0, by omega, rfl, hK3, hT3, fun j h => by omega, hbr, hbl, hB3⟩
  case round =>
    clear hK3 hT3 hbr hbl hB3 hKs
    obtain ⟨k, hk, rfl, hK, hT, hR, hbr, hbl, hB⟩ := hrel
    by_cases hlt : k < n
    · have hltI : (k : Int) < n := by omega
      have HR := hide hR
      clear hR
      go_wp2_with fail
      refine hs_begin (S := (fun W : World => W.cell? ⟨K, 0, none⟩ = some (.slice (some ⟨D, 0, none⟩) n n))) 12 rfl (by kernel_rfl) ?_
      have hS : (fun W : World => W.cell? ⟨K, 0, none⟩ = some (.slice (some ⟨D, 0, none⟩) n n)) wr.drew := hK
      have hB5 : Below w.heap.size w wr.drew := hB.drew
      have hT5 : wr.drew.there D 0 (n * 32) := hT
      have hR5 : ∀ j, j < k → wr.drew.rangeAt D (j * 32) (v8 (keyOf seed j)) := HR.out
      have hb5 : wr.drew.rangeAt b off (v8 ts) := hbr
      have hl5 : b < wr.drew.heap.size := hbl
      generalize wr.drew = w5 at hS hB5 hT5 hR5 hb5 hl5 ⊢
      have HR5 := hide hR5
      clear HR hbr hbl hT hK hB hR5
      refine hs_t 0 29 (?_) rfl (by kernel_rfl) (by kernel_rfl) (by kernel_rfl) (by rfl) ?_ hS rfl ?_
      rotate_left
      · intro w' hw
        go_simp
        try with_reducible rfl
      simp only [nz]
      refine hs_t 1 30 (?_) rfl (by kernel_rfl) (by kernel_rfl) (by kernel_rfl) (by rfl) ?_ hS rfl ?_
      rotate_left
      · intro w' hw
        go_simp
        try with_reducible rfl
      simp only [nz]
      refine hs_t 2 31 (?_) rfl (by kernel_rfl) (by kernel_rfl) (by kernel_rfl) (by rfl) ?_ hS rfl ?_
      rotate_left
      · intro w' hw
        go_simp
        try with_reducible rfl
      simp only [nz]
      refine hs_t 3 32 (?_) rfl (by kernel_rfl) (by kernel_rfl) (by kernel_rfl) (by rfl) ?_ hS rfl ?_
      rotate_left
      · intro w' hw
        go_simp
        try with_reducible rfl
      simp only [nz]
      refine hs_t 4 33 (?_) rfl (by kernel_rfl) (by kernel_rfl) (by kernel_rfl) (by rfl) ?_ hS rfl ?_
      rotate_left
      · intro w' hw
        go_simp
        try with_reducible rfl
      simp only [nz]
      refine hs_t 5 34 (?_) rfl (by kernel_rfl) (by kernel_rfl) (by kernel_rfl) (by rfl) ?_ hS rfl ?_
      rotate_left
      · intro w' hw
        go_simp
        try with_reducible rfl
      simp only [nz]
      refine hs_t 6 35 (?_) rfl (by kernel_rfl) (by kernel_rfl) (by kernel_rfl) (by rfl) ?_ hS rfl ?_
      rotate_left
      · intro w' hw
        go_simp
        try with_reducible rfl
      simp only [nz]
      have hrow5 : RowAt w5 (some ⟨b, off, none⟩) ts := ⟨by unfold maxLen; omega, hto, Or.inr ⟨_, _, rfl, hl5, hb5⟩⟩
      have cp := put_any (some ⟨b, off, none⟩) cap ts (k : Int) w5 hrow5 (by omega) (by omega)
      have hpl := putL_length (k : Int) (by omega)
      refine hs_call (i := 7) (d := some 36) rfl (by kernel_rfl) (by rfl) (by go_simp; first | done | exact ⟨rfl, rfl⟩ | with_reducible rfl) rfl ?_
      refine (cp).mono ?_
      rintro e' w6 ⟨v6, rfl, hM6, hw6⟩
      have hS : (fun W : World => W.cell? ⟨K, 0, none⟩ = some (.slice (some ⟨D, 0, none⟩) n n)) w6 := (hw6.cell (p := ⟨K, 0, none⟩) (show K < w5.heap.size by omega)).trans hS
      refine ⟨_, rfl, hS, ?_⟩
      simp only [nz]
      obtain ⟨a6, cap6, rfl, hc6, hm6, hrow6⟩ := hM6.rowAt (by rw [List.length_append]; unfold maxLen; omega)
      clear cp hM6
      have hs6 := hw6.size
      have hB7' : Below w6.heap.size w6 (w6.alloc (.cells #[.slice a6 (ts ++ putL (k : Int)).length cap6] 59)) := (Below.refl _ _).alloc (Nat.le_refl _) _
      have hP := one_part w6 #[.slice a6 (ts ++ putL (k : Int)).length cap6] ⟨a6, cap6, ts ++ putL (k : Int)⟩ ⟨hrow6, hc6, hm6⟩ rfl
      have hw7 := hw6.trans (hB7'.mono hw6.size)
      have hS : (fun W : World => W.cell? ⟨K, 0, none⟩ = some (.slice (some ⟨D, 0, none⟩) n n)) (w6.alloc (.cells #[.slice a6 (ts ++ putL (k : Int)).length cap6] 59)) := (hB7'.cell (p := ⟨K, 0, none⟩) (show K < w6.heap.size by omega)).trans hS
      refine hs_run (i := 8) (d := some 37) (v := .slice (some ⟨w6.heap.size, 0, none⟩) 1 1) (w' := (w6.alloc (.cells #[.slice a6 (ts ++ putL (k : Int)).length cap6] 59))) rfl (by kernel_rfl) (by rfl) (by go_simp; try with_reducible rfl) rfl hS ?_
      simp only [nz]
      have ec : cat [(⟨a6, cap6, ts ++ putL (k : Int)⟩ : Part)] = ts ++ putL (k : Int) := by simp [cat]
      have hB7 := hB5.trans (hw7.mono hB5.size)
      have csum := sum_any _ 1 _ _ (hG.below hB7) hP (by rw [ec, List.length_append]; omega)
      rw [ec, ← HK.out k] at csum
      simp only [List.length_cons, List.length_nil, Nat.zero_add] at csum
      clear hP ec hrow6
      generalize w6.alloc (.cells #[.slice a6 (ts ++ putL (k : Int)).length cap6] 59) = w7 at *
      refine hs_call (i := 9) (d := some 38) rfl (by kernel_rfl) (by rfl) (by go_simp; first | done | exact ⟨rfl, rfl⟩ | with_reducible rfl) rfl ?_
      refine (csum).mono ?_
      rintro e' w8 ⟨rfl, hw8⟩
      have hS : (fun W : World => W.cell? ⟨K, 0, none⟩ = some (.slice (some ⟨D, 0, none⟩) n n)) w8 := (hw8.cell (p := ⟨K, 0, none⟩) (show K < w7.heap.size by have := hw7.size; omega)).trans hS
      refine ⟨_, rfl, hS, ?_⟩
      simp only [nz]
      have hW8 := hw7.trans (hw8.mono hw7.size)
      have hB8 := hB5.trans (hW8.mono hB5.size)
      have hT8 := there_below hT5 hW8 (by omega)
      have hb8 := range_below hb5 hW8 hl5
      have hR8 : ∀ j, j < k → w8.rangeAt D (j * 32) (v8 (keyOf seed j)) := fun j hj => range_below (HR5.out j hj) hW8 (by omega)
      have hl8 : b < w8.heap.size := by have := hW8.size; omega
      clear csum hw8 hw7 hw6 hB7' hB7 HR5 hb5 hT5 hB5 hW8
      obtain ⟨d, hd⟩ : ∃ d, Hid (keyOf seed k = d) := ⟨_, hide rfl⟩
      have hdl : d.length = 32 := by rw [← hd.out]; exact keyOf_length _ _
      rw [hd.out]
      refine hs_t 10 39 (?_) rfl (by kernel_rfl) (by kernel_rfl) (by kernel_rfl) (by rfl) ?_ hS rfl ?_
      rotate_left
      · intro w' hw
        go_simp
        try with_reducible rfl
      simp only [nz]
      have hTk : w8.there D (k * 32) 32 := by have := there_mid hT8 (i := k * 32) (m := 32) (by omega); rwa [Nat.zero_add] at this
      have hTk' : w8.there D (k * 32) (v8 d).toArray.size := by
        have e : (v8 d).toArray.size = 32 := by rw [List.size_toArray, v8_length, hdl]
        rw [e]; exact hTk
      have hst := run_storeVar_mid (P := Tryz.prog) w8 D (k * 32) 41 (v8 d).toArray hTk' (info24 d hdl) (all_oneCell_toArray (v8_one d))
      have hRn := World.rangeAt_setCells_same w8 D (k * 32) (v8 d) (by rw [v8_length, hdl]; exact hTk)
      have hSn : (w8.setCells D (k * 32) (v8 d)).cell? ⟨K, 0, none⟩ = some (.slice (some ⟨D, 0, none⟩) n n) := by
        have := World.rangeAt_setCells_apart (b' := K) (o' := 0) (cs := [.slice (some ⟨D, 0, none⟩) n n]) (w := w8) (fun j v hv => by
          match j, hv with
          | 0, hv => simp at hv; subst hv; exact hS) D (k * 32) (v8 d) (Or.inl (by omega))
        exact this 0 _ rfl
      have hbn := World.rangeAt_setCells_apart hb8 D (k * 32) (v8 d) (Or.inl (by omega))
      have hTn := World.there_setCells hT8 D (k * 32) (v8 d)
      have hBn := below_sets hwD (v8 d) (k * 32) w8 hB8
      have hRp : ∀ j, j < k → (w8.setCells D (k * 32) (v8 d)).rangeAt D (j * 32) (v8 (keyOf seed j)) := fun j hj => World.rangeAt_setCells_apart (hR8 j hj) D (k * 32) (v8 d) (Or.inr (Or.inl (by rw [v8_length, keyOf_length]; omega)))
      have hln : b < (w8.setCells D (k * 32) (v8 d)).heap.size := by rw [size_sets]; exact hl8
      refine hs_store (i := 11) (w' := w8.setCells D (k * 32) (v8 d)) rfl (by kernel_rfl) (by rfl) (exec_store rfl rfl rfl hst) rfl hSn ?_
      refine hs_done (by kernel_rfl) ?_
      generalize w8.setCells D (k * 32) (v8 d) = w9 at *
      clear hst hTk hTk' hS hb8 hT8 hR8
      have HRn := hide hRn
      have HRp := hide hRp
      clear hRn hRp
      go_wp2_with fail
      go_roundw
      case rel =>
        refine ⟨k + 1, by omega, by go_num, hSn, hTn, fun j hj => ?_, hbn, hln, hBn⟩
        rcases Nat.lt_or_eq_of_le (Nat.lt_succ_iff.1 hj) with h | rfl
        · exact HRp.out j h
        · rw [hd.out]; exact HRn.out
      case measure => simp [intOf]; omega
    · obtain rfl : k = n := by omega
      have HR := hide hR
      clear hR
      have hKs : K < wr.heap.size := World.block_lt_of_cell? wr _ hK
      have hDs : D < wr.heap.size := by omega
      go_wp2
      go_ret
      refine ⟨_, rfl, by simp, .inr ⟨K, _, _, rfl, hKs, by rw [keysOf_length]; exact hK, by rw [keysOf_length]; exact hn2, fun d hd => ?_, .inr ⟨D, rfl, hDs, fun i d hi => ?_⟩⟩, hB⟩
      · obtain ⟨i, _, rfl⟩ := List.mem_map.1 hd
        exact ⟨keyOf_length _ _, keyOf_ok _ _⟩
      · obtain ⟨hi', rfl⟩ := keysOf_get seed k i d hi
        exact HR.out i hi'
def checkOf (r : List Int × Int) (t : List Int) : Bool := (r.2 == 0) && (r.1 == t)
theorem refDerive_yes (seed : ByteArray) (n : Int) (w : World) (h1 : ¬ n < 1) (h2 : ¬ 4096 < n) (h3 : seed.size ≤ 64) :
  Calls Tryz.prog 26 #[.string seed, .int .i64 n] w fun e w' => e = .returned (.tuple #[.agg #[.string seed, .int .i64 n], .bool true]) ∧ Below w.heap.size w w' := by
 have h3' : ¬ (64 : Int) < seed.size := by omega
 go_enter Tryz.func26, Tryz.ntmps26
 go_wp2
 exact bodyPost_ret (v := .tuple #[.agg #[.string seed, .int .i64 n], .bool true]) (by simp [results, Tryz.results26, go_sem]) rfl ⟨rfl, (Below.refl _ _).alloc (Nat.le_refl _) _⟩
end Go.Proofs.YtcbpbkefggekmaaGreatDoor.Qs
