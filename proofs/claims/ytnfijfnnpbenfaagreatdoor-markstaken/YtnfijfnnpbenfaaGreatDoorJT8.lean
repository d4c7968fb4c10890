/- a state, read; Parse (the program's); light; the document's comparison of states -/
import Derived.Test.YtnfijfnnpbenfaaGreatDoorJT0
import Derived.Test.YtnfijfnnpbenfaaGreatDoorJT7
import Derived.Test.YtnfijfnnpbenfaaGreatDoorJT5
import Derived.Test.YtnfijfnnpbenfaaGreatDoorJT6
import Derived.Test.YtnfijfnnpbenfaaGreatDoorJT3
import Derived.Test.YtnfijfnnpbenfaaGreatDoorJT4
import Derived.Deep.QuietTactic
import Derived.BigQuiet
namespace Go.Proofs.YtnfijfnnpbenfaaGreatDoor
open Go.RowKit
open Sha Tal
set_option linter.unusedVariables false
set_option linter.unusedSimpArgs false
theorem Rb.cw {w W : World} {R B : Nat} {q : Rq0} {s : Rs} (h : Rb w R B q s W) : W.cell? ⟨B, 35, none⟩ = some q.wv := by
 have h1 := h.row
 unfold Rq0.cells at h1
 have h2 := range_right (range_right h1)
 rw [v8_length, h.dl] at h2
 exact h2 0 _ rfl
theorem Rb.cp {w W : World} {R B : Nat} {q : Rq0} {s : Rs} (h : Rb w R B q s W) : W.cell? ⟨B, 36, none⟩ = some q.pv := by
 have h1 := h.row
 unfold Rq0.cells at h1
 have h2 := range_right (range_right h1)
 rw [v8_length, h.dl] at h2
 exact h2 1 _ rfl
theorem run_bsw (x : Wd) (w : World) : (Instr.buildSlice 33 1 #[(0, .agg x.cells.toArray)]).run Tryz.prog w = .ok (.slice (some ⟨w.heap.size, 0, none⟩) 1 1) (w.alloc (.cells x.cells.toArray 79)) := by kernel_rfl
theorem infoWn : (Tryz.prog.info? 79).map (fun i => (i.zero, i.size, i.bytes)) = some (some (.agg #[.int .i64 0, .int .u64 0]), 2, 16) := by kernel_rfl
theorem infoIn : (Tryz.prog.info? 3).map (fun i => (i.zero, i.size, i.bytes)) = some (some (.int .i64 0), 1, 8) := by kernel_rfl
theorem iszWs : (Tryz.prog.info? 33).map (·.size) = some 1 := by kernel_rfl
theorem iszIs : (Tryz.prog.info? 34).map (·.size) = some 1 := by kernel_rfl
theorem rawS_32 (rest : List Int) (e : Int) : (rawS rest e 32).1.length = 32 ∨ (rawS rest e 32).1 = [] := by
 unfold rawS
 split
 ·rw [if_neg (by decide)]
  split
  ·exact .inr rfl
  ·have : (rest.take (32 : Int).toNat).length = 32 := by rw [List.length_take]; show min 32 rest.length = 32; omega
   exact .inl this
 ·exact .inr rfl
theorem rawS_bz {rest : List Int} {e : Int} (n : Int) (h : Wn.ByteL e rest) : Wn.ByteL (rawS rest e n).2.2 (rawS rest e n).2.1 := by
 unfold rawS
 split
 ·rename_i he
  split
  ·intro q; cases q
  ·split
   ·intro q; cases q
   ·exact fun _ z hz => h he z (List.mem_of_mem_drop hz)
 ·exact h
theorem pad32_len (t : List Int) : (pad32 t).length = 32 := by
 unfold pad32
 split
 ·assumption
 ·simp
def Lw (w : World) (R B : Nat) (a b c : Int) (d : List Int) (t : Rs) (k : Nat) (W : World) : Prop := ∃ vv, Rb w R B ⟨a, b, c, d, vv, .slice none 0 0, (itR wiR t k).1, []⟩ (itR wiR t k).2 W
def Lp (w : World) (R B : Nat) (a b c : Int) (d : List Int) (wv : Value) (ws : List Wd) (t : Rs) (k : Nat) (W : World) : Prop := ∃ vv, Rb w R B ⟨a, b, c, d, wv, vv, ws, (itR (nuR 1048592) t k).1⟩ (itR (nuR 1048592) t k).2 W
def ReadA (w : World) (R : Nat) (p : Sp × Rs) (en : Ending) (w' : World) : Prop := ∃ x : Stt, en = .returned (.agg x.cells.toArray) ∧ x.sp = p.1 ∧ x.ok ∧ x.At w' ∧ x.Lo w.heap.size ∧ St w' R p.2.1 p.2.2 ∧ w.grownBy w' (some R)
set_option maxRecDepth 100000 in
set_option maxHeartbeats 2000000 in
theorem sread_any (R : Nat) (s : Rs) (w : World) (h : St w R s.1 s.2) (hl : s.1.length ≤ 40000) : Calls Tryz.prog 69 #[.pointer (some ⟨R, 0, none⟩)] w fun en w' => ReadA w R (readS s) en w' := by
 obtain ⟨zc, hzc, hzr⟩ : ∃ z : List Value, z = Rq0.cells ⟨0, 0, 0, zeros32, .slice none 0 0, .slice none 0 0, [], []⟩ ∧ (∀ w : World, (zeroValue 36).run Tryz.prog w = .ok (.agg z.toArray) w) := ⟨_, rfl, zeroSt⟩
 unfold readS rdP rdM rdW rdN rdD rd3
 have c1 := fun w0 h0 => pnumR R 1048577 s w0 h0
 have z0 : Wn.ByteL s.2 s.1 := Wn.St.bytes h
 have b1 := nuR_bd (most := 1048577) z0 (by decide)
 have z1 := nuR_bz 1048577 z0
 have l1 := nuR_len 1048577 s
 generalize nuR 1048577 s = p_ at c1 b1 z1 l1 ⊢
 obtain ⟨v1, s1⟩ := p_
 simp only at c1 b1 z1 l1 ⊢
 have c2 := fun w0 h0 => pnumR R 1099511627776 s1 w0 h0
 have b2 := nuR_bd (most := 1099511627776) z1 (by decide)
 have z2 := nuR_bz 1099511627776 z1
 have l2 := nuR_len 1099511627776 s1
 generalize nuR 1099511627776 s1 = p_ at c2 b2 z2 l2 ⊢
 obtain ⟨v2, s2⟩ := p_
 simp only at c2 b2 z2 l2 ⊢
 have c3 := fun w0 h0 => pnumR R 1099511627776 s2 w0 h0
 have b3 := nuR_bd (most := 1099511627776) z2 (by decide)
 have z3 := nuR_bz 1099511627776 z2
 have l3 := nuR_len 1099511627776 s2
 generalize nuR 1099511627776 s2 = p_ at c3 b3 z3 l3 ⊢
 obtain ⟨v3, s3⟩ := p_
 simp only at c3 b3 z3 l3 ⊢
 have c4 := fun w0 h0 => raw_any R s3.1 s3.2 32 w0 h0 (by omega)
 have f4 := rawS_32 s3.1 s3.2
 have z4 := rawS_bz 32 z3
 generalize rawS s3.1 s3.2 32 = p_ at c4 f4 z4 ⊢
 obtain ⟨dd, s4⟩ := p_
 simp only at c4 f4 z4 ⊢
 have c5 := fun w0 h0 => pnumR R 8 s4 w0 h0
 have b5 := nuR_bd (most := 8) (s := s4) z4 (by decide)
 generalize nuR 8 s4 = p_ at c5 b5 ⊢
 obtain ⟨v5, s5⟩ := p_
 simp only at c5 b5 ⊢
 clear z0 z1 z2 z3 z4 l1 l2 l3 hl
 obtain ⟨N, rfl⟩ : ∃ N : Nat, v5 = (N : Int) := ⟨v5.toNat, by omega⟩
 have hN : N ≤ 8 := by omega
 rw [Int.toNat_natCast]
 clear b5
 have N0 := rb_new R s w h zc hzc
 clear h hzc
 go_enter Tryz.func69, Tryz.ntmps69
 go_upto_region 0 with fail
 try simp only [Act.put]
 refine pl_begin ?_
 refine pl_run (d := some 2) (v := .pointer (some ⟨w.heap.size, 0, none⟩)) (w' := w.alloc (.cells zc.toArray 36)) (by rfl) (ex_alloc rfl (hzr _)) rfl ?_
 simp only [nz]
 refine pl_nil ?_
 have hs1 : (w.alloc (.cells zc.toArray 36)).heap.size = w.heap.size + 1 := World.size_alloc _ _
 obtain ⟨W1, hW1⟩ : ∃ W, w.alloc (.cells zc.toArray 36) = W := ⟨_, rfl⟩
 rw [hW1] at N0 hs1 ⊢
 clear hW1
 rw [← hs1] at N0
 obtain ⟨B, hB⟩ : ∃ b, W1.heap.size = b := ⟨_, rfl⟩
 rw [hB] at N0
 clear hs1
 go_upto_region 1 with fail
 try simp only [Act.put]
 refine pl_begin ?_
 refine pl_run (d := some 3) (v := .pointer (some ⟨W1.heap.size, 0, none⟩)) (w' := W1.alloc (.cells zc.toArray 36)) (by rfl) (ex_alloc rfl (hzr _)) rfl ?_
 simp only [nz]
 refine pl_nil ?_
 simp only [hB]
 obtain ⟨W2, hW2⟩ : ∃ W, W1.alloc (.cells zc.toArray 36) = W := ⟨_, rfl⟩
 rw [hW2] at N0 ⊢
 clear hW2 hB hzr
 go_upto_region 2 with fail
 try simp only [Act.put]
 refine pl_begin ?_
 refine pl_t 5 (?_) (by rfl) ?_ rfl ?_
 rotate_left
 ·go_simp
  try with_reducible rfl
 simp only [nz]
 refine pl_t 6 (?_) (by rfl) ?_ rfl ?_
 rotate_left
 ·go_simp
  try with_reducible rfl
 simp only [nz]
 refine pl_t 4 (?_) (by rfl) ?_ rfl ?_
 rotate_left
 ·go_simp
  try with_reducible rfl
 simp only [nz]
 refine pl_nil ?_
 go_upto_region 3 with fail
 try simp only [Act.put]
 refine pl_begin ?_
 refine pl_t 7 (?_) (by rfl) ?_ rfl ?_
 rotate_left
 ·go_simp
  try with_reducible rfl
 simp only [nz]
 refine pl_call (d := some 8) (by rfl) (by go_simp; first | done | exact ⟨rfl, rfl⟩ | with_reducible rfl) rfl ?_
 refine (c1 _ N0.st).mono ?_
 rintro _ n1w ⟨rfl, n1s, n1g⟩
 refine ⟨_, rfl, ?_⟩
 simp only [nz]
 refine pl_t 9 (?_) (by rfl) ?_ rfl ?_
 rotate_left
 ·go_simp
  try with_reducible rfl
 simp only [nz]
 have n1 := (N0.on n1g n1s).setE v1
 have n1t := (N0.on n1g n1s).box
 refine pl_store (w' := n1w.setCells B 0 [.int .i64 v1]) (by rfl) (ex_put1 (n := 37) rfl rfl rfl n1t (by decide) iszI rfl rfl) rfl ?_
 refine pl_nil ?_
 obtain ⟨n1v, hn1⟩ : ∃ W, n1w.setCells B 0 [.int .i64 v1] = W := ⟨_, rfl⟩
 rw [hn1] at n1 ⊢
 clear hn1 n1s n1g n1t N0 c1
 go_upto_region 4 with fail
 try simp only [Act.put]
 refine pl_begin ?_
 refine pl_t 10 (?_) (by rfl) ?_ rfl ?_
 rotate_left
 ·go_simp
  try with_reducible rfl
 simp only [nz]
 refine pl_call (d := some 11) (by rfl) (by go_simp; first | done | exact ⟨rfl, rfl⟩ | with_reducible rfl) rfl ?_
 refine (c2 _ n1.st).mono ?_
 rintro _ n2w ⟨rfl, n2s, n2g⟩
 refine ⟨_, rfl, ?_⟩
 simp only [nz]
 refine pl_t 12 (?_) (by rfl) ?_ rfl ?_
 rotate_left
 ·go_simp
  try with_reducible rfl
 simp only [nz]
 have n2 := (n1.on n2g n2s).setN v2
 have n2t := (n1.on n2g n2s).box
 refine pl_store (w' := n2w.setCells B 1 [.int .i64 v2]) (by rfl) (ex_put1 (n := 37) rfl rfl rfl n2t (by decide) iszI rfl rfl) rfl ?_
 refine pl_nil ?_
 obtain ⟨n2v, hn2⟩ : ∃ W, n2w.setCells B 1 [.int .i64 v2] = W := ⟨_, rfl⟩
 rw [hn2] at n2 ⊢
 clear hn2 n2s n2g n2t n1 c2
 go_upto_region 5 with fail
 try simp only [Act.put]
 refine pl_begin ?_
 refine pl_t 13 (?_) (by rfl) ?_ rfl ?_
 rotate_left
 ·go_simp
  try with_reducible rfl
 simp only [nz]
 refine pl_call (d := some 14) (by rfl) (by go_simp; first | done | exact ⟨rfl, rfl⟩ | with_reducible rfl) rfl ?_
 refine (c3 _ n2.st).mono ?_
 rintro _ n3w ⟨rfl, n3s, n3g⟩
 refine ⟨_, rfl, ?_⟩
 simp only [nz]
 refine pl_t 15 (?_) (by rfl) ?_ rfl ?_
 rotate_left
 ·go_simp
  try with_reducible rfl
 simp only [nz]
 have n3 := (n2.on n3g n3s).setC v3
 have n3t := (n2.on n3g n3s).box
 refine pl_store (w' := n3w.setCells B 2 [.int .i64 v3]) (by rfl) (ex_put1 (n := 37) rfl rfl rfl n3t (by decide) iszI rfl rfl) rfl ?_
 refine pl_nil ?_
 obtain ⟨n3v, hn3⟩ : ∃ W, n3w.setCells B 2 [.int .i64 v3] = W := ⟨_, rfl⟩
 rw [hn3] at n3 ⊢
 clear hn3 n3s n3g n3t n2 c3
 have n3 : Rb w R B ⟨v1, v2, v3, zeros32, .slice none 0 0, .slice none 0 0, [], []⟩ s3 n3v := n3
 go_upto_region 6 with fail
 have G8 := n3.below ((Below.refl _ _).drew)
 refine hs_begin (S := (fun _ : World => True)) 5 rfl (by kernel_rfl) ?_
 obtain ⟨w8, hw8⟩ : ∃ W, n3v.drew = W := ⟨_, rfl⟩
 rw [hw8] at G8 ⊢
 clear hw8 n3
 have hS : (fun _ : World => True) w8 := trivial
 refine hs_t 0 16 (?_) rfl (by kernel_rfl) (by kernel_rfl) (by kernel_rfl) (by rfl) ?_ hS rfl ?_
 rotate_left
 ·intro w' hw
  go_simp
  try with_reducible rfl
 simp only [nz]
 refine hs_t 1 17 (.slice (some ⟨B, 3, none⟩) 32 32) rfl (by kernel_rfl) (by kernel_rfl) (by kernel_rfl) (by rfl) (fun w' hw => by have hsl := slice_all (P := Tryz.prog) Tryz.underlying32 isz8 B 3 (by decide) w'; go_simp) hS rfl ?_
 simp only [nz]
 refine hs_t 2 18 (?_) rfl (by kernel_rfl) (by kernel_rfl) (by kernel_rfl) (by rfl) ?_ hS rfl ?_
 rotate_left
 ·intro w' hw
  go_simp
  try with_reducible rfl
 simp only [nz]
 refine hs_call (i := 3) (d := some 19) rfl (by kernel_rfl) (by rfl) (by go_simp; first | done | exact ⟨rfl, rfl⟩ | with_reducible rfl) rfl ?_
 refine (c4 w8 G8.st).mono ?_
 rintro _ w9 ⟨v9, rfl, m9, s9, g9⟩
 refine ⟨_, rfl, trivial, ?_⟩
 simp only [nz]
 have G9 := G8.on g9 s9
 obtain ⟨a9, cap9, rfl, _, _, row9⟩ := m9.rowAt (by unfold maxLen; rcases f4 with q | q <;> (first | omega | (rw [q]; decide)))
 clear c4 G8 s9 g9 m9
 obtain ⟨w10, hcp, G10⟩ := G9.copy (cap := cap9) rfl row9 f4
 refine hs_run (i := 4) (d := some 20) (v := goInt dd.length) (w' := w10) rfl (by kernel_rfl) (by rfl) (exec_copy rfl rfl rfl hcp) rfl trivial ?_
 simp only [nz]
 refine hs_done (by kernel_rfl) ?_
 clear hcp G9 row9 f4 hS
 have G10 : Rb w R B ⟨v1, v2, v3, pad32 dd, .slice none 0 0, .slice none 0 0, [], []⟩ s4 w10 := G10
 obtain ⟨dp, hdp⟩ : ∃ x, Hid (pad32 dd = x) := ⟨_, hide rfl⟩
 rw [hdp.out] at G10
 go_upto_region 7 with fail
 try simp only [Act.put]
 refine pl_begin ?_
 refine pl_t 21 (?_) (by rfl) ?_ rfl ?_
 rotate_left
 ·go_simp
  try with_reducible rfl
 simp only [nz]
 refine pl_call (d := some 22) (by rfl) (by go_simp; first | done | exact ⟨rfl, rfl⟩ | with_reducible rfl) rfl ?_
 refine (c5 _ G10.st).mono ?_
 rintro _ w11 ⟨rfl, s11, g11⟩
 refine ⟨_, rfl, ?_⟩
 simp only [nz]
 refine pl_t 23 (?_) (by rfl) ?_ rfl ?_
 rotate_left
 ·go_simp
  try with_reducible rfl
 simp only [nz]
 refine pl_nil ?_
 have HL0 : Hid (Lw w R B v1 v2 v3 dp s5 0 w11) := hide ⟨_, G10.on g11 s11⟩
 clear G10 s11 g11 c5
 have HB1 := hide b1
 have HB2 := hide b2
 have HB3 := hide b3
 clear b1 b2 b3
 go_wp2_with fail
 go_loopw [23] (fun iv wr => ∃ k : Nat, k ≤ N ∧ iv = .int .i64 (k : Int) ∧ Hid (Lw w R B v1 v2 v3 dp s5 k wr)) (fun iv _ => N - (intOf iv).toNat)
 case atStart => exact ⟨0, by omega, rfl, HL0⟩
 case round =>
  clear HL0
  obtain ⟨k, hk, rfl, HL⟩ := hrel
  by_cases hlt : k < N
  ·have k1 : (k : Int) < N := by omega
   obtain ⟨vv, HV⟩ := HL.out
   clear HL
   obtain ⟨i1, hi, hiz, his, hib⟩ := info_parts infoWn
   have hzk : (Value.agg #[.int .i64 0, .int .u64 0]).cells.size = 2 := rfl
   have hle : (itR wiR s5 k).1.length ≤ 1000 := by rw [itR_length]; omega
   have cE := fun w0 h0 => pwinR R (itR wiR s5 k).2 w0 h0
   have hok := wiR_ok (itR wiR s5 k).2
   have E1 : Hid (itR wiR s5 (k + 1) = ((itR wiR s5 k).1 ++ [(wiR (itR wiR s5 k).2).1], (wiR (itR wiR s5 k).2).2)) := hide rfl
   generalize wiR (itR wiR s5 k).2 = p_ at cE hok E1
   obtain ⟨gx, sx⟩ := p_
   simp only at cE hok E1
   have hul : gx.cells.length = 2 := rfl
   have hone := WdE.one gx
   go_upto_region 9 with fail
   have V8 := HV.below ((Below.refl _ _).drew)
   refine hs_begin (S := (fun _ : World => True)) 8 rfl (by kernel_rfl) ?_
   obtain ⟨w8, hw8⟩ : ∃ W, wr.drew = W := ⟨_, rfl⟩
   rw [hw8] at V8 ⊢
   clear hw8
   have hS : (fun _ : World => True) w8 := trivial
   refine hs_t 0 25 (?_) rfl (by kernel_rfl) (by kernel_rfl) (by kernel_rfl) (by rfl) ?_ hS rfl ?_
   rotate_left
   ·intro w' hw
    go_simp
    try with_reducible rfl
   simp only [nz]
   refine hs_t 2 27 (?_) rfl (by kernel_rfl) (by kernel_rfl) (by kernel_rfl) (by rfl) ?_ hS rfl ?_
   rotate_left
   ·intro w' hw
    go_simp
    try with_reducible rfl
   simp only [nz]
   refine hs_forkL (l := [1, 3]) (by kernel_rfl) (by simp) ?_
   intro ii hii
   simp only [List.mem_cons, List.not_mem_nil, or_false] at hii
   rcases hii with rfl | rfl
   ·refine st_run (i := 1) (d := some 26) (v := vv) (w' := w8) rfl (by rfl) (pl_one rfl rfl V8.cw Tryz.underlying33 rfl) rfl trivial ?_
    simp only [nz]
    refine hs_call (i := 3) (d := some 28) rfl (by kernel_rfl) (by rfl) (by go_simp; first | done | exact ⟨rfl, rfl⟩ | with_reducible rfl) rfl ?_
    refine (cE w8 V8.st).mono ?_
    rintro _ w6 ⟨rfl, S6, g6⟩
    refine ⟨_, rfl, trivial, ?_⟩
    simp only [nz]
    have V6 := V8.on g6 S6
    have hb7 : Below w6.heap.size w6 (w6.alloc (.cells gx.cells.toArray 79)) := (Below.refl _ _).alloc (Nat.le_refl _) _
    have r7 : (w6.alloc (.cells gx.cells.toArray 79)).rangeAt w6.heap.size 0 gx.cells := by simpa using range_new w6 (gx.cells).toArray 79
    refine hs_run (i := 4) (d := some 29) (v := .slice (some ⟨w6.heap.size, 0, none⟩) 1 1) (w' := w6.alloc (.cells gx.cells.toArray 79)) rfl (by kernel_rfl) (by rfl) (ex_bsi rfl rfl (run_bsw _ _)) rfl trivial ?_
    simp only [nz]
    obtain ⟨w7, hw7⟩ : ∃ W, w6.alloc (.cells gx.cells.toArray 79) = W := ⟨_, rfl⟩
    rw [hw7] at hb7 r7 ⊢
    clear hw7
    have V7 := V6.below hb7
    refine hs_runX (i := 5) (d := some 30) rfl (by kernel_rfl) (by rfl) rfl (ex_app1 rfl rfl rfl Tryz.underlying33 hi hiz his (by rw [hib]; decide) rfl V7.wo (by have := V7.lb; omega) r7 hul hone hle hzk) ?_
    rintro v9 w9 ⟨o9, g9, gb9⟩
    refine ⟨trivial, ?_⟩
    simp only [nz]
    refine hs_t 6 31 (?_) rfl (by kernel_rfl) (by kernel_rfl) (by kernel_rfl) (by rfl) ?_ hS rfl ?_
    rotate_left
    ·intro w' hw
     go_simp
     try with_reducible rfl
    simp only [nz]
    obtain ⟨tb9, V9⟩ := V7.appW hok g9 o9 gb9
    have hv9 : v9.cells = #[v9] ∧ v9.oneCell' = true := own_cell o9
    refine hs_store (i := 7) (w' := w9.setCells B 35 [v9]) rfl (by kernel_rfl) (by rfl) (ex_put1 (n := 37) rfl rfl rfl tb9 (by decide) iszWs hv9.1 hv9.2) rfl trivial ?_
    refine hs_done (by kernel_rfl) ?_
    have HL6 : Hid (Lw w R B v1 v2 v3 dp s5 (k + 1) (w9.setCells B 35 [v9])) := hide ⟨v9, by rw [E1.out]; exact V9⟩
    clear E1 HV o9 g9 gb9 tb9 hv9 V9 V7 V6 V8 r7 hb7 S6 g6 hok hle hul hone cE hS
    go_wp2_with fail
    go_roundw
    case rel => exact ⟨k + 1, by omega, by go_num, HL6⟩
    case measure => simp [intOf]; omega
   ·refine st_call (i := 3) (d := some 28) rfl (by rfl) (by go_simp; first | done | exact ⟨rfl, rfl⟩ | with_reducible rfl) rfl ?_
    refine (cE w8 V8.st).mono ?_
    rintro _ w6 ⟨rfl, S6, g6⟩
    refine ⟨_, rfl, trivial, ?_⟩
    simp only [nz]
    have V6 := V8.on g6 S6
    refine hs_forkL (l := [1, 4]) (by kernel_rfl) (by simp) ?_
    intro ii hii
    simp only [List.mem_cons, List.not_mem_nil, or_false] at hii
    rcases hii with rfl | rfl
    ·refine st_run (i := 1) (d := some 26) (v := vv) (w' := w6) rfl (by rfl) (pl_one rfl rfl V6.cw Tryz.underlying33 rfl) rfl trivial ?_
     simp only [nz]
     have hb7 : Below w6.heap.size w6 (w6.alloc (.cells gx.cells.toArray 79)) := (Below.refl _ _).alloc (Nat.le_refl _) _
     have r7 : (w6.alloc (.cells gx.cells.toArray 79)).rangeAt w6.heap.size 0 gx.cells := by simpa using range_new w6 (gx.cells).toArray 79
     refine hs_run (i := 4) (d := some 29) (v := .slice (some ⟨w6.heap.size, 0, none⟩) 1 1) (w' := w6.alloc (.cells gx.cells.toArray 79)) rfl (by kernel_rfl) (by rfl) (ex_bsi rfl rfl (run_bsw _ _)) rfl trivial ?_
     simp only [nz]
     obtain ⟨w7, hw7⟩ : ∃ W, w6.alloc (.cells gx.cells.toArray 79) = W := ⟨_, rfl⟩
     rw [hw7] at hb7 r7 ⊢
     clear hw7
     have V7 := V6.below hb7
     refine hs_runX (i := 5) (d := some 30) rfl (by kernel_rfl) (by rfl) rfl (ex_app1 rfl rfl rfl Tryz.underlying33 hi hiz his (by rw [hib]; decide) rfl V7.wo (by have := V7.lb; omega) r7 hul hone hle hzk) ?_
     rintro v9 w9 ⟨o9, g9, gb9⟩
     refine ⟨trivial, ?_⟩
     simp only [nz]
     refine hs_t 6 31 (?_) rfl (by kernel_rfl) (by kernel_rfl) (by kernel_rfl) (by rfl) ?_ hS rfl ?_
     rotate_left
     ·intro w' hw
      go_simp
      try with_reducible rfl
     simp only [nz]
     obtain ⟨tb9, V9⟩ := V7.appW hok g9 o9 gb9
     have hv9 : v9.cells = #[v9] ∧ v9.oneCell' = true := own_cell o9
     refine hs_store (i := 7) (w' := w9.setCells B 35 [v9]) rfl (by kernel_rfl) (by rfl) (ex_put1 (n := 37) rfl rfl rfl tb9 (by decide) iszWs hv9.1 hv9.2) rfl trivial ?_
     refine hs_done (by kernel_rfl) ?_
     have HL6 : Hid (Lw w R B v1 v2 v3 dp s5 (k + 1) (w9.setCells B 35 [v9])) := hide ⟨v9, by rw [E1.out]; exact V9⟩
     clear E1 HV o9 g9 gb9 tb9 hv9 V9 V7 V6 V8 r7 hb7 S6 g6 hok hle hul hone cE hS
     go_wp2_with fail
     go_roundw
     case rel => exact ⟨k + 1, by omega, by go_num, HL6⟩
     case measure => simp [intOf]; omega
    ·have hb7 : Below w6.heap.size w6 (w6.alloc (.cells gx.cells.toArray 79)) := (Below.refl _ _).alloc (Nat.le_refl _) _
     have r7 : (w6.alloc (.cells gx.cells.toArray 79)).rangeAt w6.heap.size 0 gx.cells := by simpa using range_new w6 (gx.cells).toArray 79
     refine st_run (i := 4) (d := some 29) (v := .slice (some ⟨w6.heap.size, 0, none⟩) 1 1) (w' := w6.alloc (.cells gx.cells.toArray 79)) rfl (by rfl) (ex_bsi rfl rfl (run_bsw _ _)) rfl trivial ?_
     simp only [nz]
     obtain ⟨w7, hw7⟩ : ∃ W, w6.alloc (.cells gx.cells.toArray 79) = W := ⟨_, rfl⟩
     rw [hw7] at hb7 r7 ⊢
     clear hw7
     have V7 := V6.below hb7
     refine hs_run (i := 1) (d := some 26) (v := vv) (w' := w7) rfl (by kernel_rfl) (by rfl) (pl_one rfl rfl V7.cw Tryz.underlying33 rfl) rfl trivial ?_
     simp only [nz]
     refine hs_runX (i := 5) (d := some 30) rfl (by kernel_rfl) (by rfl) rfl (ex_app1 rfl rfl rfl Tryz.underlying33 hi hiz his (by rw [hib]; decide) rfl V7.wo (by have := V7.lb; omega) r7 hul hone hle hzk) ?_
     rintro v9 w9 ⟨o9, g9, gb9⟩
     refine ⟨trivial, ?_⟩
     simp only [nz]
     refine hs_t 6 31 (?_) rfl (by kernel_rfl) (by kernel_rfl) (by kernel_rfl) (by rfl) ?_ hS rfl ?_
     rotate_left
     ·intro w' hw
      go_simp
      try with_reducible rfl
     simp only [nz]
     obtain ⟨tb9, V9⟩ := V7.appW hok g9 o9 gb9
     have hv9 : v9.cells = #[v9] ∧ v9.oneCell' = true := own_cell o9
     refine hs_store (i := 7) (w' := w9.setCells B 35 [v9]) rfl (by kernel_rfl) (by rfl) (ex_put1 (n := 37) rfl rfl rfl tb9 (by decide) iszWs hv9.1 hv9.2) rfl trivial ?_
     refine hs_done (by kernel_rfl) ?_
     have HL6 : Hid (Lw w R B v1 v2 v3 dp s5 (k + 1) (w9.setCells B 35 [v9])) := hide ⟨v9, by rw [E1.out]; exact V9⟩
     clear E1 HV o9 g9 gb9 tb9 hv9 V9 V7 V6 V8 r7 hb7 S6 g6 hok hle hul hone cE hS
     go_wp2_with fail
     go_roundw
     case rel => exact ⟨k + 1, by omega, by go_num, HL6⟩
     case measure => simp [intOf]; omega
  ·have hkN : k = N := by omega
   subst hkN
   obtain ⟨wv, HV⟩ := HL.out
   clear HL hlt hk
   have hwl := itR_length wiR s5 k
   have c6 := fun w0 h0 => pnumR R 64 (itR wiR s5 k).2 w0 h0
   have b6 := nuR_bd (most := 64) (Wn.St.bytes HV.st) (by decide)
   obtain ⟨p_, hp_⟩ : ∃ p, nuR 64 (itR wiR s5 k).2 = p := ⟨_, rfl⟩
   rw [hp_] at b6
   simp only [hp_] at c6
   obtain ⟨v6, s6⟩ := p_
   simp only at c6 b6
   have HE6 := hide hp_
   clear hp_
   have k1 : ¬ ((k : Int) < k) := by omega
   go_upto_region 11 with fail
   try simp only [Act.put]
   refine pl_begin ?_
   refine pl_t 33 (?_) (by rfl) ?_ rfl ?_
   rotate_left
   ·go_simp
    try with_reducible rfl
   simp only [nz]
   refine pl_call (d := some 34) (by rfl) (by go_simp; first | done | exact ⟨rfl, rfl⟩ | with_reducible rfl) rfl ?_
   refine (c6 _ HV.st).mono ?_
   rintro _ w12 ⟨rfl, s12, g12⟩
   refine ⟨_, rfl, ?_⟩
   simp only [nz]
   refine pl_t 35 (?_) (by rfl) ?_ rfl ?_
   rotate_left
   ·go_simp
    try with_reducible rfl
   simp only [nz]
   refine pl_nil ?_
   have HP0 : Hid (Lp w R B v1 v2 v3 dp wv (itR wiR s5 k).1 s6 0 w12) := hide ⟨_, HV.on g12 s12⟩
   clear HV s12 g12 c6 k1
   obtain ⟨M, rfl⟩ : ∃ M : Nat, v6 = (M : Int) := ⟨v6.toNat, by omega⟩
   have hM : M ≤ 64 := by omega
   clear b6
   go_wp2_with fail
   go_loopw [35] (fun iv wr => ∃ k2 : Nat, k2 ≤ M ∧ iv = .int .i64 (k2 : Int) ∧ Hid (Lp w R B v1 v2 v3 dp wv (itR wiR s5 k).1 s6 k2 wr)) (fun iv _ => M - (intOf iv).toNat)
   case atStart => exact ⟨0, by omega, rfl, HP0⟩
   case round =>
    clear HP0
    obtain ⟨k2, hk2, rfl, HP⟩ := hrel
    by_cases hlt : k2 < M
    ·have k1 : (k2 : Int) < M := by omega
     obtain ⟨vv, HW⟩ := HP.out
     clear HP
     obtain ⟨i1, hi, hiz, his, hib⟩ := info_parts infoIn
     have hzk : (Value.int .i64 0).cells.size = 1 := rfl
     have hle : (itR (nuR 1048592) s6 k2).1.length ≤ 1000 := by rw [itR_length]; omega
     have cE := fun w0 h0 => pnumR R 1048592 (itR (nuR 1048592) s6 k2).2 w0 h0
     have hok := nuR_ok (s := (itR (nuR 1048592) s6 k2).2) (Wn.St.bytes HW.st)
     have E1 : Hid (itR (nuR 1048592) s6 (k2 + 1) = ((itR (nuR 1048592) s6 k2).1 ++ [(nuR 1048592 (itR (nuR 1048592) s6 k2).2).1], (nuR 1048592 (itR (nuR 1048592) s6 k2).2).2)) := hide rfl
     generalize nuR 1048592 (itR (nuR 1048592) s6 k2).2 = p_ at cE hok E1
     obtain ⟨gx, sx⟩ := p_
     simp only at cE hok E1
     have hul : [Value.int .i64 gx].length = 1 := rfl
     have hone := PnE.one gx
     go_upto_region 13 with fail
     have V8 := HW.below ((Below.refl _ _).drew)
     refine hs_begin (S := (fun _ : World => True)) 8 rfl (by kernel_rfl) ?_
     obtain ⟨w8, hw8⟩ : ∃ W, wr.drew = W := ⟨_, rfl⟩
     rw [hw8] at V8 ⊢
     clear hw8
     have hS : (fun _ : World => True) w8 := trivial
     refine hs_t 0 37 (?_) rfl (by kernel_rfl) (by kernel_rfl) (by kernel_rfl) (by rfl) ?_ hS rfl ?_
     rotate_left
     ·intro w' hw
      go_simp
      try with_reducible rfl
     simp only [nz]
     refine hs_t 2 39 (?_) rfl (by kernel_rfl) (by kernel_rfl) (by kernel_rfl) (by rfl) ?_ hS rfl ?_
     rotate_left
     ·intro w' hw
      go_simp
      try with_reducible rfl
     simp only [nz]
     refine hs_forkL (l := [1, 3]) (by kernel_rfl) (by simp) ?_
     intro ii hii
     simp only [List.mem_cons, List.not_mem_nil, or_false] at hii
     rcases hii with rfl | rfl
     ·refine st_run (i := 1) (d := some 38) (v := vv) (w' := w8) rfl (by rfl) (pl_one rfl rfl V8.cp Tryz.underlying34 rfl) rfl trivial ?_
      simp only [nz]
      refine hs_call (i := 3) (d := some 40) rfl (by kernel_rfl) (by rfl) (by go_simp; first | done | exact ⟨rfl, rfl⟩ | with_reducible rfl) rfl ?_
      refine (cE w8 V8.st).mono ?_
      rintro _ w6 ⟨rfl, S6, g6⟩
      refine ⟨_, rfl, trivial, ?_⟩
      simp only [nz]
      have V6 := V8.on g6 S6
      have hb7 : Below w6.heap.size w6 (w6.alloc (.cells [Value.int .i64 gx].toArray 3)) := (Below.refl _ _).alloc (Nat.le_refl _) _
      have r7 : (w6.alloc (.cells [Value.int .i64 gx].toArray 3)).rangeAt w6.heap.size 0 [Value.int .i64 gx] := by simpa using range_new w6 ([Value.int .i64 gx]).toArray 3
      refine hs_run (i := 4) (d := some 41) (v := .slice (some ⟨w6.heap.size, 0, none⟩) 1 1) (w' := w6.alloc (.cells [Value.int .i64 gx].toArray 3)) rfl (by kernel_rfl) (by rfl) (ex_bsi rfl rfl (run_bsi _ _)) rfl trivial ?_
      simp only [nz]
      obtain ⟨w7, hw7⟩ : ∃ W, w6.alloc (.cells [Value.int .i64 gx].toArray 3) = W := ⟨_, rfl⟩
      rw [hw7] at hb7 r7 ⊢
      clear hw7
      have V7 := V6.below hb7
      refine hs_runX (i := 5) (d := some 42) rfl (by kernel_rfl) (by rfl) rfl (ex_app1 rfl rfl rfl Tryz.underlying34 hi hiz his (by rw [hib]; decide) rfl V7.po (by have := V7.lb; omega) r7 hul hone hle hzk) ?_
      rintro v9 w9 ⟨o9, g9, gb9⟩
      refine ⟨trivial, ?_⟩
      simp only [nz]
      refine hs_t 6 43 (?_) rfl (by kernel_rfl) (by kernel_rfl) (by kernel_rfl) (by rfl) ?_ hS rfl ?_
      rotate_left
      ·intro w' hw
       go_simp
       try with_reducible rfl
      simp only [nz]
      obtain ⟨tb9, V9⟩ := V7.appP hok g9 o9 gb9
      have hv9 : v9.cells = #[v9] ∧ v9.oneCell' = true := own_cell o9
      refine hs_store (i := 7) (w' := w9.setCells B 36 [v9]) rfl (by kernel_rfl) (by rfl) (ex_put1 (n := 37) rfl rfl rfl tb9 (by decide) iszIs hv9.1 hv9.2) rfl trivial ?_
      refine hs_done (by kernel_rfl) ?_
      have HL6 : Hid (Lp w R B v1 v2 v3 dp wv (itR wiR s5 k).1 s6 (k2 + 1) (w9.setCells B 36 [v9])) := hide ⟨v9, by rw [E1.out]; exact V9⟩
      clear E1 HW o9 g9 gb9 tb9 hv9 V9 V7 V6 V8 r7 hb7 S6 g6 hok hle hul hone cE hS
      go_wp2_with fail
      go_roundw
      case rel => exact ⟨k2 + 1, by omega, by go_num, HL6⟩
      case measure => simp [intOf]; omega
     ·refine st_call (i := 3) (d := some 40) rfl (by rfl) (by go_simp; first | done | exact ⟨rfl, rfl⟩ | with_reducible rfl) rfl ?_
      refine (cE w8 V8.st).mono ?_
      rintro _ w6 ⟨rfl, S6, g6⟩
      refine ⟨_, rfl, trivial, ?_⟩
      simp only [nz]
      have V6 := V8.on g6 S6
      refine hs_forkL (l := [1, 4]) (by kernel_rfl) (by simp) ?_
      intro ii hii
      simp only [List.mem_cons, List.not_mem_nil, or_false] at hii
      rcases hii with rfl | rfl
      ·refine st_run (i := 1) (d := some 38) (v := vv) (w' := w6) rfl (by rfl) (pl_one rfl rfl V6.cp Tryz.underlying34 rfl) rfl trivial ?_
       simp only [nz]
       have hb7 : Below w6.heap.size w6 (w6.alloc (.cells [Value.int .i64 gx].toArray 3)) := (Below.refl _ _).alloc (Nat.le_refl _) _
       have r7 : (w6.alloc (.cells [Value.int .i64 gx].toArray 3)).rangeAt w6.heap.size 0 [Value.int .i64 gx] := by simpa using range_new w6 ([Value.int .i64 gx]).toArray 3
       refine hs_run (i := 4) (d := some 41) (v := .slice (some ⟨w6.heap.size, 0, none⟩) 1 1) (w' := w6.alloc (.cells [Value.int .i64 gx].toArray 3)) rfl (by kernel_rfl) (by rfl) (ex_bsi rfl rfl (run_bsi _ _)) rfl trivial ?_
       simp only [nz]
       obtain ⟨w7, hw7⟩ : ∃ W, w6.alloc (.cells [Value.int .i64 gx].toArray 3) = W := ⟨_, rfl⟩
       rw [hw7] at hb7 r7 ⊢
       clear hw7
       have V7 := V6.below hb7
       refine hs_runX (i := 5) (d := some 42) rfl (by kernel_rfl) (by rfl) rfl (ex_app1 rfl rfl rfl Tryz.underlying34 hi hiz his (by rw [hib]; decide) rfl V7.po (by have := V7.lb; omega) r7 hul hone hle hzk) ?_
       rintro v9 w9 ⟨o9, g9, gb9⟩
       refine ⟨trivial, ?_⟩
       simp only [nz]
       refine hs_t 6 43 (?_) rfl (by kernel_rfl) (by kernel_rfl) (by kernel_rfl) (by rfl) ?_ hS rfl ?_
       rotate_left
       ·intro w' hw
        go_simp
        try with_reducible rfl
       simp only [nz]
       obtain ⟨tb9, V9⟩ := V7.appP hok g9 o9 gb9
       have hv9 : v9.cells = #[v9] ∧ v9.oneCell' = true := own_cell o9
       refine hs_store (i := 7) (w' := w9.setCells B 36 [v9]) rfl (by kernel_rfl) (by rfl) (ex_put1 (n := 37) rfl rfl rfl tb9 (by decide) iszIs hv9.1 hv9.2) rfl trivial ?_
       refine hs_done (by kernel_rfl) ?_
       have HL6 : Hid (Lp w R B v1 v2 v3 dp wv (itR wiR s5 k).1 s6 (k2 + 1) (w9.setCells B 36 [v9])) := hide ⟨v9, by rw [E1.out]; exact V9⟩
       clear E1 HW o9 g9 gb9 tb9 hv9 V9 V7 V6 V8 r7 hb7 S6 g6 hok hle hul hone cE hS
       go_wp2_with fail
       go_roundw
       case rel => exact ⟨k2 + 1, by omega, by go_num, HL6⟩
       case measure => simp [intOf]; omega
      ·have hb7 : Below w6.heap.size w6 (w6.alloc (.cells [Value.int .i64 gx].toArray 3)) := (Below.refl _ _).alloc (Nat.le_refl _) _
       have r7 : (w6.alloc (.cells [Value.int .i64 gx].toArray 3)).rangeAt w6.heap.size 0 [Value.int .i64 gx] := by simpa using range_new w6 ([Value.int .i64 gx]).toArray 3
       refine st_run (i := 4) (d := some 41) (v := .slice (some ⟨w6.heap.size, 0, none⟩) 1 1) (w' := w6.alloc (.cells [Value.int .i64 gx].toArray 3)) rfl (by rfl) (ex_bsi rfl rfl (run_bsi _ _)) rfl trivial ?_
       simp only [nz]
       obtain ⟨w7, hw7⟩ : ∃ W, w6.alloc (.cells [Value.int .i64 gx].toArray 3) = W := ⟨_, rfl⟩
       rw [hw7] at hb7 r7 ⊢
       clear hw7
       have V7 := V6.below hb7
       refine hs_run (i := 1) (d := some 38) (v := vv) (w' := w7) rfl (by kernel_rfl) (by rfl) (pl_one rfl rfl V7.cp Tryz.underlying34 rfl) rfl trivial ?_
       simp only [nz]
       refine hs_runX (i := 5) (d := some 42) rfl (by kernel_rfl) (by rfl) rfl (ex_app1 rfl rfl rfl Tryz.underlying34 hi hiz his (by rw [hib]; decide) rfl V7.po (by have := V7.lb; omega) r7 hul hone hle hzk) ?_
       rintro v9 w9 ⟨o9, g9, gb9⟩
       refine ⟨trivial, ?_⟩
       simp only [nz]
       refine hs_t 6 43 (?_) rfl (by kernel_rfl) (by kernel_rfl) (by kernel_rfl) (by rfl) ?_ hS rfl ?_
       rotate_left
       ·intro w' hw
        go_simp
        try with_reducible rfl
       simp only [nz]
       obtain ⟨tb9, V9⟩ := V7.appP hok g9 o9 gb9
       have hv9 : v9.cells = #[v9] ∧ v9.oneCell' = true := own_cell o9
       refine hs_store (i := 7) (w' := w9.setCells B 36 [v9]) rfl (by kernel_rfl) (by rfl) (ex_put1 (n := 37) rfl rfl rfl tb9 (by decide) iszIs hv9.1 hv9.2) rfl trivial ?_
       refine hs_done (by kernel_rfl) ?_
       have HL6 : Hid (Lp w R B v1 v2 v3 dp wv (itR wiR s5 k).1 s6 (k2 + 1) (w9.setCells B 36 [v9])) := hide ⟨v9, by rw [E1.out]; exact V9⟩
       clear E1 HW o9 g9 gb9 tb9 hv9 V9 V7 V6 V8 r7 hb7 S6 g6 hok hle hul hone cE hS
       go_wp2_with fail
       go_roundw
       case rel => exact ⟨k2 + 1, by omega, by go_num, HL6⟩
       case measure => simp [intOf]; omega
    ·have k1 : ¬ ((k2 : Int) < M) := by omega
     have b1 := HB1.out
     have b2 := HB2.out
     have b3 := HB3.out
     obtain ⟨pv, HW⟩ := HP.out
     have hk2 : k2 = M := by omega
     subst hk2
     have hpl := itR_length (nuR 1048592) s6 k2
     obtain ⟨qc, hqc⟩ : ∃ q, Hid (Rq0.cells ⟨v1, v2, v3, dp, wv, pv, (itR wiR s5 k).1, (itR (nuR 1048592) s6 k2).1⟩ = q) := ⟨_, hide rfl⟩
     have rpc := HW.row
     rw [hqc.out] at rpc
     have hql : qc.length = 37 := by rw [← hqc.out]; unfold Rq0.cells; simp only [List.length_append, v8_length]; have := HW.dl; simp only at this; rw [this]; rfl
     have hqo : ∀ v ∈ qc, v.oneCell' = true := by
      rw [← hqc.out]
      unfold Rq0.cells
      intro v hv
      have e1 := (own_cell HW.wo).2
      have e2 := (own_cell HW.po).2
      simp only at e1 e2
      rcases List.mem_append.1 hv with g | g
      ·simp only [List.mem_cons, List.not_mem_nil, or_false] at g
       rcases g with rfl | rfl | rfl <;> rfl
      ·rcases List.mem_append.1 g with g | g
       ·exact v8_one _ v g
       ·simp only [List.mem_cons, List.not_mem_nil, or_false] at g
        rcases g with rfl | rfl
        ·exact e1
        ·exact e2
     have hip : (Tryz.prog.info? 36).map (·.size) = some qc.length := by rw [hql]; exact iszSt
     have hth : wr.there w.heap.size 0 qc.length := by rw [hql]; exact HW.ans
     have hlow : Below w.heap.size wr (wr.setCells w.heap.size 0 qc) := below_sets (Nat.le_refl _) qc 0 _ (Below.refl _ wr)
     have hrs := run_loadVar_mid (P := Tryz.prog) (wr.setCells w.heap.size 0 qc) w.heap.size 0 36 qc _ (World.rangeAt_setCells_same wr w.heap.size 0 qc hth) Tryz.underlying36 rfl hip
     have HF : Hid (ReadA w R (⟨v1, v2, v3, pad32 dd, (itR wiR s5 k).1, (itR (nuR 1048592) (nuR 64 (itR wiR s5 k).2).2 (nuR 64 (itR wiR s5 k).2).1.toNat).1⟩, (itR (nuR 1048592) (nuR 64 (itR wiR s5 k).2).2 (nuR 64 (itR wiR s5 k).2).1.toNat).2) (.returned (.agg qc.toArray)) (wr.setCells w.heap.size 0 qc)) := hide (by
      rw [HE6.out, hdp.out]
      simp only [Int.toNat_natCast]
      obtain ⟨x, e1, e2, e3, e4, e5, e6, e7⟩ := HW.done ⟨by show _ ≤ v1; omega, by show v1 ≤ _; omega⟩ ⟨by show _ ≤ v2; omega, by show v2 ≤ _; omega⟩ ⟨by show _ ≤ v3; omega, by show v3 ≤ _; omega⟩ (by simp only; omega) (by simp only; omega) qc hlow
      exact ⟨x, by rw [e1, hqc.out], e2, e3, e4, e5, e6, e7⟩)
     clear HW HP hlow hqc HB1 HB2 HB3 hpl hwl HE6 hdp
     go_upto_region 15 with fail
     try simp only [Act.put]
     refine pl_begin ?_
     refine pl_t 45 (.agg qc.toArray) (by rfl) (ex_mid rfl rfl rpc Tryz.underlying36 rfl hip) rfl ?_
     simp only [nz]
     refine pl_store (w' := wr.setCells w.heap.size 0 qc) (by rfl) (ex_put (cs := qc.toArray) rfl rfl rfl (by simpa using hth) (by simpa using hip) (all_one hqo)) rfl ?_
     refine pl_nil ?_
     clear rpc hth hqo hql
     go_wp2_with fail
     refine bodyPost_ret (v := .agg qc.toArray) ?_ rfl ?_
     ·simp [results, Tryz.results69, Act.put, asAddr, hrs]
     ·exact HF.out
theorem ex_build {P : Program} {o : Oper} {a : Act} {w : World} {t : TypeId} {parts : List (Nat × Operand)} {vs : List (Nat × Value)} {v : Value} (ho : o.op = .build t parts.toArray) (hv : (parts.map fun (x : Nat × Operand) => (x.1, a.eval x.2)) = vs)
  (hr : (Instr.build t vs.toArray).run P w = .ok v w) : (execOp a.eval o).run P w = .ok (.value v) w := by
 subst hv
 have e : Array.map (fun (x : Nat × Operand) => (x.1, a.eval x.2)) parts.toArray = (parts.map fun (x : Nat × Operand) => (x.1, a.eval x.2)).toArray := by simp
 unfold execOp
 simp only [ho]
 rw [show (Instr.build t (Array.map (fun x => match x with | (i, x) => (i, a.eval x)) parts.toArray)) = Instr.build t (parts.map fun (x : Nat × Operand) => (x.1, a.eval x.2)).toArray from congrArg _ e]
 simp only [Sem.run_bind, hr, Result.andThen_ok, Sem.run_pure]
theorem ex_conv {o : Oper} {a : Act} {w w' : World} {x : Operand} {s d : TypeId} {u v : Value} (ho : o.op = .convert s d x) (hx : a.eval x = u) (hc : (convert s d u).run Tryz.prog w = .ok v w') : (execOp a.eval o).run Tryz.prog w = .ok (.value v) w' := by
 unfold execOp
 simp [ho, hx, hc]
def Sp.zero : Sp := ⟨0, 0, 0, zeros32, [], []⟩
def Stt.zero : Stt := ⟨0, 0, 0, zeros32, ⟨none, 0, []⟩, ⟨none, 0, []⟩⟩
theorem Stt.zero_ok : Stt.zero.ok := ⟨by decide, by decide, by decide, by decide, by decide, by decide, by decide, by decide⟩
theorem Stt.zero_at (w : World) : Stt.zero.At w := ⟨RowsAt.none, RowsAt.none⟩
theorem Stt.zero_lo (n : Nat) : Stt.zero.Lo n := ⟨fun b hb => (by cases hb), fun b hb => (by cases hb)⟩
def Sp.good (c : Ld.Cfg) (p : Sp) : Bool := Stt.good c ⟨p.e, p.n, p.c, p.d, ⟨none, 0, p.ws⟩, ⟨none, 0, p.ps⟩⟩
theorem Stt.good_sp (c : Ld.Cfg) (s : Stt) : s.good c = s.sp.good c := rfl
def parseS (c : Ld.Cfg) (zs : List Int) : Sp × Int := if doneE (readS (zs, 0)).2.1 (readS (zs, 0)).2.2 ≠ 0 then (Sp.zero, doneE (readS (zs, 0)).2.1 (readS (zs, 0)).2.2) else if (readS (zs, 0)).1.good c = true then ((readS (zs, 0)).1, 0) else (Sp.zero, 220)
def ParsA (w : World) (p : Sp × Int) (en : Ending) (w' : World) : Prop := ∃ x : Stt, en = .returned (.tuple #[.agg x.cells.toArray, .int .i64 p.2]) ∧ x.sp = p.1 ∧ x.ok ∧ x.At w' ∧ x.Lo w.heap.size ∧ Below w.heap.size w w'
theorem pars_out {w W : World} {A : Nat} {x : Stt} {n : Int} {p : Sp × Int} {qc : List Value} (hq : x.cells = qc) (hA : w.heap.size ≤ A) (hB : Below w.heap.size w W) (hn : n = p.2) (hp : x.sp = p.1) (ho : x.ok) (ha : x.At W) (hl : x.Lo (A + 1)) : ParsA w p (.returned (.tuple #[.agg qc.toArray, .int .i64 n])) (W.setCells A 0 qc) := by
 subst hq hn
 exact ⟨x, rfl, hp, ho, ha.put hl (Nat.lt_succ_self _), hl.mono (by omega), below_sets hA _ _ _ hB⟩
theorem build_s0 (w : World) : (Instr.build 36 #[]).run Tryz.prog w = .ok (.agg Stt.zero.cells.toArray) w := by kernel_rfl
theorem zeroS0 (w : World) : (zeroValue 36).run Tryz.prog w = .ok (.agg Stt.zero.cells.toArray) w := by kernel_rfl
set_option maxRecDepth 100000 in
set_option maxHeartbeats 2000000 in
theorem sparse_any (c : Ld.Cfg) (sb : ByteArray) (w : World) (hs : sb.size ≤ 40000) : Calls Tryz.prog 28 #[.agg (cfgL c).toArray, .string sb] w fun en w' => ParsA w (parseS c (strL sb)) en w' := by
 obtain ⟨zc, hz0, hzl, hz1, hzr, hbn⟩ : ∃ z : List Value, Hid (z = Stt.zero.cells) ∧ z.length = 37 ∧ (∀ v ∈ z, v.oneCell' = true) ∧ (∀ w : World, (zeroValue 36).run Tryz.prog w = .ok (.agg z.toArray) w) ∧ (∀ w : World, (Instr.build 36 #[]).run Tryz.prog w = .ok (.agg z.toArray) w) := ⟨_, hide rfl, Stt.len Stt.zero_ok, Stt.one _, zeroS0, build_s0⟩
 obtain ⟨cap, hcv⟩ : ∃ cap : World → Nat, ∀ w0, ∃ w1, (convert 9 57 (.string sb)).run Tryz.prog w0 = .ok (.slice (some ⟨w0.heap.size, 0, none⟩) (strL sb).length (cap w0)) w1 ∧ RowAt w1 (some ⟨w0.heap.size, 0, none⟩) (strL sb) ∧ Below w0.heap.size w0 w1 := ⟨fun w0 => (bytes_of sb (by omega) w0).choose, fun w0 => (bytes_of sb (by omega) w0).choose_spec⟩
 have hll : (strL sb).length ≤ 40000 := by rw [strL_length]; exact hs
 unfold parseS
 generalize strL sb = zs at hcv hll ⊢
 have cR := fun a cap w0 h0 => read_any a cap zs w0 h0 (by omega)
 have cK := fun R w0 h0 => sread_any R (zs, 0) w0 h0 hll
 generalize readS (zs, 0) = p at cK ⊢
 obtain ⟨sp, rest, er⟩ := p
 simp only at cK ⊢
 have cD := fun R w0 h0 => done_any R rest er w0 h0
 obtain ⟨d, hd⟩ : ∃ d, doneE rest er = d := ⟨_, rfl⟩
 rw [hd]
 simp only [hd] at cD
 clear hd
 obtain ⟨PP, hPP⟩ : ∃ P, Hid ((if d ≠ 0 then (Sp.zero, d) else if sp.good c = true then (sp, 0) else (Sp.zero, 220)) = P) := ⟨_, hide rfl⟩
 rw [hPP.out]
 obtain ⟨hB0, hr0, hs0⟩ := boxed_new w (cfgL c) 23
 have iu := iszCf c
 have cG := fun (x : Stt) w0 h0 h1 => sgood_any c x w0 h0 h1
 have cG : ∀ (x : Stt) w0 (h0 : x.ok) (h1 : x.At w0), Calls Tryz.prog 10 #[.agg (cfgL c).toArray, .agg x.cells.toArray] w0 fun e w' => e = .returned (.bool (x.good c)) ∧ Below w0.heap.size w0 w' := cG
 obtain ⟨u, hu⟩ : ∃ u, Hid (cfgL c = u) := ⟨_, hide rfl⟩
 rw [hu.out] at hB0 hr0 hs0 iu
 simp only [hu.out] at cG ⊢
 go_enter Tryz.func28, Tryz.ntmps28
 go_upto_region 0 with fail
 try simp only [Act.put]
 refine pl_begin ?_
 refine pl_run (d := some 2) (v := .pointer (some ⟨w.heap.size, 0, none⟩)) (w' := w.alloc (.cells u.toArray 23)) (by rfl) (ex_boxR rfl rfl) rfl ?_
 simp only [nz]
 obtain ⟨W0, hW0⟩ : ∃ W, w.alloc (.cells u.toArray 23) = W := ⟨_, rfl⟩
 rw [hW0] at hB0 hr0 hs0 ⊢
 clear hW0
 obtain ⟨hB1, -, hs1⟩ := boxed_new W0 zc 36
 have ht1 := there_newN W0 zc.toArray 36 (n := 37) (by simp [hzl])
 refine pl_run (d := some 4) (v := .pointer (some ⟨W0.heap.size, 0, none⟩)) (w' := W0.alloc (.cells zc.toArray 36)) (by rfl) (ex_alloc rfl (hzr _)) rfl ?_
 simp only [nz]
 refine pl_t 5 (?_) (by rfl) ?_ rfl ?_
 rotate_left
 ·go_simp
  try with_reducible rfl
 simp only [nz]
 refine pl_nil ?_
 obtain ⟨W1, hW1⟩ : ∃ W, W0.alloc (.cells zc.toArray 36) = W := ⟨_, rfl⟩
 rw [hW1] at hB1 hs1 ht1 ⊢
 clear hW1
 have hr1 := range_below hr0 hB1 hs0
 have hB := hB0.trans (hB1.mono (by omega))
 obtain ⟨A, hA⟩ : ∃ X, W0.heap.size = X := ⟨_, rfl⟩
 obtain ⟨C, hC⟩ : ∃ X, w.heap.size = X := ⟨_, rfl⟩
 rw [hA] at hs1 ht1 hs0
 rw [hC] at hs0 hr1
 simp only [hA, hC]
 obtain ⟨wa, hcw, hra, hBa⟩ := hcv W1
 go_upto_region 1 with fail
 try simp only [Act.put]
 refine pl_begin ?_
 refine pl_t 9 (?_) (by rfl) ?_ rfl ?_
 rotate_left
 ·go_simp
  try with_reducible rfl
 simp only [nz]
 refine pl_run (d := some 10) (v := .slice (some ⟨W1.heap.size, 0, none⟩) zs.length (cap W1)) (w' := wa) (by rfl) (ex_conv rfl rfl hcw) rfl ?_
 simp only [nz]
 refine pl_call (d := some 11) (by rfl) (by go_simp; first | done | exact ⟨rfl, rfl⟩ | with_reducible rfl) rfl ?_
 refine (cR _ _ wa hra).mono ?_
 rintro _ w2 ⟨R, rfl, hRw, S2, hb2⟩
 refine ⟨_, rfl, ?_⟩
 simp only [nz]
 refine pl_t 6 (?_) (by rfl) ?_ rfl ?_
 rotate_left
 ·go_simp
  try with_reducible rfl
 simp only [nz]
 refine pl_nil ?_
 have hb12 := hBa.trans (hb2.mono hBa.size)
 have hT2 := there_below ht1 hb12 hs1
 have hr2 := range_below hr1 hb12 (by omega)
 have hB2 := hB.trans (hb12.mono hB.size)
 have hs2 := Nat.lt_of_lt_of_le hs1 hb12.size
 have hRA : A < R := by have := hBa.size; omega
 have hR2 : R < w2.heap.size := S2.1.1
 clear hcv hcw hra cR hBa hb2 hb12 ht1 hr1 hB hB0 hB1 hr0
 go_upto_region 2 with fail
 try simp only [Act.put]
 refine pl_begin ?_
 refine pl_t 12 (?_) (by rfl) ?_ rfl ?_
 rotate_left
 ·go_simp
  try with_reducible rfl
 simp only [nz]
 refine pl_call (d := some 13) (by rfl) (by go_simp; first | done | exact ⟨rfl, rfl⟩ | with_reducible rfl) rfl ?_
 refine (cK R w2 S2).mono ?_
 rintro _ w3 ⟨x, rfl, hxp, hxo, hxa, hxl, S3, hg3⟩
 refine ⟨_, rfl, ?_⟩
 simp only [nz]
 have hql : x.cells.length = 37 := Stt.len hxo
 have hq1 := Stt.one x
 have hiq : (Tryz.prog.info? 36).map (·.size) = some x.cells.length := by rw [hql]; exact iszSt
 refine pl_run (d := some 7) (v := .pointer (some ⟨w3.heap.size, 0, none⟩)) (w' := w3.alloc (.cells zc.toArray 36)) (by rfl) (ex_alloc rfl (hzr _)) rfl ?_
 simp only [nz]
 refine pl_store (w' := (w3.alloc (.cells zc.toArray 36)).setCells w3.heap.size 0 x.cells) (by rfl) (ex_put (cs := x.cells.toArray) rfl rfl rfl (there_newN _ _ _ (by simp [hzl, hql])) (by simpa using hiq) (all_one hq1)) rfl ?_
 refine pl_nil ?_
 obtain ⟨r4, hF2, hF3, -⟩ := fresh_store w3 zc.toArray 36 x.cells (by simp [hzl, hql])
 have hne : (some A : Option Nat) ≠ some R := by intro q; injection q with q; omega
 have hnc : (some C : Option Nat) ≠ some R := by intro q; injection q with q; omega
 have hT3 := there_blk hT2 (hg3.block A hs2 hne)
 have hr3 := range_blk hr2 (hg3.block C (by omega) hnc)
 have hB3 : Below w.heap.size w w3 := ⟨hg3.os.trans hB2.os, hg3.tape.trans hB2.tape, hg3.output.trans hB2.output, Nat.le_trans hB2.size hg3.size, fun i hi => (hg3.block i (Nat.lt_of_lt_of_le hi hB2.size) (by intro q; injection q with q; omega)).trans (hB2.block i hi)⟩
 have hs3 : A < w3.heap.size := Nat.lt_of_lt_of_le hs2 hg3.size
 have hT4 := there_below hT3 hF2 hs3
 have hr4 := range_below hr3 hF2 (by omega)
 have hB4 := hB3.trans (hF2.mono hB3.size)
 have S4 := S3.below hF2
 have hxa4 := hxa.below hF2
 obtain ⟨X, hX⟩ : ∃ X, w3.heap.size = X := ⟨_, rfl⟩
 simp only [hX] at r4 hF3 hs3 hT4 hr4 hB4 S4 hxa4 ⊢
 obtain ⟨w4, hw4⟩ : ∃ W, (w3.alloc (.cells zc.toArray 36)).setCells X 0 x.cells = W := ⟨_, rfl⟩
 simp only [hw4] at r4 hF3 hT4 hr4 hB4 S4 hxa4 ⊢
 have hX4 : X < w4.heap.size := by omega
 have HCC : Hid (x.sp = sp ∧ x.ok ∧ x.Lo (A + 1)) := hide ⟨hxp, hxo, hxl.mono (by omega)⟩
 have hgx : x.good c = sp.good c := by rw [Stt.good_sp, hxp]
 have cg := cG x
 clear hF2 hF3 hT3 hB3 hB2 hxp hxl S3 hg3 hw4 hX hne hnc hT2 hr2 hr3 S2 hs1 hs2 hRw cK hzr cG hxa
 rw [hgx] at cg
 clear hgx
 go_upto_region 3 with fail
 try simp only [Act.put]
 refine pl_begin ?_
 refine pl_t 14 (?_) (by rfl) ?_ rfl ?_
 rotate_left
 ·go_simp
  try with_reducible rfl
 simp only [nz]
 refine pl_call (d := some 15) (by rfl) (by go_simp; first | done | exact ⟨rfl, rfl⟩ | with_reducible rfl) rfl ?_
 refine (cD R w4 S4).mono ?_
 rintro _ w5 ⟨rfl, hx⟩
 obtain rfl := hx.symm
 clear hx
 refine ⟨_, rfl, ?_⟩
 simp only [nz]
 refine pl_t 8 (?_) (by rfl) ?_ rfl ?_
 rotate_left
 ·go_simp
  try with_reducible rfl
 simp only [nz]
 refine pl_nil ?_
 clear cD S4
 go_upto_region 4 with fail
 by_cases hd : d = 0
 rotate_left
 ·have hdb : (d != 0) = true := by simpa using hd
  have HP : Hid (PP = (Sp.zero, d)) := hide (by rw [← hPP.out, if_pos hd])
  clear hPP hd cg hr4 iu
  try simp only [Act.put]
  refine pl_begin ?_
  refine pl_t 16 (?_) (by rfl) ?_ rfl ?_
  rotate_left
  ·go_simp
   try with_reducible rfl
  simp only [nz]
  refine pl_t 17 (.bool true) (by rfl) (by go_simp <;> (try simp [*])) rfl ?_
  simp only [nz]
  refine pl_nil ?_
  go_upto_region 5 with fail
  try simp only [Act.put]
  refine pl_begin ?_
  refine pl_t 18 (.agg zc.toArray) (by rfl) (ex_build (parts := []) rfl rfl (hbn _)) rfl ?_
  simp only [nz]
  refine pl_t 19 (?_) (by rfl) ?_ rfl ?_
  rotate_left
  ·go_simp
   try with_reducible rfl
  simp only [nz]
  refine pl_store (w' := w4.setCells A 0 zc) (by rfl) (ex_put (cs := zc.toArray) rfl rfl rfl (by simpa [hzl] using hT4) (by simpa [hzl] using iszSt) (all_one hz1)) rfl ?_
  refine pl_t 5 (?_) (by rfl) ?_ rfl ?_
  rotate_left
  ·go_simp
   try with_reducible rfl
  simp only [nz]
  refine pl_nil ?_
  have hrs := run_loadVar_mid (P := Tryz.prog) (w4.setCells A 0 zc) A 0 36 zc _ (World.rangeAt_setCells_same w4 A 0 zc (by rw [hzl]; exact hT4)) Tryz.underlying36 rfl (by rw [hzl]; exact iszSt)
  have HF : Hid (ParsA w PP (.returned (.tuple #[.agg zc.toArray, .int .i64 d])) (w4.setCells A 0 zc)) := hide (by
   rw [HP.out]
   exact pars_out (x := Stt.zero) hz0.out.symm (by omega) hB4 rfl rfl Stt.zero_ok (Stt.zero_at _) (Stt.zero_lo _))
  clear r4 hB4 hT4 hX4 HCC hxa4
  go_wp2_with fail
  refine bodyPost_ret (results_ct rfl _ _ _ rfl hrs) rfl ?_
  exact HF.out
 subst hd
 have gB : sp.good c = true ∨ sp.good c = false := by cases sp.good c <;> simp
 try simp only [Act.put]
 refine pl_begin ?_
 refine pl_t 16 (?_) (by rfl) ?_ rfl ?_
 rotate_left
 ·go_simp
  try with_reducible rfl
 simp only [nz]
 refine pl_t 17 (.bool false) (by rfl) (by go_simp) rfl ?_
 simp only [nz]
 refine pl_nil ?_
 obtain ⟨q, hq⟩ : ∃ q, Hid (x.cells = q) := ⟨_, hide rfl⟩
 rw [hq.out] at r4 hql hq1 hiq
 simp only [hq.out] at cg
 go_upto_region 6 with fail
 try simp only [Act.put]
 refine pl_begin ?_
 refine pl_t 20 (.agg u.toArray) (by rfl) (ex_mid rfl rfl hr4 Tryz.underlying23 rfl iu) rfl ?_
 simp only [nz]
 refine pl_t 21 (.agg q.toArray) (by rfl) (ex_mid rfl rfl r4 Tryz.underlying36 rfl hiq) rfl ?_
 simp only [nz]
 refine pl_call (d := some 22) (by rfl) (by go_simp; first | done | exact ⟨rfl, rfl⟩ | with_reducible rfl) rfl ?_
 refine (cg w4 hxo hxa4).mono ?_
 rintro _ w5 ⟨rfl, hb5⟩
 refine ⟨_, rfl, ?_⟩
 simp only [nz]
 have hT5 := there_below hT4 hb5 (by omega)
 have hr5 := range_below r4 hb5 hX4
 have hB5 := hB4.trans (hb5.mono hB4.size)
 have hxa5 := hxa4.below hb5
 clear hT4 r4 hB4 hxa4 hb5 cg hr4
 rcases gB with gB | gB
 ·have HP : Hid (PP = (sp, 0)) := hide (by rw [← hPP.out, if_neg (by simp), if_pos gB])
  refine pl_t 23 (.bool false) (by rfl) (by go_simp <;> (try simp [*])) rfl ?_
  simp only [nz]
  refine pl_nil ?_
  clear hPP gB
  go_upto_region 8 with fail
  try simp only [Act.put]
  refine pl_begin ?_
  refine pl_t 25 (.agg q.toArray) (by rfl) (ex_mid rfl rfl hr5 Tryz.underlying36 rfl hiq) rfl ?_
  simp only [nz]
  refine pl_store (w' := w5.setCells A 0 q) (by rfl) (ex_put (cs := q.toArray) rfl rfl rfl (by simpa [hql] using hT5) (by simpa using hiq) (all_one hq1)) rfl ?_
  refine pl_t 5 (?_) (by rfl) ?_ rfl ?_
  rotate_left
  ·go_simp
   try with_reducible rfl
  simp only [nz]
  refine pl_nil ?_
  have hrs := run_loadVar_mid (P := Tryz.prog) (w5.setCells A 0 q) A 0 36 q _ (World.rangeAt_setCells_same w5 A 0 q (by rw [hql]; exact hT5)) Tryz.underlying36 rfl (by rw [hql]; exact iszSt)
  have HF : Hid (ParsA w PP (.returned (.tuple #[.agg q.toArray, .int .i64 0])) (w5.setCells A 0 q)) := hide (by
   rw [HP.out]
   exact pars_out (x := x) hq.out (by omega) hB5 rfl HCC.out.1 HCC.out.2.1 hxa5 HCC.out.2.2)
  clear hr5 hB5 hT5 hX4 HCC hxa5
  go_wp2_with fail
  refine bodyPost_ret (results_ct rfl _ _ _ rfl hrs) rfl ?_
  exact HF.out
 ·have HP : Hid (PP = (Sp.zero, 220)) := hide (by rw [← hPP.out, if_neg (by simp), if_neg (by rw [gB]; simp)])
  refine pl_t 23 (.bool true) (by rfl) (by go_simp <;> (try simp [*])) rfl ?_
  simp only [nz]
  refine pl_nil ?_
  clear hPP gB
  go_upto_region 7 with fail
  try simp only [Act.put]
  refine pl_begin ?_
  refine pl_t 24 (.agg zc.toArray) (by rfl) (ex_build (parts := []) rfl rfl (hbn _)) rfl ?_
  simp only [nz]
  refine pl_store (w' := w5.setCells A 0 zc) (by rfl) (ex_put (cs := zc.toArray) rfl rfl rfl (by simpa [hzl] using hT5) (by simpa [hzl] using iszSt) (all_one hz1)) rfl ?_
  refine pl_t 5 (?_) (by rfl) ?_ rfl ?_
  rotate_left
  ·go_simp
   try with_reducible rfl
  simp only [nz]
  refine pl_nil ?_
  have hrs := run_loadVar_mid (P := Tryz.prog) (w5.setCells A 0 zc) A 0 36 zc _ (World.rangeAt_setCells_same w5 A 0 zc (by rw [hzl]; exact hT5)) Tryz.underlying36 rfl (by rw [hzl]; exact iszSt)
  have HF : Hid (ParsA w PP (.returned (.tuple #[.agg zc.toArray, .int .i64 220])) (w5.setCells A 0 zc)) := hide (by
   rw [HP.out]
   exact pars_out (x := Stt.zero) hz0.out.symm (by omega) hB5 rfl rfl Stt.zero_ok (Stt.zero_at _) (Stt.zero_lo _))
  clear hr5 hB5 hT5 hX4 HCC hxa5
  go_wp2_with fail
  refine bodyPost_ret (results_ct rfl _ _ _ rfl hrs) rfl ?_
  exact HF.out
instance : Inhabited Stt := ⟨Stt.zero⟩
theorem sameL_iff {α : Type} {B : α → α → Bool} (h : ∀ x y, B x y = true ↔ x = y) : ∀ xs ys : List α, sameL B xs ys = true ↔ xs = ys
  | [], [] => by simp [sameL]
  | x :: xs, y :: ys => by simp [sameL, h, sameL_iff h xs ys]
  | [], _ :: _ => by simp [sameL]
  | _ :: _, [] => by simp [sameL]
theorem two_boxG (q q' : List Value) (t : TypeId) (w : World) : ((w.alloc (.cells q.toArray t)).alloc (.cells q'.toArray t)).rangeAt w.heap.size 0 q ∧ ((w.alloc (.cells q.toArray t)).alloc (.cells q'.toArray t)).rangeAt (w.heap.size + 1) 0 q' ∧ Below w.heap.size w ((w.alloc (.cells q.toArray t)).alloc (.cells q'.toArray t)) ∧ w.heap.size + 2 ≤ ((w.alloc (.cells q.toArray t)).alloc (.cells q'.toArray t)).heap.size := by
 have hB : Below w.heap.size w (w.alloc (.cells q.toArray t)) := (Below.refl _ _).alloc (Nat.le_refl _) _
 have hB2 : Below (w.alloc (.cells q.toArray t)).heap.size (w.alloc (.cells q.toArray t)) ((w.alloc (.cells q.toArray t)).alloc (.cells q'.toArray t)) := (Below.refl _ _).alloc (Nat.le_refl _) _
 have h1 := range_new w q.toArray t
 have h2 := range_new (w.alloc (.cells q.toArray t)) q'.toArray t
 rw [World.size_alloc] at h2
 exact ⟨range_below (by simpa using h1) hB2 (by simp), by simpa using h2, hB.trans (hB2.mono (by simp)), by simp⟩
theorem fldW : (Tryz.prog.fieldsOf 79).toList.map (fun f => (f.name, f.type, f.offset)) = [("Base", 3, 0), ("Bits", 77, 1)] := by kernel_rfl
theorem undW : Tryz.prog.underlying 79 = some (.struct (Tryz.prog.fieldsOf 79)) := by kernel_rfl
theorem sihW : Tryz.prog.stoodInHeld 79 = false := by kernel_rfl
theorem Wd.B_iff {x y : Wd} : Wd.B x y = true ↔ x = y := by
 cases x
 cases y
 simp [Wd.B]
 intro _
 omega
theorem part_intV1 (w : World) (q : List Value) (i : Nat) (c : Int) (h : q[i]? = some (.int .i64 c)) : (part 3 q.toArray i).run Tryz.prog w = .ok (.int .i64 c) w := by
 simp [part, isAgg, run_underlying Tryz.underlying3, h]
theorem part_u64V (w : World) (q : List Value) (i : Nat) (c : Int) (h : q[i]? = some (.int .u64 c)) : (part 77 q.toArray i).run Tryz.prog w = .ok (.int .u64 c) w := by
 simp [part, isAgg, run_underlying Tryz.underlying77, h]
theorem Wd.eqIn (x y : Wd) (d : Nat) (w : World) :
  (Op.equalIn (d + 2 + 1) 79 (.agg x.cells.toArray) (.agg y.cells.toArray)).run Tryz.prog w = .ok (Wd.B x y) w := by
 rw [run_equalIn_struct w (d + 2) 79 _ _ undW sihW]
 have hf := fldW
 generalize (Tryz.prog.fieldsOf 79).toList = fs at hf
 obtain ⟨f0, f1, rfl⟩ : ∃ f0 f1, fs = [f0, f1] := by
  rcases fs with _ | ⟨f0, _ | ⟨f1, _ | ⟨f2, fs⟩⟩⟩ <;> simp at hf
  exact ⟨f0, f1, rfl⟩
 simp only [List.map_cons, List.map_nil, List.cons.injEq, Prod.mk.injEq, and_true] at hf
 obtain ⟨⟨a0, b0, d0⟩, ⟨a1, b1, d1⟩⟩ := hf
 have p0 := part_intV1 w x.cells 0 x.b rfl
 have q0 := part_intV1 w y.cells 0 y.b rfl
 have p1 := part_u64V w x.cells 1 x.m rfl
 have q1 := part_u64V w y.cells 1 y.m rfl
 have eI := fun a b => run_equalIn_int (P := Tryz.prog) w (d + 1) 3 .i64 .i64 a b Tryz.underlying3
 have eU := fun a b => run_equalIn_int (P := Tryz.prog) w (d + 1) 77 .u64 .u64 a b Tryz.underlying77
 unfold Wd.B
 generalize x.cells.toArray = q at *
 generalize y.cells.toArray = q' at *
 obtain ⟨D, hD⟩ : ∃ D, d + 1 + 1 = D := ⟨_, rfl⟩
 have n0 : ¬ ("Base" = "_") := by decide
 have n1 : ¬ ("Bits" = "_") := by decide
 simp only [Op.eqFields, a0, b0, d0, a1, b1, d1, ne_eq, n0, n1, not_false_eq_true, if_true]
 rw [show d + 2 = d + 1 + 1 from rfl, hD]
 rw [hD] at eI eU
 clear hD
 simp only [Sem.run_bind, p0, q0, Result.andThen_ok, eI]
 cases (x.b == y.b)
 ·simp only [Bool.not_false, if_true, Sem.run_pure, Bool.false_and]
 ·simp only [Bool.not_true, Bool.false_eq_true, if_false, Sem.run_bind, p1, q1, Result.andThen_ok, eU, Bool.true_and]
  cases ((x.m : Int) == (y.m : Int))
  ·simp only [Bool.not_false, if_true, Sem.run_pure]
  ·simp only [Bool.not_true, Bool.false_eq_true, if_false, Sem.run_pure]
theorem Wd.eq10 (x y : Wd) (hx : x.ok) (hy : y.ok) (w : World) : (Op.equalIn 10000 79 (.agg x.cells.toArray) (.agg y.cells.toArray)).run Tryz.prog w = .ok (Wd.B x y) w := Wd.eqIn x y 9997 w
set_option maxRecDepth 100000 in
set_option maxHeartbeats 2000000 in
theorem xwins_any (a : Option Addr) (cap : Nat) (rs : List Wd) (a' : Option Addr) (cap' : Nat) (rs' : List Wd) (w : World) (h : RowsAt WdE w a rs) (h' : RowsAt WdE w a' rs') :
  Calls Tryz.prog 32 #[.slice a rs.length cap, .slice a' rs'.length cap'] w fun e w' => ((e = .returned (.bool true) ∧ rs = rs') ∨ (e = .returned (.bool false) ∧ ¬ rs = rs')) ∧ Below w.heap.size w w' := by
 have hml := h.1
 have hml' := h'.1
 unfold maxLen at hml hml'
 have hall := h.2.1
 have hall' := h'.2.1
 by_cases hlen : rs.length = rs'.length
 rotate_left
 ·have e0 : ((rs.length : Int) == rs'.length) = false := by simp; omega
  have HL := hide hlen
  clear hlen
  go_enter Tryz.func32, Tryz.ntmps32
  go_wp2
  go_ret
  exact ⟨.inr ⟨rfl, fun hh => HL.out (by rw [hh])⟩, Below.refl _ _⟩
 ·have e0 : ((rs.length : Int) == rs'.length) = true := by simp; omega
  have HL := hide hlen
  clear hlen
  go_enter Tryz.func32, Tryz.ntmps32
  go_wp2
  go_loopw [5] (fun iv wr => ∃ k : Nat, k ≤ rs.length ∧ iv = .int .i64 (k : Int) ∧ Hid (∀ j (hj : j < rs.length) (hj' : j < rs'.length), j < k → rs[j] = rs'[j]) ∧ Below w.heap.size w wr) (fun iv _ => rs.length - (intOf iv).toNat)
  case atStart => exact ⟨0, by omega, rfl, hide (fun j _ _ hj => absurd hj (by omega)), Below.refl _ _⟩
  case round =>
   clear e0
   obtain ⟨k, hk, rfl, HM, hB⟩ := hrel
   by_cases hlt : k < rs.length
   ·have k1 : (k : Int) < rs.length := by omega
    have hlt' : k < rs'.length := by have := HL.out; omega
    have k1' : (k : Int) < rs'.length := by omega
    obtain ⟨b, off, rfl, hb, hre⟩ := (h.below hB).elem k hlt
    have hre : wr.rangeAt b (off + k * 2) rs[k].cells := hre
    obtain ⟨b', off', rfl, hb', hre'⟩ := (h'.below hB).elem k hlt'
    have hre' : wr.rangeAt b' (off' + k * 2) rs'[k].cells := hre'
    obtain ⟨r, hr⟩ : ∃ r, Hid (rs[k] = r) := ⟨_, hide rfl⟩
    obtain ⟨r', hr'⟩ : ∃ r', Hid (rs'[k] = r') := ⟨_, hide rfl⟩
    have hok : r.ok := by rw [← hr.out]; exact hall _ (List.getElem_mem hlt)
    have hok' : r'.ok := by rw [← hr'.out]; exact hall' _ (List.getElem_mem hlt')
    rw [hr.out] at hre
    rw [hr'.out] at hre'
    have HM' : Hid (r = r' → ∀ j (hj : j < rs.length) (hj' : j < rs'.length), j < k + 1 → rs[j] = rs'[j]) := hide (fun hp j hj hj' hjk => by
     by_cases e : j = k
     ·subst e; rw [hr.out, hr'.out]; exact hp
     ·exact HM.out j hj hj' (by omega))
    have HN' : Hid (r ≠ r' → rs ≠ rs') := hide (fun hp he => by
     apply hp
     rw [← hr.out, ← hr'.out]
     subst he
     rfl)
    clear hr hr' HM
    have hiu : (Tryz.prog.info? 79).map (·.size) = some r.cells.length := by rw [show r.cells.length = 2 from WdE.len r hok]; kernel_rfl
    have hiu' : (Tryz.prog.info? 79).map (·.size) = some r'.cells.length := by rw [show r'.cells.length = 2 from WdE.len r' hok']; kernel_rfl
    have hne := fun w0 => Wd.eq10 r r' hok hok' w0
    obtain ⟨u, hu⟩ : ∃ u, Hid (r.cells = u) := ⟨_, hide rfl⟩
    obtain ⟨u', hu'⟩ : ∃ u', Hid (r'.cells = u') := ⟨_, hide rfl⟩
    rw [hu.out] at hre hiu
    rw [hu'.out] at hre' hiu'
    simp only [hu.out, hu'.out] at hne
    clear hu hu' hok hok'
    by_cases hrr : r = r'
    ·have e1 : Wd.B r r' = true := Wd.B_iff.2 hrr
     rw [e1] at hne
     have HR := hide hrr
     clear hrr e1
     go_upto_region 6 with fail
     obtain ⟨w5, hw5⟩ : ∃ w5, wr.drew = w5 := ⟨_, rfl⟩
     have hB5 : Below w.heap.size w w5 := by rw [← hw5]; exact hB.drew
     have hre5 : w5.rangeAt b (off + k * 2) u := by rw [← hw5]; exact (World.rangeAt_drew _ _ _ _).2 hre
     have hre5' : w5.rangeAt b' (off' + k * 2) u' := by rw [← hw5]; exact (World.rangeAt_drew _ _ _ _).2 hre'
     have hb5 : b < w5.heap.size := by rw [← hw5]; exact hb
     have hb5' : b' < w5.heap.size := by rw [← hw5]; exact hb'
     refine hs_begin (S := (Below w5.heap.size w5)) 9 rfl (by kernel_rfl) ?_
     rw [hw5]
     clear hw5 hB hre hre' hb hb'
     have hS : (Below w5.heap.size w5) w5 := Below.refl _ _
     refine hs_t 0 17 (?_) rfl (by kernel_rfl) (by kernel_rfl) (by kernel_rfl) (by rfl) ?_ hS rfl ?_
     rotate_left
     ·intro w' hw
      go_simp
      try with_reducible rfl
     simp only [nz]
     refine hs_t 1 18 (?_) rfl (by kernel_rfl) (by kernel_rfl) (by kernel_rfl) (by rfl) ?_ hS rfl ?_
     rotate_left
     ·intro w' hw
      go_simp
      try with_reducible rfl
     simp only [nz]
     refine hs_t 2 19 (?_) rfl (by kernel_rfl) (by kernel_rfl) (by kernel_rfl) (by rfl) ?_ hS rfl ?_
     rotate_left
     ·intro w' hw
      go_simp
      try with_reducible rfl
     simp only [nz]
     refine hs_t 3 20 (.agg u.toArray) rfl (by kernel_rfl) (by kernel_rfl) (by kernel_rfl) (by rfl) (fun w' hw => exec_loadC rfl rfl (run_loadVar_mid (P := Tryz.prog) w' b (off + k * 2) 79 u _ (range_below hre5 hw hb5) Tryz.underlying79 rfl hiu)) hS rfl ?_
     simp only [nz]
     refine hs_t 4 21 (?_) rfl (by kernel_rfl) (by kernel_rfl) (by kernel_rfl) (by rfl) ?_ hS rfl ?_
     rotate_left
     ·intro w' hw
      go_simp
      try with_reducible rfl
     simp only [nz]
     refine hs_t 5 22 (?_) rfl (by kernel_rfl) (by kernel_rfl) (by kernel_rfl) (by rfl) ?_ hS rfl ?_
     rotate_left
     ·intro w' hw
      go_simp
      try with_reducible rfl
     simp only [nz]
     refine hs_t 6 23 (?_) rfl (by kernel_rfl) (by kernel_rfl) (by kernel_rfl) (by rfl) ?_ hS rfl ?_
     rotate_left
     ·intro w' hw
      go_simp
      try with_reducible rfl
     simp only [nz]
     refine hs_t 7 24 (.agg u'.toArray) rfl (by kernel_rfl) (by kernel_rfl) (by kernel_rfl) (by rfl) (fun w' hw => exec_loadC rfl rfl (run_loadVar_mid (P := Tryz.prog) w' b' (off' + k * 2) 79 u' _ (range_below hre5' hw hb5') Tryz.underlying79 rfl hiu')) hS rfl ?_
     simp only [nz]
     refine hs_t 8 25 (.bool false) rfl (by kernel_rfl) (by kernel_rfl) (by kernel_rfl) (by rfl) (fun w' hw => by have hc := hne w'; go_simp) hS rfl ?_
     simp only [nz]
     refine hs_done (by kernel_rfl) ?_
     go_wp2
     go_roundw
     case rel => exact ⟨k + 1, by omega, by go_num, hide (HM'.out HR.out), hB5⟩
     case measure => simp [intOf]; omega
    ·have e1 : Wd.B r r' = false := by
      cases hx : Wd.B r r'
      ·rfl
      ·exact absurd (Wd.B_iff.1 hx) hrr
     rw [e1] at hne
     have HR := hide hrr
     clear hrr e1
     go_upto_region 6 with fail
     obtain ⟨w5, hw5⟩ : ∃ w5, wr.drew = w5 := ⟨_, rfl⟩
     have hB5 : Below w.heap.size w w5 := by rw [← hw5]; exact hB.drew
     have hre5 : w5.rangeAt b (off + k * 2) u := by rw [← hw5]; exact (World.rangeAt_drew _ _ _ _).2 hre
     have hre5' : w5.rangeAt b' (off' + k * 2) u' := by rw [← hw5]; exact (World.rangeAt_drew _ _ _ _).2 hre'
     have hb5 : b < w5.heap.size := by rw [← hw5]; exact hb
     have hb5' : b' < w5.heap.size := by rw [← hw5]; exact hb'
     refine hs_begin (S := (Below w5.heap.size w5)) 9 rfl (by kernel_rfl) ?_
     rw [hw5]
     clear hw5 hB hre hre' hb hb'
     have hS : (Below w5.heap.size w5) w5 := Below.refl _ _
     refine hs_t 0 17 (?_) rfl (by kernel_rfl) (by kernel_rfl) (by kernel_rfl) (by rfl) ?_ hS rfl ?_
     rotate_left
     ·intro w' hw
      go_simp
      try with_reducible rfl
     simp only [nz]
     refine hs_t 1 18 (?_) rfl (by kernel_rfl) (by kernel_rfl) (by kernel_rfl) (by rfl) ?_ hS rfl ?_
     rotate_left
     ·intro w' hw
      go_simp
      try with_reducible rfl
     simp only [nz]
     refine hs_t 2 19 (?_) rfl (by kernel_rfl) (by kernel_rfl) (by kernel_rfl) (by rfl) ?_ hS rfl ?_
     rotate_left
     ·intro w' hw
      go_simp
      try with_reducible rfl
     simp only [nz]
     refine hs_t 3 20 (.agg u.toArray) rfl (by kernel_rfl) (by kernel_rfl) (by kernel_rfl) (by rfl) (fun w' hw => exec_loadC rfl rfl (run_loadVar_mid (P := Tryz.prog) w' b (off + k * 2) 79 u _ (range_below hre5 hw hb5) Tryz.underlying79 rfl hiu)) hS rfl ?_
     simp only [nz]
     refine hs_t 4 21 (?_) rfl (by kernel_rfl) (by kernel_rfl) (by kernel_rfl) (by rfl) ?_ hS rfl ?_
     rotate_left
     ·intro w' hw
      go_simp
      try with_reducible rfl
     simp only [nz]
     refine hs_t 5 22 (?_) rfl (by kernel_rfl) (by kernel_rfl) (by kernel_rfl) (by rfl) ?_ hS rfl ?_
     rotate_left
     ·intro w' hw
      go_simp
      try with_reducible rfl
     simp only [nz]
     refine hs_t 6 23 (?_) rfl (by kernel_rfl) (by kernel_rfl) (by kernel_rfl) (by rfl) ?_ hS rfl ?_
     rotate_left
     ·intro w' hw
      go_simp
      try with_reducible rfl
     simp only [nz]
     refine hs_t 7 24 (.agg u'.toArray) rfl (by kernel_rfl) (by kernel_rfl) (by kernel_rfl) (by rfl) (fun w' hw => exec_loadC rfl rfl (run_loadVar_mid (P := Tryz.prog) w' b' (off' + k * 2) 79 u' _ (range_below hre5' hw hb5') Tryz.underlying79 rfl hiu')) hS rfl ?_
     simp only [nz]
     refine hs_t 8 25 (.bool true) rfl (by kernel_rfl) (by kernel_rfl) (by kernel_rfl) (by rfl) (fun w' hw => by have hc := hne w'; go_simp) hS rfl ?_
     simp only [nz]
     refine hs_done (by kernel_rfl) ?_
     go_wp2
     go_ret
     exact ⟨.inr ⟨rfl, fun hh => HN'.out HR.out hh⟩, hB5⟩
   ·have k1 : ¬ (k : Int) < rs.length := by omega
    have HE : Hid (rs = rs') := hide (List.ext_getElem HL.out (fun j hj hj' => HM.out j hj hj' (by omega)))
    clear HM
    go_wp2
    go_ret
    exact ⟨.inl ⟨rfl, HE.out⟩, hB⟩
theorem xwins_anyB (a : Option Addr) (cap : Nat) (rs : List Wd) (a' : Option Addr) (cap' : Nat) (rs' : List Wd) (w : World) (h : RowsAt WdE w a rs) (h' : RowsAt WdE w a' rs') :
  Calls Tryz.prog 32 #[.slice a rs.length cap, .slice a' rs'.length cap'] w fun e w' => e = .returned (.bool (sameL Wd.B rs rs')) ∧ Below w.heap.size w w' := by
 refine (xwins_any a cap rs a' cap' rs' w h h').mono ?_
 rintro e w1 ⟨hc, hb⟩
 have I := sameL_iff (fun x y => Wd.B_iff (x := x) (y := y)) rs rs'
 refine ⟨?_, hb⟩
 rcases hc with ⟨rfl, he⟩ | ⟨rfl, he⟩
 ·rw [I.2 he]
 ·cases hq : sameL Wd.B rs rs'
  ·rfl
  ·exact absurd (I.1 hq) he
set_option maxRecDepth 100000 in
set_option maxHeartbeats 1000000 in
theorem eqInts_any (x y : Sl Int) (w : World) (hx : x.At PnE w) (hy : y.At PnE w) : Calls Tryz.prog 33 #[x.val, y.val] w fun e w' => e = .returned (.bool (decide (x.xs = y.xs))) ∧ Below w.heap.size w w' := by
 obtain ⟨a, cap, xs⟩ := x
 obtain ⟨b, cap', ys⟩ := y
 simp only [Sl.val]
 have hml : xs.length ≤ maxLen := hx.1
 have hml' : ys.length ≤ maxLen := hy.1
 unfold maxLen at hml hml'
 obtain ⟨g, hg⟩ : ∃ g, Hid (decide (xs = ys) = g) := ⟨_, hide rfl⟩
 rw [hg.out]
 go_enter Tryz.func33, Tryz.ntmps33
 by_cases hlen : xs.length = ys.length
 rotate_left
 ·obtain rfl : g = false := hg.out.symm.trans (decide_eq_false (fun q => hlen (by rw [q])))
  have e0 : ((xs.length : Int) != (ys.length : Int)) = true := by simp; omega
  clear hg hlen hx hy
  go_wp2
  go_ret
  exact ⟨rfl, Below.refl _ _⟩
 have e0 : ((xs.length : Int) != (ys.length : Int)) = false := by simp; omega
 have HL := hide hlen
 clear hlen
 go_wp2
 clear e0
 go_loopw [5] (fun kv wr => ∃ k : Nat, k ≤ xs.length ∧ kv = .int .i64 (k : Int) ∧ Hid (∀ j (hj : j < xs.length) (hj' : j < ys.length), j < k → xs[j] = ys[j]) ∧ Below w.heap.size w wr) (fun kv _ => xs.length - (intOf kv).toNat)
 case atStart => exact ⟨0, by omega, rfl, hide (fun j _ _ hj => absurd hj (by omega)), Below.refl _ _⟩
 case round =>
  obtain ⟨k, hk, rfl, HM, hB⟩ := hrel
  by_cases hlt : k < xs.length
  ·have k1 : (k : Int) < xs.length := by omega
   have hlt' : k < ys.length := by have := HL.out; omega
   have k1' : (k : Int) < ys.length := by omega
   obtain ⟨b1, o1, rfl, hb1, hc1⟩ := RowsAt.elem (hx.below hB) k hlt
   obtain ⟨b2, o2, rfl, hb2, hc2⟩ := RowsAt.elem (hy.below hB) k hlt'
   have hc1 : wr.cell? ⟨b1, o1 + k, none⟩ = some (.int .i64 xs[k]) := by have := hc1 0 _ rfl; simpa [PnE] using this
   have hc2 : wr.cell? ⟨b2, o2 + k, none⟩ = some (.int .i64 ys[k]) := by have := hc2 0 _ rfl; simpa [PnE] using this
   have HT : Hid (xs[k] = ys[k] → ∀ j (hj : j < xs.length) (hj' : j < ys.length), j < k + 1 → xs[j] = ys[j]) := hide (fun hp j hj hj' hjk => by
    by_cases e : j = k
    ·subst e; exact hp
    ·exact HM.out j hj hj' (by omega))
   have HF : Hid (xs[k] ≠ ys[k] → g = false) := hide (fun hp => hg.out.symm.trans (decide_eq_false (fun q => hp (by subst q; rfl))))
   obtain ⟨z, hz⟩ : ∃ z, Hid (xs[k] = z) := ⟨_, hide rfl⟩
   obtain ⟨y, hy'⟩ : ∃ z, Hid (ys[k] = z) := ⟨_, hide rfl⟩
   rw [hz.out] at hc1 HT HF
   rw [hy'.out] at hc2 HT HF
   clear hz hy' HM hx hy hg HL
   by_cases hzy : z = y
   ·subst hzy
    have HT' := hide (HT.out rfl)
    clear HT HF
    go_wp2
    go_quiet (fail)
    go_wp2
    go_roundw
    case rel => exact ⟨k + 1, by omega, by go_num, HT', below_drewN hB _⟩
    case measure => simp [intOf]; omega
   ·have HF' := hide (HF.out hzy)
    have ne : (z != y) = true := by simpa using hzy
    have ne2 : (z == y) = false := by simpa using hzy
    clear HT HF hzy
    go_wp2
    go_quiet (fail)
    go_wp2
    go_ret
    exact ⟨by rw [HF'.out]; rfl, below_drewN hB _⟩
  ·have k1 : ¬ (k : Int) < xs.length := by omega
   have HE : Hid (g = true) := hide (hg.out.symm.trans (decide_eq_true (List.ext_getElem HL.out (fun j h1 h2 => HM.out j h1 h2 (by omega)))))
   clear HM hg HL hx hy
   go_wp2
   go_ret
   exact ⟨by rw [HE.out]; rfl, hB⟩
theorem Stt.B_iff {s t : Stt} : s.B t = true ↔ s.e = t.e ∧ s.n = t.n ∧ s.c = t.c ∧ s.d = t.d ∧ s.ws.xs = t.ws.xs ∧ s.ps.xs = t.ps.xs := by
 unfold Stt.B
 simp only [Bool.and_eq_true, decide_eq_true_eq, beq_iff_eq, sameL_iff (fun x y => Wd.B_iff (x := x) (y := y))]
set_option maxRecDepth 100000 in
set_option maxHeartbeats 1000000 in
theorem xssame_any (s t : Stt) (w : World) (h : s.ok) (h' : t.ok) (hs : s.At w) (ht : t.At w) : Calls Tryz.prog 9 #[.agg s.cells.toArray, .agg t.cells.toArray] w fun e w' => e = .returned (.bool (s.B t)) ∧ Below w.heap.size w w' := by
 obtain ⟨hr, hr', hB, hz⟩ := two_boxG s.cells t.cells 36 w
 obtain ⟨pe, pn, pc, pd, pw, pp⟩ := st_parts h hr
 obtain ⟨pe', pn', pc', pd', pw', pp'⟩ := st_parts h' hr'
 have cw : ∀ w0, Below w.heap.size w w0 → Calls Tryz.prog 32 #[s.ws.val, t.ws.val] w0 fun e w' => e = .returned (.bool (sameL Wd.B s.ws.xs t.ws.xs)) ∧ Below w0.heap.size w0 w' := fun w0 hb0 => xwins_anyB _ _ _ _ _ _ w0 (hs.ws.below hb0) (ht.ws.below hb0)
 have ci : ∀ w0, Below w.heap.size w w0 → Calls Tryz.prog 33 #[s.ps.val, t.ps.val] w0 _ := fun w0 hb0 => eqInts_any s.ps t.ps w0 (hs.ps.below hb0) (ht.ps.below hb0)
 have hq : ∀ w0, (Op.equalIn 10000 32 (.agg (v8 s.d).toArray) (.agg (v8 t.d).toArray)).run Tryz.prog w0 = .ok (s.d == t.d) w0 := fun w0 => run_equal8 w0 9998 32 5 32 Tryz.underlying32 Tryz.underlying5 isz8 s.d t.d h.dl h'.dl
 have iu : (Tryz.prog.info? 32).map (·.size) = some (v8 s.d).length := by rw [v8_length, h.dl]; kernel_rfl
 have iu' : (Tryz.prog.info? 32).map (·.size) = some (v8 t.d).length := by rw [v8_length, h'.dl]; kernel_rfl
 obtain ⟨g, hg⟩ : ∃ g, Hid (s.B t = g) := ⟨_, hide rfl⟩
 rw [hg.out]
 unfold Stt.B at hg
 obtain ⟨W, hW⟩ : ∃ W, Hid ((w.alloc (.cells s.cells.toArray 36)).alloc (.cells t.cells.toArray 36) = W) := ⟨_, hide rfl⟩
 rw [hW.out] at hr hr' hB hz pe pn pc pd pw pp pe' pn' pc' pd' pw' pp'
 clear hr hr' hs ht h h'
 obtain ⟨E, N, C, D, ws, ps⟩ := s
 obtain ⟨E', N', C', D', ws', ps'⟩ := t
 simp only at *
 generalize sameL Wd.B ws.xs ws'.xs = bw at *
 generalize decide (ps.xs = ps'.xs) = bp at *
 generalize (D == D') = bd at *
 generalize v8 D = u at *
 generalize v8 D' = u' at *
 generalize Stt.cells _ = q at *
 generalize Stt.cells _ = q' at *
 simp only [Sl.val] at *
 go_enter Tryz.func9, Tryz.ntmps9
 go_upto_region 1 with fail
 go_name_world w1 hw1
 obtain rfl : W = w1 := hW.out.symm.trans hw1
 clear hw1 hW
 by_cases k1 : E = E'
 rotate_left
 ·obtain rfl : g = false := by rw [← hg.out]; simp only [k1, decide_false, Bool.false_and, Bool.and_false]
  have e0 : (E != E') = true := by simpa using k1
  have e1 : (E == E') = false := by simpa using k1
  clear hg cw ci k1 hq
  go_wp2
  go_ret
  exact ⟨rfl, hB⟩
 subst k1
 by_cases k2 : N = N'
 rotate_left
 ·obtain rfl : g = false := by rw [← hg.out]; simp only [k2, decide_false, Bool.false_and, Bool.and_false]
  have e0 : (N != N') = true := by simpa using k2
  have e1 : (N == N') = false := by simpa using k2
  clear hg cw ci k2 hq
  go_wp2
  go_ret
  exact ⟨rfl, hB⟩
 subst k2
 by_cases k3 : C = C'
 rotate_left
 ·obtain rfl : g = false := by rw [← hg.out]; simp only [k3, decide_false, Bool.false_and, Bool.and_false]
  have e0 : (C != C') = true := by simpa using k3
  have e1 : (C == C') = false := by simpa using k3
  clear hg cw ci k3 hq
  go_wp2
  go_ret
  exact ⟨rfl, hB⟩
 subst k3
 have HG : Hid (g = (bd && (bw && bp))) := hide (by rw [← hg.out, show decide (E = E) = true from decide_eq_true rfl, show decide (N = N) = true from decide_eq_true rfl, show decide (C = C) = true from decide_eq_true rfl]; rfl)
 clear hg
 cases bd
 ·have HG' := hide HG.out
  clear HG cw ci
  go_wp2_with (first | (refine wpList_load_g (by rfl) 32 _ rfl _ _ rfl u _ pd Tryz.underlying32 rfl iu ?_) | (refine wpList_load_g (by rfl) 32 _ rfl _ _ rfl u' _ pd' Tryz.underlying32 rfl iu' ?_))
  go_ret
  exact ⟨by rw [HG'.out]; rfl, hB⟩
 go_wp2_with (first | (refine wpList_load_g (by rfl) 32 _ rfl _ _ rfl u _ pd Tryz.underlying32 rfl iu ?_) | (refine wpList_load_g (by rfl) 32 _ rfl _ _ rfl u' _ pd' Tryz.underlying32 rfl iu' ?_))
 refine (cw _ hB).mono ?_
 rintro e2 w2 ⟨rfl, hb2⟩
 have pp := (hb2.cell (p := ⟨w.heap.size, 36, none⟩) (by simp; omega)).trans pp
 have pp' := (hb2.cell (p := ⟨w.heap.size + 1, 36, none⟩) (by simp; omega)).trans pp'
 have hB := hB.trans (hb2.mono (by omega))
 clear cw hb2 pd pd' hq iu iu' pe pn pc pw pe' pn' pc' pw'
 cases bw
 ·have HG' := hide HG.out
  clear HG ci
  go_wp2
  go_ret
  exact ⟨by rw [HG'.out]; rfl, hB⟩
 go_wp2_with fail
 refine (ci _ hB).mono ?_
 rintro e3 w3 ⟨rfl, hb3⟩
 have hB := hB.trans (hb3.mono hB.size)
 clear ci hb3 pp pp'
 have HG' := hide HG.out
 clear HG
 cases bp
 ·go_wp2
  go_ret
  exact ⟨by rw [HG'.out]; rfl, hB⟩
 ·go_wp2
  go_ret
  exact ⟨by rw [HG'.out]; rfl, hB⟩
end Go.Proofs.YtnfijfnnpbenfaaGreatDoor
