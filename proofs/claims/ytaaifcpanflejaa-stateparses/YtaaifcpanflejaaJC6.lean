/- a state, read; Parse (the program's); light; the example: Plain, First -/
import Derived.Test.YtaaifcpanflejaaJC5
import Derived.Test.YtaaifcpanflejaaJC2
import Derived.Laws.ResultCell
namespace Go.Proofs.Ytaaifcpanflejaa
open Go.RowKit
open Sha Tal
set_option linter.unusedVariables false
set_option linter.unusedSimpArgs false
theorem Rb.cw {w W : World} {R B : Nat} {q : Rq0} {s : Rs} (h : Rb w R B q s W) : W.cell? ⟨B, 35, none⟩ = some q.wv := by
  have h1 := h.row
  unfold Rq0.cells at h1
  have h2 := range_right (range_right h1)
  rw [v8_length, h.dl] at h2
  exact h2 0 _ rfl
theorem Rb.cp {w W : World} {R B : Nat} {q : Rq0} {s : Rs} (h : Rb w R B q s W) : W.cell? ⟨B, 36, none⟩ = some q.pv := by
  have h1 := h.row
  unfold Rq0.cells at h1
  have h2 := range_right (range_right h1)
  rw [v8_length, h.dl] at h2
  exact h2 1 _ rfl
theorem run_bsw (x : Wd) (w : World) : (Instr.buildSlice 27 1 #[(0, .agg x.cells.toArray)]).run Try.prog w = .ok (.slice (some ⟨w.heap.size, 0, none⟩) 1 1) (w.alloc (.cells x.cells.toArray 57)) := by kernel_rfl
theorem infoWn : (Try.prog.info? 57).map (fun i => (i.zero, i.size, i.bytes)) = some (some (.agg #[.int .i64 0, .int .u64 0]), 2, 16) := by kernel_rfl
theorem infoIn : (Try.prog.info? 3).map (fun i => (i.zero, i.size, i.bytes)) = some (some (.int .i64 0), 1, 8) := by kernel_rfl
theorem iszWs : (Try.prog.info? 27).map (·.size) = some 1 := by kernel_rfl
theorem iszIs : (Try.prog.info? 28).map (·.size) = some 1 := by kernel_rfl
theorem rawS_32 (rest : List Int) (e : Int) : (rawS rest e 32).1.length = 32 ∨ (rawS rest e 32).1 = [] := by
  unfold rawS
  split
  · rw [if_neg (by decide)]
    split
    · exact .inr rfl
    · have : (rest.take (32 : Int).toNat).length = 32 := by rw [List.length_take]; show min 32 rest.length = 32; omega
      exact .inl this
  · exact .inr rfl
theorem rawS_bz {rest : List Int} {e : Int} (n : Int) (h : Wn.ByteL e rest) : Wn.ByteL (rawS rest e n).2.2 (rawS rest e n).2.1 := by
  unfold rawS
  split
  · rename_i he
    split
    · intro q; cases q
    · split
      · intro q; cases q
      · exact fun _ z hz => h he z (List.mem_of_mem_drop hz)
  · exact h
theorem pad32_len (t : List Int) : (pad32 t).length = 32 := by
  unfold pad32
  split
  · assumption
  · simp
/-- windows were read -/
def Lw (w : World) (R B : Nat) (a b c : Int) (d : List Int) (t : Rs) (k : Nat) (W : World) : Prop := ∃ vv, Rb w R B ⟨a, b, c, d, vv, .slice none 0 0, (itR wiR t k).1, []⟩ (itR wiR t k).2 W
def Lp (w : World) (R B : Nat) (a b c : Int) (d : List Int) (wv : Value) (ws : List Wd) (t : Rs) (k : Nat) (W : World) : Prop := ∃ vv, Rb w R B ⟨a, b, c, d, wv, vv, ws, (itR (nuR 1048592) t k).1⟩ (itR (nuR 1048592) t k).2 W
/-- what read answers -/
def ReadA (w : World) (R : Nat) (p : Sp × Rs) (en : Ending) (w' : World) : Prop := ∃ x : Stt, en = .returned (.agg x.cells.toArray) ∧ x.sp = p.1 ∧ x.ok ∧ x.At w' ∧ x.Lo w.heap.size ∧ St w' R p.2.1 p.2.2 ∧ w.grownBy w' (some R)
set_option maxRecDepth 100000 in
set_option maxHeartbeats 2000000 in
theorem sread_any (R : Nat) (s : Rs) (w : World) (h : St w R s.1 s.2) (hl : s.1.length ≤ 40000) : Calls Try.prog 16 #[.pointer (some ⟨R, 0, none⟩)] w fun en w' => ReadA w R (readS s) en w' := by
  obtain ⟨zc, hzc, hzr⟩ : ∃ z : List Value, z = Rq0.cells ⟨0, 0, 0, zeros32, .slice none 0 0, .slice none 0 0, [], []⟩ ∧ (∀ w : World, (zeroValue 30).run Try.prog w = .ok (.agg z.toArray) w) := ⟨_, rfl, zeroSt⟩
  unfold readS rdP rdM rdW rdN rdD rd3
  have c1 := fun w0 h0 => pnumR R 1048577 s w0 h0
  have z0 : Wn.ByteL s.2 s.1 := Wn.St.bytes h
  have b1 := nuR_bd (most := 1048577) z0 (by decide)
  have z1 := nuR_bz 1048577 z0
  have l1 := nuR_len 1048577 s
  generalize nuR 1048577 s = p_ at c1 b1 z1 l1 ⊢
  obtain ⟨v1, s1⟩ := p_
  simp only at c1 b1 z1 l1 ⊢
  have c2 := fun w0 h0 => pnumR R 1099511627776 s1 w0 h0
  have b2 := nuR_bd (most := 1099511627776) z1 (by decide)
  have z2 := nuR_bz 1099511627776 z1
  have l2 := nuR_len 1099511627776 s1
  generalize nuR 1099511627776 s1 = p_ at c2 b2 z2 l2 ⊢
  obtain ⟨v2, s2⟩ := p_
  simp only at c2 b2 z2 l2 ⊢
  have c3 := fun w0 h0 => pnumR R 1099511627776 s2 w0 h0
  have b3 := nuR_bd (most := 1099511627776) z2 (by decide)
  have z3 := nuR_bz 1099511627776 z2
  have l3 := nuR_len 1099511627776 s2
  generalize nuR 1099511627776 s2 = p_ at c3 b3 z3 l3 ⊢
  obtain ⟨v3, s3⟩ := p_
  simp only at c3 b3 z3 l3 ⊢
  have c4 := fun w0 h0 => raw_any R s3.1 s3.2 32 w0 h0 (by omega)
  have f4 := rawS_32 s3.1 s3.2
  have z4 := rawS_bz 32 z3
  generalize rawS s3.1 s3.2 32 = p_ at c4 f4 z4 ⊢
  obtain ⟨dd, s4⟩ := p_
  simp only at c4 f4 z4 ⊢
  have c5 := fun w0 h0 => pnumR R 8 s4 w0 h0
  have b5 := nuR_bd (most := 8) (s := s4) z4 (by decide)
  generalize nuR 8 s4 = p_ at c5 b5 ⊢
  obtain ⟨v5, s5⟩ := p_
  simp only at c5 b5 ⊢
  clear z0 z1 z2 z3 z4 l1 l2 l3 hl
  obtain ⟨N, rfl⟩ : ∃ N : Nat, v5 = (N : Int) := ⟨v5.toNat, by omega⟩
  have hN : N ≤ 8 := by omega
  rw [Int.toNat_natCast]
  clear b5
  have N0 := rb_new R s w h zc hzc
  clear h hzc
  go_enter Try.func16, Try.ntmps16
  go_upto_region 0 with fail
  try simp only [Act.put]
  refine pl_begin ?_
  refine pl_run (d := some 2) (v := .pointer (some ⟨w.heap.size, 0, none⟩)) (w' := w.alloc (.cells zc.toArray 30)) (by rfl) (ex_alloc rfl (hzr _)) rfl ?_
  simp only [Act.put, List.setIfInBounds_toArray, List.set_cons_zero, List.set_cons_succ]
  refine pl_nil ?_
  have hs1 : (w.alloc (.cells zc.toArray 30)).heap.size = w.heap.size + 1 := World.size_alloc _ _
  obtain ⟨W1, hW1⟩ : ∃ W, w.alloc (.cells zc.toArray 30) = W := ⟨_, rfl⟩
  rw [hW1] at N0 hs1 ⊢
  clear hW1
  rw [← hs1] at N0
  obtain ⟨B, hB⟩ : ∃ b, W1.heap.size = b := ⟨_, rfl⟩
  rw [hB] at N0
  clear hs1
  go_upto_region 1 with fail
  try simp only [Act.put]
  refine pl_begin ?_
  refine pl_run (d := some 3) (v := .pointer (some ⟨W1.heap.size, 0, none⟩)) (w' := W1.alloc (.cells zc.toArray 30)) (by rfl) (ex_alloc rfl (hzr _)) rfl ?_
  simp only [Act.put, List.setIfInBounds_toArray, List.set_cons_zero, List.set_cons_succ]
  refine pl_nil ?_
  simp only [hB]
  obtain ⟨W2, hW2⟩ : ∃ W, W1.alloc (.cells zc.toArray 30) = W := ⟨_, rfl⟩
  rw [hW2] at N0 ⊢
  clear hW2 hB hzr
  go_upto_region 2 with fail
  try simp only [Act.put]
  refine pl_begin ?_
  refine pl_take (d := some 5) (v := ?_) (by rfl) ?_ rfl ?_
  rotate_left
  · go_simp
    try with_reducible rfl
  simp only [Act.put, List.setIfInBounds_toArray, List.set_cons_zero, List.set_cons_succ]
  refine pl_take (d := some 6) (v := ?_) (by rfl) ?_ rfl ?_
  rotate_left
  · go_simp
    try with_reducible rfl
  simp only [Act.put, List.setIfInBounds_toArray, List.set_cons_zero, List.set_cons_succ]
  refine pl_take (d := some 4) (v := ?_) (by rfl) ?_ rfl ?_
  rotate_left
  · go_simp
    try with_reducible rfl
  simp only [Act.put, List.setIfInBounds_toArray, List.set_cons_zero, List.set_cons_succ]
  refine pl_nil ?_
  go_upto_region 3 with fail
  try simp only [Act.put]
  refine pl_begin ?_
  refine pl_take (d := some 7) (v := ?_) (by rfl) ?_ rfl ?_
  rotate_left
  · go_simp
    try with_reducible rfl
  simp only [Act.put, List.setIfInBounds_toArray, List.set_cons_zero, List.set_cons_succ]
  refine pl_call (d := some 8) (by rfl) (by go_simp; first | done | exact ⟨rfl, rfl⟩ | with_reducible rfl) rfl ?_
  refine (c1 _ N0.st).mono ?_
  rintro _ n1w ⟨rfl, n1s, n1g⟩
  refine ⟨_, rfl, ?_⟩
  simp only [Act.put, List.setIfInBounds_toArray, List.set_cons_zero, List.set_cons_succ]
  refine pl_take (d := some 9) (v := ?_) (by rfl) ?_ rfl ?_
  rotate_left
  · go_simp
    try with_reducible rfl
  simp only [Act.put, List.setIfInBounds_toArray, List.set_cons_zero, List.set_cons_succ]
  have n1 := (N0.on n1g n1s).setE v1
  have n1t := (N0.on n1g n1s).box
  refine pl_store (w' := n1w.setCells B 0 [.int .i64 v1]) (by rfl) (ex_put1 (n := 37) rfl rfl rfl n1t (by decide) iszI rfl rfl) rfl ?_
  refine pl_nil ?_
  obtain ⟨n1v, hn1⟩ : ∃ W, n1w.setCells B 0 [.int .i64 v1] = W := ⟨_, rfl⟩
  rw [hn1] at n1 ⊢
  clear hn1 n1s n1g n1t N0 c1
  go_upto_region 4 with fail
  try simp only [Act.put]
  refine pl_begin ?_
  refine pl_take (d := some 10) (v := ?_) (by rfl) ?_ rfl ?_
  rotate_left
  · go_simp
    try with_reducible rfl
  simp only [Act.put, List.setIfInBounds_toArray, List.set_cons_zero, List.set_cons_succ]
  refine pl_call (d := some 11) (by rfl) (by go_simp; first | done | exact ⟨rfl, rfl⟩ | with_reducible rfl) rfl ?_
  refine (c2 _ n1.st).mono ?_
  rintro _ n2w ⟨rfl, n2s, n2g⟩
  refine ⟨_, rfl, ?_⟩
  simp only [Act.put, List.setIfInBounds_toArray, List.set_cons_zero, List.set_cons_succ]
  refine pl_take (d := some 12) (v := ?_) (by rfl) ?_ rfl ?_
  rotate_left
  · go_simp
    try with_reducible rfl
  simp only [Act.put, List.setIfInBounds_toArray, List.set_cons_zero, List.set_cons_succ]
  have n2 := (n1.on n2g n2s).setN v2
  have n2t := (n1.on n2g n2s).box
  refine pl_store (w' := n2w.setCells B 1 [.int .i64 v2]) (by rfl) (ex_put1 (n := 37) rfl rfl rfl n2t (by decide) iszI rfl rfl) rfl ?_
  refine pl_nil ?_
  obtain ⟨n2v, hn2⟩ : ∃ W, n2w.setCells B 1 [.int .i64 v2] = W := ⟨_, rfl⟩
  rw [hn2] at n2 ⊢
  clear hn2 n2s n2g n2t n1 c2
  go_upto_region 5 with fail
  try simp only [Act.put]
  refine pl_begin ?_
  refine pl_take (d := some 13) (v := ?_) (by rfl) ?_ rfl ?_
  rotate_left
  · go_simp
    try with_reducible rfl
  simp only [Act.put, List.setIfInBounds_toArray, List.set_cons_zero, List.set_cons_succ]
  refine pl_call (d := some 14) (by rfl) (by go_simp; first | done | exact ⟨rfl, rfl⟩ | with_reducible rfl) rfl ?_
  refine (c3 _ n2.st).mono ?_
  rintro _ n3w ⟨rfl, n3s, n3g⟩
  refine ⟨_, rfl, ?_⟩
  simp only [Act.put, List.setIfInBounds_toArray, List.set_cons_zero, List.set_cons_succ]
  refine pl_take (d := some 15) (v := ?_) (by rfl) ?_ rfl ?_
  rotate_left
  · go_simp
    try with_reducible rfl
  simp only [Act.put, List.setIfInBounds_toArray, List.set_cons_zero, List.set_cons_succ]
  have n3 := (n2.on n3g n3s).setC v3
  have n3t := (n2.on n3g n3s).box
  refine pl_store (w' := n3w.setCells B 2 [.int .i64 v3]) (by rfl) (ex_put1 (n := 37) rfl rfl rfl n3t (by decide) iszI rfl rfl) rfl ?_
  refine pl_nil ?_
  obtain ⟨n3v, hn3⟩ : ∃ W, n3w.setCells B 2 [.int .i64 v3] = W := ⟨_, rfl⟩
  rw [hn3] at n3 ⊢
  clear hn3 n3s n3g n3t n2 c3
  have n3 : Rb w R B ⟨v1, v2, v3, zeros32, .slice none 0 0, .slice none 0 0, [], []⟩ s3 n3v := n3
  go_upto_region 6 with fail
  have G8 := n3.below ((Below.refl _ _).drew)
  refine hs_begin (S := (fun _ : World => True)) 5 rfl (by kernel_rfl) ?_
  obtain ⟨w8, hw8⟩ : ∃ W, n3v.drew = W := ⟨_, rfl⟩
  rw [hw8] at G8 ⊢
  clear hw8 n3
  have hS : (fun _ : World => True) w8 := trivial
  refine hs_take (i := 0) (d := some 16) (v := ?_) rfl (by kernel_rfl) (by kernel_rfl) (by kernel_rfl) (by rfl) ?_ hS rfl ?_
  rotate_left
  · intro w' hw
    go_simp
    try with_reducible rfl
  simp only [Act.put, List.setIfInBounds_toArray, List.set_cons_zero, List.set_cons_succ]
  refine hs_take (i := 1) (d := some 17) (v := .slice (some ⟨B, 3, none⟩) 32 32) rfl (by kernel_rfl) (by kernel_rfl) (by kernel_rfl) (by rfl) (fun w' hw => by have hsl := slice_all (P := Try.prog) Try.underlying26 isz8 B 3 (by decide) w'; go_simp) hS rfl ?_
  simp only [Act.put, List.setIfInBounds_toArray, List.set_cons_zero, List.set_cons_succ]
  refine hs_take (i := 2) (d := some 18) (v := ?_) rfl (by kernel_rfl) (by kernel_rfl) (by kernel_rfl) (by rfl) ?_ hS rfl ?_
  rotate_left
  · intro w' hw
    go_simp
    try with_reducible rfl
  simp only [Act.put, List.setIfInBounds_toArray, List.set_cons_zero, List.set_cons_succ]
  refine hs_call (i := 3) (d := some 19) rfl (by kernel_rfl) (by rfl) (by go_simp; first | done | exact ⟨rfl, rfl⟩ | with_reducible rfl) rfl ?_
  refine (c4 w8 G8.st).mono ?_
  rintro _ w9 ⟨v9, rfl, m9, s9, g9⟩
  refine ⟨_, rfl, trivial, ?_⟩
  simp only [Act.put, List.setIfInBounds_toArray, List.set_cons_zero, List.set_cons_succ]
  have G9 := G8.on g9 s9
  obtain ⟨a9, cap9, rfl, _, _, row9⟩ := m9.rowAt (by unfold maxLen; rcases f4 with q | q <;> (first | omega | (rw [q]; decide)))
  clear c4 G8 s9 g9 m9
  obtain ⟨w10, hcp, G10⟩ := G9.copy (cap := cap9) rfl row9 f4
  refine hs_run (i := 4) (d := some 20) (v := goInt dd.length) (w' := w10) rfl (by kernel_rfl) (by rfl) (exec_copy rfl rfl rfl hcp) rfl trivial ?_
  simp only [Act.put, List.setIfInBounds_toArray, List.set_cons_zero, List.set_cons_succ]
  refine hs_done (by kernel_rfl) ?_
  clear hcp G9 row9 f4 hS
  have G10 : Rb w R B ⟨v1, v2, v3, pad32 dd, .slice none 0 0, .slice none 0 0, [], []⟩ s4 w10 := G10
  obtain ⟨dp, hdp⟩ : ∃ x, Hid (pad32 dd = x) := ⟨_, hide rfl⟩
  rw [hdp.out] at G10
  go_upto_region 7 with fail
  try simp only [Act.put]
  refine pl_begin ?_
  refine pl_take (d := some 21) (v := ?_) (by rfl) ?_ rfl ?_
  rotate_left
  · go_simp
    try with_reducible rfl
  simp only [Act.put, List.setIfInBounds_toArray, List.set_cons_zero, List.set_cons_succ]
  refine pl_call (d := some 22) (by rfl) (by go_simp; first | done | exact ⟨rfl, rfl⟩ | with_reducible rfl) rfl ?_
  refine (c5 _ G10.st).mono ?_
  rintro _ w11 ⟨rfl, s11, g11⟩
  refine ⟨_, rfl, ?_⟩
  simp only [Act.put, List.setIfInBounds_toArray, List.set_cons_zero, List.set_cons_succ]
  refine pl_take (d := some 23) (v := ?_) (by rfl) ?_ rfl ?_
  rotate_left
  · go_simp
    try with_reducible rfl
  simp only [Act.put, List.setIfInBounds_toArray, List.set_cons_zero, List.set_cons_succ]
  refine pl_nil ?_
  have HL0 : Hid (Lw w R B v1 v2 v3 dp s5 0 w11) := hide ⟨_, G10.on g11 s11⟩
  clear G10 s11 g11 c5
  have HB1 := hide b1
  have HB2 := hide b2
  have HB3 := hide b3
  clear b1 b2 b3
  go_wp2_with fail
  go_loopw [23] (fun iv wr => ∃ k : Nat, k ≤ N ∧ iv = .int .i64 (k : Int) ∧ Hid (Lw w R B v1 v2 v3 dp s5 k wr)) (fun iv _ => N - (intOf iv).toNat)
  case atStart => exact ⟨0, by omega, rfl, HL0⟩
  case round =>
    clear HL0
    obtain ⟨k, hk, rfl, HL⟩ := hrel
    by_cases hlt : k < N
    · have k1 : (k : Int) < N := by omega
      obtain ⟨vv, HV⟩ := HL.out
      clear HL
      obtain ⟨i1, hi, hiz, his, hib⟩ := info_parts infoWn
      have hzk : (Value.agg #[.int .i64 0, .int .u64 0]).cells.size = 2 := rfl
      have hle : (itR wiR s5 k).1.length ≤ 1000 := by rw [itR_length]; omega
      have cE := fun w0 h0 => pwinR R (itR wiR s5 k).2 w0 h0
      have hok := wiR_ok (itR wiR s5 k).2
      have E1 : Hid (itR wiR s5 (k + 1) = ((itR wiR s5 k).1 ++ [(wiR (itR wiR s5 k).2).1], (wiR (itR wiR s5 k).2).2)) := hide rfl
      generalize wiR (itR wiR s5 k).2 = p_ at cE hok E1
      obtain ⟨gx, sx⟩ := p_
      simp only at cE hok E1
      have hul : gx.cells.length = 2 := rfl
      have hone := WdE.one gx
      go_upto_region 9 with fail
      have V8 := HV.below ((Below.refl _ _).drew)
      refine hs_begin (S := (fun _ : World => True)) 8 rfl (by kernel_rfl) ?_
      obtain ⟨w8, hw8⟩ : ∃ W, wr.drew = W := ⟨_, rfl⟩
      rw [hw8] at V8 ⊢
      clear hw8
      have hS : (fun _ : World => True) w8 := trivial
      refine hs_take (i := 0) (d := some 25) (v := ?_) rfl (by kernel_rfl) (by kernel_rfl) (by kernel_rfl) (by rfl) ?_ hS rfl ?_
      rotate_left
      · intro w' hw
        go_simp
        try with_reducible rfl
      simp only [Act.put, List.setIfInBounds_toArray, List.set_cons_zero, List.set_cons_succ]
      refine hs_take (i := 2) (d := some 27) (v := ?_) rfl (by kernel_rfl) (by kernel_rfl) (by kernel_rfl) (by rfl) ?_ hS rfl ?_
      rotate_left
      · intro w' hw
        go_simp
        try with_reducible rfl
      simp only [Act.put, List.setIfInBounds_toArray, List.set_cons_zero, List.set_cons_succ]
      refine hs_forkL (l := [1, 3]) (by kernel_rfl) (by simp) ?_
      intro ii hii
      simp only [List.mem_cons, List.not_mem_nil, or_false] at hii
      rcases hii with rfl | rfl
      · refine st_run (i := 1) (d := some 26) (v := vv) (w' := w8) rfl (by rfl) (pl_one rfl rfl V8.cw Try.underlying27 rfl) rfl trivial ?_
        simp only [Act.put, List.setIfInBounds_toArray, List.set_cons_zero, List.set_cons_succ]
        refine hs_call (i := 3) (d := some 28) rfl (by kernel_rfl) (by rfl) (by go_simp; first | done | exact ⟨rfl, rfl⟩ | with_reducible rfl) rfl ?_
        refine (cE w8 V8.st).mono ?_
        rintro _ w6 ⟨rfl, S6, g6⟩
        refine ⟨_, rfl, trivial, ?_⟩
        simp only [Act.put, List.setIfInBounds_toArray, List.set_cons_zero, List.set_cons_succ]
        have V6 := V8.on g6 S6
        have hb7 : Below w6.heap.size w6 (w6.alloc (.cells gx.cells.toArray 57)) := (Below.refl _ _).alloc (Nat.le_refl _) _
        have r7 : (w6.alloc (.cells gx.cells.toArray 57)).rangeAt w6.heap.size 0 gx.cells := by simpa using range_new w6 (gx.cells).toArray 57
        refine hs_run (i := 4) (d := some 29) (v := .slice (some ⟨w6.heap.size, 0, none⟩) 1 1) (w' := w6.alloc (.cells gx.cells.toArray 57)) rfl (by kernel_rfl) (by rfl) (ex_bsi rfl rfl (run_bsw _ _)) rfl trivial ?_
        simp only [Act.put, List.setIfInBounds_toArray, List.set_cons_zero, List.set_cons_succ]
        obtain ⟨w7, hw7⟩ : ∃ W, w6.alloc (.cells gx.cells.toArray 57) = W := ⟨_, rfl⟩
        rw [hw7] at hb7 r7 ⊢
        clear hw7
        have V7 := V6.below hb7
        refine hs_runX (i := 5) (d := some 30) rfl (by kernel_rfl) (by rfl) rfl (ex_app1 rfl rfl rfl Try.underlying27 hi hiz his (by rw [hib]; decide) rfl V7.wo (by have := V7.lb; omega) r7 hul hone hle hzk) ?_
        rintro v9 w9 ⟨o9, g9, gb9⟩
        refine ⟨trivial, ?_⟩
        simp only [Act.put, List.setIfInBounds_toArray, List.set_cons_zero, List.set_cons_succ]
        refine hs_take (i := 6) (d := some 31) (v := ?_) rfl (by kernel_rfl) (by kernel_rfl) (by kernel_rfl) (by rfl) ?_ hS rfl ?_
        rotate_left
        · intro w' hw
          go_simp
          try with_reducible rfl
        simp only [Act.put, List.setIfInBounds_toArray, List.set_cons_zero, List.set_cons_succ]
        obtain ⟨tb9, V9⟩ := V7.appW hok g9 o9 gb9
        have hv9 : v9.cells = #[v9] ∧ v9.oneCell' = true := own_cell o9
        refine hs_store (i := 7) (w' := w9.setCells B 35 [v9]) rfl (by kernel_rfl) (by rfl) (ex_put1 (n := 37) rfl rfl rfl tb9 (by decide) iszWs hv9.1 hv9.2) rfl trivial ?_
        refine hs_done (by kernel_rfl) ?_
        have HL6 : Hid (Lw w R B v1 v2 v3 dp s5 (k + 1) (w9.setCells B 35 [v9])) := hide ⟨v9, by rw [E1.out]; exact V9⟩
        clear E1 HV o9 g9 gb9 tb9 hv9 V9 V7 V6 V8 r7 hb7 S6 g6 hok hle hul hone cE hS
        go_wp2_with fail
        go_roundw
        case rel => exact ⟨k + 1, by omega, by go_num, HL6⟩
        case measure => simp [intOf]; omega
      · refine st_call (i := 3) (d := some 28) rfl (by rfl) (by go_simp; first | done | exact ⟨rfl, rfl⟩ | with_reducible rfl) rfl ?_
        refine (cE w8 V8.st).mono ?_
        rintro _ w6 ⟨rfl, S6, g6⟩
        refine ⟨_, rfl, trivial, ?_⟩
        simp only [Act.put, List.setIfInBounds_toArray, List.set_cons_zero, List.set_cons_succ]
        have V6 := V8.on g6 S6
        refine hs_forkL (l := [1, 4]) (by kernel_rfl) (by simp) ?_
        intro ii hii
        simp only [List.mem_cons, List.not_mem_nil, or_false] at hii
        rcases hii with rfl | rfl
        · refine st_run (i := 1) (d := some 26) (v := vv) (w' := w6) rfl (by rfl) (pl_one rfl rfl V6.cw Try.underlying27 rfl) rfl trivial ?_
          simp only [Act.put, List.setIfInBounds_toArray, List.set_cons_zero, List.set_cons_succ]
          have hb7 : Below w6.heap.size w6 (w6.alloc (.cells gx.cells.toArray 57)) := (Below.refl _ _).alloc (Nat.le_refl _) _
          have r7 : (w6.alloc (.cells gx.cells.toArray 57)).rangeAt w6.heap.size 0 gx.cells := by simpa using range_new w6 (gx.cells).toArray 57
          refine hs_run (i := 4) (d := some 29) (v := .slice (some ⟨w6.heap.size, 0, none⟩) 1 1) (w' := w6.alloc (.cells gx.cells.toArray 57)) rfl (by kernel_rfl) (by rfl) (ex_bsi rfl rfl (run_bsw _ _)) rfl trivial ?_
          simp only [Act.put, List.setIfInBounds_toArray, List.set_cons_zero, List.set_cons_succ]
          obtain ⟨w7, hw7⟩ : ∃ W, w6.alloc (.cells gx.cells.toArray 57) = W := ⟨_, rfl⟩
          rw [hw7] at hb7 r7 ⊢
          clear hw7
          have V7 := V6.below hb7
          refine hs_runX (i := 5) (d := some 30) rfl (by kernel_rfl) (by rfl) rfl (ex_app1 rfl rfl rfl Try.underlying27 hi hiz his (by rw [hib]; decide) rfl V7.wo (by have := V7.lb; omega) r7 hul hone hle hzk) ?_
          rintro v9 w9 ⟨o9, g9, gb9⟩
          refine ⟨trivial, ?_⟩
          simp only [Act.put, List.setIfInBounds_toArray, List.set_cons_zero, List.set_cons_succ]
          refine hs_take (i := 6) (d := some 31) (v := ?_) rfl (by kernel_rfl) (by kernel_rfl) (by kernel_rfl) (by rfl) ?_ hS rfl ?_
          rotate_left
          · intro w' hw
            go_simp
            try with_reducible rfl
          simp only [Act.put, List.setIfInBounds_toArray, List.set_cons_zero, List.set_cons_succ]
          obtain ⟨tb9, V9⟩ := V7.appW hok g9 o9 gb9
          have hv9 : v9.cells = #[v9] ∧ v9.oneCell' = true := own_cell o9
          refine hs_store (i := 7) (w' := w9.setCells B 35 [v9]) rfl (by kernel_rfl) (by rfl) (ex_put1 (n := 37) rfl rfl rfl tb9 (by decide) iszWs hv9.1 hv9.2) rfl trivial ?_
          refine hs_done (by kernel_rfl) ?_
          have HL6 : Hid (Lw w R B v1 v2 v3 dp s5 (k + 1) (w9.setCells B 35 [v9])) := hide ⟨v9, by rw [E1.out]; exact V9⟩
          clear E1 HV o9 g9 gb9 tb9 hv9 V9 V7 V6 V8 r7 hb7 S6 g6 hok hle hul hone cE hS
          go_wp2_with fail
          go_roundw
          case rel => exact ⟨k + 1, by omega, by go_num, HL6⟩
          case measure => simp [intOf]; omega
        · have hb7 : Below w6.heap.size w6 (w6.alloc (.cells gx.cells.toArray 57)) := (Below.refl _ _).alloc (Nat.le_refl _) _
          have r7 : (w6.alloc (.cells gx.cells.toArray 57)).rangeAt w6.heap.size 0 gx.cells := by simpa using range_new w6 (gx.cells).toArray 57
          refine st_run (i := 4) (d := some 29) (v := .slice (some ⟨w6.heap.size, 0, none⟩) 1 1) (w' := w6.alloc (.cells gx.cells.toArray 57)) rfl (by rfl) (ex_bsi rfl rfl (run_bsw _ _)) rfl trivial ?_
          simp only [Act.put, List.setIfInBounds_toArray, List.set_cons_zero, List.set_cons_succ]
          obtain ⟨w7, hw7⟩ : ∃ W, w6.alloc (.cells gx.cells.toArray 57) = W := ⟨_, rfl⟩
          rw [hw7] at hb7 r7 ⊢
          clear hw7
          have V7 := V6.below hb7
          refine hs_run (i := 1) (d := some 26) (v := vv) (w' := w7) rfl (by kernel_rfl) (by rfl) (pl_one rfl rfl V7.cw Try.underlying27 rfl) rfl trivial ?_
          simp only [Act.put, List.setIfInBounds_toArray, List.set_cons_zero, List.set_cons_succ]
          refine hs_runX (i := 5) (d := some 30) rfl (by kernel_rfl) (by rfl) rfl (ex_app1 rfl rfl rfl Try.underlying27 hi hiz his (by rw [hib]; decide) rfl V7.wo (by have := V7.lb; omega) r7 hul hone hle hzk) ?_
          rintro v9 w9 ⟨o9, g9, gb9⟩
          refine ⟨trivial, ?_⟩
          simp only [Act.put, List.setIfInBounds_toArray, List.set_cons_zero, List.set_cons_succ]
          refine hs_take (i := 6) (d := some 31) (v := ?_) rfl (by kernel_rfl) (by kernel_rfl) (by kernel_rfl) (by rfl) ?_ hS rfl ?_
          rotate_left
          · intro w' hw
            go_simp
            try with_reducible rfl
          simp only [Act.put, List.setIfInBounds_toArray, List.set_cons_zero, List.set_cons_succ]
          obtain ⟨tb9, V9⟩ := V7.appW hok g9 o9 gb9
          have hv9 : v9.cells = #[v9] ∧ v9.oneCell' = true := own_cell o9
          refine hs_store (i := 7) (w' := w9.setCells B 35 [v9]) rfl (by kernel_rfl) (by rfl) (ex_put1 (n := 37) rfl rfl rfl tb9 (by decide) iszWs hv9.1 hv9.2) rfl trivial ?_
          refine hs_done (by kernel_rfl) ?_
          have HL6 : Hid (Lw w R B v1 v2 v3 dp s5 (k + 1) (w9.setCells B 35 [v9])) := hide ⟨v9, by rw [E1.out]; exact V9⟩
          clear E1 HV o9 g9 gb9 tb9 hv9 V9 V7 V6 V8 r7 hb7 S6 g6 hok hle hul hone cE hS
          go_wp2_with fail
          go_roundw
          case rel => exact ⟨k + 1, by omega, by go_num, HL6⟩
          case measure => simp [intOf]; omega
    · have hkN : k = N := by omega
      subst hkN
      obtain ⟨wv, HV⟩ := HL.out
      clear HL hlt hk
      have hwl := itR_length wiR s5 k
      have c6 := fun w0 h0 => pnumR R 64 (itR wiR s5 k).2 w0 h0
      have b6 := nuR_bd (most := 64) (Wn.St.bytes HV.st) (by decide)
      obtain ⟨p_, hp_⟩ : ∃ p, nuR 64 (itR wiR s5 k).2 = p := ⟨_, rfl⟩
      rw [hp_] at b6
      simp only [hp_] at c6
      obtain ⟨v6, s6⟩ := p_
      simp only at c6 b6
      have HE6 := hide hp_
      clear hp_
      have k1 : ¬ ((k : Int) < k) := by omega
      go_upto_region 11 with fail
      try simp only [Act.put]
      refine pl_begin ?_
      refine pl_take (d := some 33) (v := ?_) (by rfl) ?_ rfl ?_
      rotate_left
      · go_simp
        try with_reducible rfl
      simp only [Act.put, List.setIfInBounds_toArray, List.set_cons_zero, List.set_cons_succ]
      refine pl_call (d := some 34) (by rfl) (by go_simp; first | done | exact ⟨rfl, rfl⟩ | with_reducible rfl) rfl ?_
      refine (c6 _ HV.st).mono ?_
      rintro _ w12 ⟨rfl, s12, g12⟩
      refine ⟨_, rfl, ?_⟩
      simp only [Act.put, List.setIfInBounds_toArray, List.set_cons_zero, List.set_cons_succ]
      refine pl_take (d := some 35) (v := ?_) (by rfl) ?_ rfl ?_
      rotate_left
      · go_simp
        try with_reducible rfl
      simp only [Act.put, List.setIfInBounds_toArray, List.set_cons_zero, List.set_cons_succ]
      refine pl_nil ?_
      have HP0 : Hid (Lp w R B v1 v2 v3 dp wv (itR wiR s5 k).1 s6 0 w12) := hide ⟨_, HV.on g12 s12⟩
      clear HV s12 g12 c6 k1
      obtain ⟨M, rfl⟩ : ∃ M : Nat, v6 = (M : Int) := ⟨v6.toNat, by omega⟩
      have hM : M ≤ 64 := by omega
      clear b6
      go_wp2_with fail
      go_loopw [35] (fun iv wr => ∃ k2 : Nat, k2 ≤ M ∧ iv = .int .i64 (k2 : Int) ∧ Hid (Lp w R B v1 v2 v3 dp wv (itR wiR s5 k).1 s6 k2 wr)) (fun iv _ => M - (intOf iv).toNat)
      case atStart => exact ⟨0, by omega, rfl, HP0⟩
      case round =>
        clear HP0
        obtain ⟨k2, hk2, rfl, HP⟩ := hrel
        by_cases hlt : k2 < M
        · have k1 : (k2 : Int) < M := by omega
          obtain ⟨vv, HW⟩ := HP.out
          clear HP
          obtain ⟨i1, hi, hiz, his, hib⟩ := info_parts infoIn
          have hzk : (Value.int .i64 0).cells.size = 1 := rfl
          have hle : (itR (nuR 1048592) s6 k2).1.length ≤ 1000 := by rw [itR_length]; omega
          have cE := fun w0 h0 => pnumR R 1048592 (itR (nuR 1048592) s6 k2).2 w0 h0
          have hok := nuR_ok (s := (itR (nuR 1048592) s6 k2).2) (Wn.St.bytes HW.st)
          have E1 : Hid (itR (nuR 1048592) s6 (k2 + 1) = ((itR (nuR 1048592) s6 k2).1 ++ [(nuR 1048592 (itR (nuR 1048592) s6 k2).2).1], (nuR 1048592 (itR (nuR 1048592) s6 k2).2).2)) := hide rfl
          generalize nuR 1048592 (itR (nuR 1048592) s6 k2).2 = p_ at cE hok E1
          obtain ⟨gx, sx⟩ := p_
          simp only at cE hok E1
          have hul : [Value.int .i64 gx].length = 1 := rfl
          have hone := PnE.one gx
          go_upto_region 13 with fail
          have V8 := HW.below ((Below.refl _ _).drew)
          refine hs_begin (S := (fun _ : World => True)) 8 rfl (by kernel_rfl) ?_
          obtain ⟨w8, hw8⟩ : ∃ W, wr.drew = W := ⟨_, rfl⟩
          rw [hw8] at V8 ⊢
          clear hw8
          have hS : (fun _ : World => True) w8 := trivial
          refine hs_take (i := 0) (d := some 37) (v := ?_) rfl (by kernel_rfl) (by kernel_rfl) (by kernel_rfl) (by rfl) ?_ hS rfl ?_
          rotate_left
          · intro w' hw
            go_simp
            try with_reducible rfl
          simp only [Act.put, List.setIfInBounds_toArray, List.set_cons_zero, List.set_cons_succ]
          refine hs_take (i := 2) (d := some 39) (v := ?_) rfl (by kernel_rfl) (by kernel_rfl) (by kernel_rfl) (by rfl) ?_ hS rfl ?_
          rotate_left
          · intro w' hw
            go_simp
            try with_reducible rfl
          simp only [Act.put, List.setIfInBounds_toArray, List.set_cons_zero, List.set_cons_succ]
          refine hs_forkL (l := [1, 3]) (by kernel_rfl) (by simp) ?_
          intro ii hii
          simp only [List.mem_cons, List.not_mem_nil, or_false] at hii
          rcases hii with rfl | rfl
          · refine st_run (i := 1) (d := some 38) (v := vv) (w' := w8) rfl (by rfl) (pl_one rfl rfl V8.cp Try.underlying28 rfl) rfl trivial ?_
            simp only [Act.put, List.setIfInBounds_toArray, List.set_cons_zero, List.set_cons_succ]
            refine hs_call (i := 3) (d := some 40) rfl (by kernel_rfl) (by rfl) (by go_simp; first | done | exact ⟨rfl, rfl⟩ | with_reducible rfl) rfl ?_
            refine (cE w8 V8.st).mono ?_
            rintro _ w6 ⟨rfl, S6, g6⟩
            refine ⟨_, rfl, trivial, ?_⟩
            simp only [Act.put, List.setIfInBounds_toArray, List.set_cons_zero, List.set_cons_succ]
            have V6 := V8.on g6 S6
            have hb7 : Below w6.heap.size w6 (w6.alloc (.cells [Value.int .i64 gx].toArray 3)) := (Below.refl _ _).alloc (Nat.le_refl _) _
            have r7 : (w6.alloc (.cells [Value.int .i64 gx].toArray 3)).rangeAt w6.heap.size 0 [Value.int .i64 gx] := by simpa using range_new w6 ([Value.int .i64 gx]).toArray 3
            refine hs_run (i := 4) (d := some 41) (v := .slice (some ⟨w6.heap.size, 0, none⟩) 1 1) (w' := w6.alloc (.cells [Value.int .i64 gx].toArray 3)) rfl (by kernel_rfl) (by rfl) (ex_bsi rfl rfl (run_bsi _ _)) rfl trivial ?_
            simp only [Act.put, List.setIfInBounds_toArray, List.set_cons_zero, List.set_cons_succ]
            obtain ⟨w7, hw7⟩ : ∃ W, w6.alloc (.cells [Value.int .i64 gx].toArray 3) = W := ⟨_, rfl⟩
            rw [hw7] at hb7 r7 ⊢
            clear hw7
            have V7 := V6.below hb7
            refine hs_runX (i := 5) (d := some 42) rfl (by kernel_rfl) (by rfl) rfl (ex_app1 rfl rfl rfl Try.underlying28 hi hiz his (by rw [hib]; decide) rfl V7.po (by have := V7.lb; omega) r7 hul hone hle hzk) ?_
            rintro v9 w9 ⟨o9, g9, gb9⟩
            refine ⟨trivial, ?_⟩
            simp only [Act.put, List.setIfInBounds_toArray, List.set_cons_zero, List.set_cons_succ]
            refine hs_take (i := 6) (d := some 43) (v := ?_) rfl (by kernel_rfl) (by kernel_rfl) (by kernel_rfl) (by rfl) ?_ hS rfl ?_
            rotate_left
            · intro w' hw
              go_simp
              try with_reducible rfl
            simp only [Act.put, List.setIfInBounds_toArray, List.set_cons_zero, List.set_cons_succ]
            obtain ⟨tb9, V9⟩ := V7.appP hok g9 o9 gb9
            have hv9 : v9.cells = #[v9] ∧ v9.oneCell' = true := own_cell o9
            refine hs_store (i := 7) (w' := w9.setCells B 36 [v9]) rfl (by kernel_rfl) (by rfl) (ex_put1 (n := 37) rfl rfl rfl tb9 (by decide) iszIs hv9.1 hv9.2) rfl trivial ?_
            refine hs_done (by kernel_rfl) ?_
            have HL6 : Hid (Lp w R B v1 v2 v3 dp wv (itR wiR s5 k).1 s6 (k2 + 1) (w9.setCells B 36 [v9])) := hide ⟨v9, by rw [E1.out]; exact V9⟩
            clear E1 HW o9 g9 gb9 tb9 hv9 V9 V7 V6 V8 r7 hb7 S6 g6 hok hle hul hone cE hS
            go_wp2_with fail
            go_roundw
            case rel => exact ⟨k2 + 1, by omega, by go_num, HL6⟩
            case measure => simp [intOf]; omega
          · refine st_call (i := 3) (d := some 40) rfl (by rfl) (by go_simp; first | done | exact ⟨rfl, rfl⟩ | with_reducible rfl) rfl ?_
            refine (cE w8 V8.st).mono ?_
            rintro _ w6 ⟨rfl, S6, g6⟩
            refine ⟨_, rfl, trivial, ?_⟩
            simp only [Act.put, List.setIfInBounds_toArray, List.set_cons_zero, List.set_cons_succ]
            have V6 := V8.on g6 S6
            refine hs_forkL (l := [1, 4]) (by kernel_rfl) (by simp) ?_
            intro ii hii
            simp only [List.mem_cons, List.not_mem_nil, or_false] at hii
            rcases hii with rfl | rfl
            · refine st_run (i := 1) (d := some 38) (v := vv) (w' := w6) rfl (by rfl) (pl_one rfl rfl V6.cp Try.underlying28 rfl) rfl trivial ?_
              simp only [Act.put, List.setIfInBounds_toArray, List.set_cons_zero, List.set_cons_succ]
              have hb7 : Below w6.heap.size w6 (w6.alloc (.cells [Value.int .i64 gx].toArray 3)) := (Below.refl _ _).alloc (Nat.le_refl _) _
              have r7 : (w6.alloc (.cells [Value.int .i64 gx].toArray 3)).rangeAt w6.heap.size 0 [Value.int .i64 gx] := by simpa using range_new w6 ([Value.int .i64 gx]).toArray 3
              refine hs_run (i := 4) (d := some 41) (v := .slice (some ⟨w6.heap.size, 0, none⟩) 1 1) (w' := w6.alloc (.cells [Value.int .i64 gx].toArray 3)) rfl (by kernel_rfl) (by rfl) (ex_bsi rfl rfl (run_bsi _ _)) rfl trivial ?_
              simp only [Act.put, List.setIfInBounds_toArray, List.set_cons_zero, List.set_cons_succ]
              obtain ⟨w7, hw7⟩ : ∃ W, w6.alloc (.cells [Value.int .i64 gx].toArray 3) = W := ⟨_, rfl⟩
              rw [hw7] at hb7 r7 ⊢
              clear hw7
              have V7 := V6.below hb7
              refine hs_runX (i := 5) (d := some 42) rfl (by kernel_rfl) (by rfl) rfl (ex_app1 rfl rfl rfl Try.underlying28 hi hiz his (by rw [hib]; decide) rfl V7.po (by have := V7.lb; omega) r7 hul hone hle hzk) ?_
              rintro v9 w9 ⟨o9, g9, gb9⟩
              refine ⟨trivial, ?_⟩
              simp only [Act.put, List.setIfInBounds_toArray, List.set_cons_zero, List.set_cons_succ]
              refine hs_take (i := 6) (d := some 43) (v := ?_) rfl (by kernel_rfl) (by kernel_rfl) (by kernel_rfl) (by rfl) ?_ hS rfl ?_
              rotate_left
              · intro w' hw
                go_simp
                try with_reducible rfl
              simp only [Act.put, List.setIfInBounds_toArray, List.set_cons_zero, List.set_cons_succ]
              obtain ⟨tb9, V9⟩ := V7.appP hok g9 o9 gb9
              have hv9 : v9.cells = #[v9] ∧ v9.oneCell' = true := own_cell o9
              refine hs_store (i := 7) (w' := w9.setCells B 36 [v9]) rfl (by kernel_rfl) (by rfl) (ex_put1 (n := 37) rfl rfl rfl tb9 (by decide) iszIs hv9.1 hv9.2) rfl trivial ?_
              refine hs_done (by kernel_rfl) ?_
              have HL6 : Hid (Lp w R B v1 v2 v3 dp wv (itR wiR s5 k).1 s6 (k2 + 1) (w9.setCells B 36 [v9])) := hide ⟨v9, by rw [E1.out]; exact V9⟩
              clear E1 HW o9 g9 gb9 tb9 hv9 V9 V7 V6 V8 r7 hb7 S6 g6 hok hle hul hone cE hS
              go_wp2_with fail
              go_roundw
              case rel => exact ⟨k2 + 1, by omega, by go_num, HL6⟩
              case measure => simp [intOf]; omega
            · have hb7 : Below w6.heap.size w6 (w6.alloc (.cells [Value.int .i64 gx].toArray 3)) := (Below.refl _ _).alloc (Nat.le_refl _) _
              have r7 : (w6.alloc (.cells [Value.int .i64 gx].toArray 3)).rangeAt w6.heap.size 0 [Value.int .i64 gx] := by simpa using range_new w6 ([Value.int .i64 gx]).toArray 3
              refine st_run (i := 4) (d := some 41) (v := .slice (some ⟨w6.heap.size, 0, none⟩) 1 1) (w' := w6.alloc (.cells [Value.int .i64 gx].toArray 3)) rfl (by rfl) (ex_bsi rfl rfl (run_bsi _ _)) rfl trivial ?_
              simp only [Act.put, List.setIfInBounds_toArray, List.set_cons_zero, List.set_cons_succ]
              obtain ⟨w7, hw7⟩ : ∃ W, w6.alloc (.cells [Value.int .i64 gx].toArray 3) = W := ⟨_, rfl⟩
              rw [hw7] at hb7 r7 ⊢
              clear hw7
              have V7 := V6.below hb7
              refine hs_run (i := 1) (d := some 38) (v := vv) (w' := w7) rfl (by kernel_rfl) (by rfl) (pl_one rfl rfl V7.cp Try.underlying28 rfl) rfl trivial ?_
              simp only [Act.put, List.setIfInBounds_toArray, List.set_cons_zero, List.set_cons_succ]
              refine hs_runX (i := 5) (d := some 42) rfl (by kernel_rfl) (by rfl) rfl (ex_app1 rfl rfl rfl Try.underlying28 hi hiz his (by rw [hib]; decide) rfl V7.po (by have := V7.lb; omega) r7 hul hone hle hzk) ?_
              rintro v9 w9 ⟨o9, g9, gb9⟩
              refine ⟨trivial, ?_⟩
              simp only [Act.put, List.setIfInBounds_toArray, List.set_cons_zero, List.set_cons_succ]
              refine hs_take (i := 6) (d := some 43) (v := ?_) rfl (by kernel_rfl) (by kernel_rfl) (by kernel_rfl) (by rfl) ?_ hS rfl ?_
              rotate_left
              · intro w' hw
                go_simp
                try with_reducible rfl
              simp only [Act.put, List.setIfInBounds_toArray, List.set_cons_zero, List.set_cons_succ]
              obtain ⟨tb9, V9⟩ := V7.appP hok g9 o9 gb9
              have hv9 : v9.cells = #[v9] ∧ v9.oneCell' = true := own_cell o9
              refine hs_store (i := 7) (w' := w9.setCells B 36 [v9]) rfl (by kernel_rfl) (by rfl) (ex_put1 (n := 37) rfl rfl rfl tb9 (by decide) iszIs hv9.1 hv9.2) rfl trivial ?_
              refine hs_done (by kernel_rfl) ?_
              have HL6 : Hid (Lp w R B v1 v2 v3 dp wv (itR wiR s5 k).1 s6 (k2 + 1) (w9.setCells B 36 [v9])) := hide ⟨v9, by rw [E1.out]; exact V9⟩
              clear E1 HW o9 g9 gb9 tb9 hv9 V9 V7 V6 V8 r7 hb7 S6 g6 hok hle hul hone cE hS
              go_wp2_with fail
              go_roundw
              case rel => exact ⟨k2 + 1, by omega, by go_num, HL6⟩
              case measure => simp [intOf]; omega
        · have k1 : ¬ ((k2 : Int) < M) := by omega
          have b1 := HB1.out
          have b2 := HB2.out
          have b3 := HB3.out
          obtain ⟨pv, HW⟩ := HP.out
          have hk2 : k2 = M := by omega
          subst hk2
          have hpl := itR_length (nuR 1048592) s6 k2
          obtain ⟨qc, hqc⟩ : ∃ q, Hid (Rq0.cells ⟨v1, v2, v3, dp, wv, pv, (itR wiR s5 k).1, (itR (nuR 1048592) s6 k2).1⟩ = q) := ⟨_, hide rfl⟩
          have rpc := HW.row
          rw [hqc.out] at rpc
          have hql : qc.length = 37 := by rw [← hqc.out]; unfold Rq0.cells; simp only [List.length_append, v8_length]; have := HW.dl; simp only at this; rw [this]; rfl
          have hqo : ∀ v ∈ qc, v.oneCell' = true := by
            rw [← hqc.out]
            unfold Rq0.cells
            intro v hv
            have e1 := (own_cell HW.wo).2
            have e2 := (own_cell HW.po).2
            simp only at e1 e2
            rcases List.mem_append.1 hv with g | g
            · simp only [List.mem_cons, List.not_mem_nil, or_false] at g
              rcases g with rfl | rfl | rfl <;> rfl
            · rcases List.mem_append.1 g with g | g
              · exact v8_one _ v g
              · simp only [List.mem_cons, List.not_mem_nil, or_false] at g
                rcases g with rfl | rfl
                · exact e1
                · exact e2
          have hip : (Try.prog.info? 30).map (·.size) = some qc.length := by rw [hql]; exact iszSt
          have hth : wr.there w.heap.size 0 qc.length := by rw [hql]; exact HW.ans
          have hlow : Below w.heap.size wr (wr.setCells w.heap.size 0 qc) := below_sets (Nat.le_refl _) qc 0 _ (Below.refl _ wr)
          have hrs := run_loadVar_mid (P := Try.prog) (wr.setCells w.heap.size 0 qc) w.heap.size 0 30 qc _ (World.rangeAt_setCells_same wr w.heap.size 0 qc hth) Try.underlying30 rfl hip
          have HF : Hid (ReadA w R (⟨v1, v2, v3, pad32 dd, (itR wiR s5 k).1, (itR (nuR 1048592) (nuR 64 (itR wiR s5 k).2).2 (nuR 64 (itR wiR s5 k).2).1.toNat).1⟩, (itR (nuR 1048592) (nuR 64 (itR wiR s5 k).2).2 (nuR 64 (itR wiR s5 k).2).1.toNat).2) (.returned (.agg qc.toArray)) (wr.setCells w.heap.size 0 qc)) := hide (by
            rw [HE6.out, hdp.out]
            simp only [Int.toNat_natCast]
            obtain ⟨x, e1, e2, e3, e4, e5, e6, e7⟩ := HW.done ⟨by show _ ≤ v1; omega, by show v1 ≤ _; omega⟩ ⟨by show _ ≤ v2; omega, by show v2 ≤ _; omega⟩ ⟨by show _ ≤ v3; omega, by show v3 ≤ _; omega⟩ (by simp only; omega) (by simp only; omega) qc hlow
            exact ⟨x, by rw [e1, hqc.out], e2, e3, e4, e5, e6, e7⟩)
          clear HW HP hlow hqc HB1 HB2 HB3 hpl hwl HE6 hdp
          go_upto_region 15 with fail
          try simp only [Act.put]
          refine pl_begin ?_
          refine pl_take (d := some 45) (v := .agg qc.toArray) (by rfl) (ex_mid rfl rfl rpc Try.underlying30 rfl hip) rfl ?_
          simp only [Act.put, List.setIfInBounds_toArray, List.set_cons_zero, List.set_cons_succ]
          refine pl_store (w' := wr.setCells w.heap.size 0 qc) (by rfl) (ex_put (cs := qc.toArray) rfl rfl rfl (by simpa using hth) (by simpa using hip) (all_one hqo)) rfl ?_
          refine pl_nil ?_
          clear rpc hth hqo hql
          go_wp2_with fail
          refine bodyPost_ret (v := .agg qc.toArray) ?_ rfl ?_
          · simp [results, Try.results16, Act.put, asAddr, hrs]
          · exact HF.out
end Go.Proofs.Ytaaifcpanflejaa
namespace Go.Proofs.Ytaaifcpanflejaa
open Go.RowKit
open Sha Tal
set_option linter.unusedVariables false
set_option linter.unusedSimpArgs false
theorem strL_byte (s : ByteArray) : ∀ z ∈ strL s, 0 ≤ z ∧ z < 256 := by
  intro z hz
  obtain ⟨b, _, rfl⟩ := List.mem_map.1 hz
  have := b.toNat_lt
  omega
/-- a string's bytes, laid anew -/
theorem bytes_of (s : ByteArray) (hs : s.size ≤ 1099511627) (w : World) : ∃ c w1, (convert 9 46 (.string s)).run Try.prog w = .ok (.slice (some ⟨w.heap.size, 0, none⟩) (strL s).length c) w1 ∧ RowAt w1 (some ⟨w.heap.size, 0, none⟩) (strL s) ∧ Below w.heap.size w w1 := by
  refine ⟨grownCap w s.size 0 5, Lib.bytesWorld w 5 s, ?_, ?_, ?_⟩
  · rw [Lib.run_convert_string_bytes w 9 46 5 s Try.underlying9 Try.underlying46 Try.underlying5, strL_length]
  · refine ⟨by rw [strL_length]; unfold maxLen; omega, strL_byte s, .inr ⟨_, _, rfl, by rw [Lib.bytesWorld_size]; omega, fun j v hv => ?_⟩⟩
    have hj : j < s.size := by
      have := (List.getElem?_eq_some_iff.1 hv).1
      rwa [v8_length, strL_length] at this
    rw [Nat.zero_add, Lib.bytesWorld_cell w 5 s j hj, ← hv]
    have hj' : j < s.data.toList.length := by simpa using hj
    simp only [v8, strL, List.map_map, List.getElem?_map, List.getElem?_eq_getElem hj', List.getD_eq_getElem?_getD, Option.getD_some, Option.map_some, Function.comp]
  · exact ⟨rfl, rfl, rfl, by rw [Lib.bytesWorld_size]; omega, fun k hk => Lib.bytesWorld_at_old w 5 s k hk⟩
/-- what Done answers -/
def doneE (rest : List Int) (e : Int) : Int := if e = 0 then (if rest.length = 0 then 0 else 12) else e
set_option maxRecDepth 100000 in
set_option maxHeartbeats 2000000 in
theorem done_any (R : Nat) (rest : List Int) (e : Int) (w : World) (h : St w R rest e) : Calls Try.prog 17 #[.pointer (some ⟨R, 0, none⟩)] w fun en w' => en = .returned (.int .i64 (doneE rest e)) ∧ w' = w := by
  have ce := err_made R e w h.1
  by_cases he : e = 0
  · subst he
    obtain ⟨a, cap, h0, _⟩ := h.2 rfl
    have cl := left_any R a rest.length cap w h0
    have E : doneE rest 0 = if rest.length = 0 then 0 else 12 := by simp [doneE]
    rw [E]
    clear E h
    by_cases hr : rest.length = 0
    · rw [if_pos hr]
      rw [hr] at cl
      clear hr h0
      go_enter Try.func17, Try.ntmps17
      go_wp2_with fail
      refine ce.mono ?_
      rintro e1 w1 ⟨rfl, hx⟩
      obtain rfl := hx.symm
      clear hx
      go_wp2_with fail
      refine cl.mono ?_
      rintro e2 w2 ⟨rfl, hx⟩
      obtain rfl := hx.symm
      clear hx
      go_wp2
      go_ret
      exact ⟨rfl, rfl⟩
    · rw [if_neg hr]
      have hr' : (0 : Int) < rest.length := by omega
      obtain ⟨n, hn⟩ : ∃ n : Int, (rest.length : Int) = n := ⟨_, rfl⟩
      rw [hn] at cl hr'
      clear hr hn h0
      go_enter Try.func17, Try.ntmps17
      go_wp2_with fail
      refine ce.mono ?_
      rintro e1 w1 ⟨rfl, hx⟩
      obtain rfl := hx.symm
      clear hx
      go_wp2_with fail
      refine cl.mono ?_
      rintro e2 w2 ⟨rfl, hx⟩
      obtain rfl := hx.symm
      clear hx
      go_wp2
      go_ret
      exact ⟨rfl, rfl⟩
  · have E : doneE rest e = e := by simp [doneE, he]
    rw [E]
    have n1 : (e != 0) = true := bne_iff_ne.2 he
    clear E h he
    go_enter Try.func17, Try.ntmps17
    go_wp2_with fail
    refine ce.mono ?_
    rintro e1 w1 ⟨rfl, hx⟩
    obtain rfl := hx.symm
    clear hx
    go_wp2
    go_ret
    exact ⟨rfl, rfl⟩
theorem results_ct {fn : Func} {p u : Tmp} {ty : TypeId} (h : fn.results = #[.cell p ty, .tmp u]) (tmps : Array Value) (P : Program) (w : World) {a : Addr} {v : Value} (ha : tmps.getD p undef = .pointer (some a)) (hv : (loadVar ty a).run P w = .ok v w) : (results fn tmps).run P w = .ok (.tuple #[v, tmps.getD u undef]) w := by
  rw [results_cell_tmp h, ha]
  simp [asAddr, hv, Result.andThen]
theorem ex_build {P : Program} {o : Oper} {a : Act} {w : World} {t : TypeId} {parts : List (Nat × Operand)} {vs : List (Nat × Value)} {v : Value} (ho : o.op = .build t parts.toArray) (hv : (parts.map fun (x : Nat × Operand) => (x.1, a.eval x.2)) = vs)
    (hr : (Instr.build t vs.toArray).run P w = .ok v w) : (execOp a.eval o).run P w = .ok (.value v) w := by
  subst hv
  have e : Array.map (fun (x : Nat × Operand) => (x.1, a.eval x.2)) parts.toArray = (parts.map fun (x : Nat × Operand) => (x.1, a.eval x.2)).toArray := by simp
  unfold execOp
  simp only [ho]
  rw [show (Instr.build t (Array.map (fun x => match x with | (i, x) => (i, a.eval x)) parts.toArray)) = Instr.build t (parts.map fun (x : Nat × Operand) => (x.1, a.eval x.2)).toArray from congrArg _ e]
  simp only [Sem.run_bind, hr, Result.andThen_ok, Sem.run_pure]
theorem ex_conv {o : Oper} {a : Act} {w w' : World} {x : Operand} {s d : TypeId} {u v : Value} (ho : o.op = .convert s d x) (hx : a.eval x = u) (hc : (convert s d u).run Try.prog w = .ok v w') : (execOp a.eval o).run Try.prog w = .ok (.value v) w' := by
  unfold execOp
  simp [ho, hx, hc]
def Sp.zero : Sp := ⟨0, 0, 0, zeros32, [], []⟩
def Stt.zero : Stt := ⟨0, 0, 0, zeros32, ⟨none, 0, []⟩, ⟨none, 0, []⟩⟩
theorem Stt.zero_ok : Stt.zero.ok := ⟨by decide, by decide, by decide, by decide, by decide, by decide, by decide, by decide⟩
theorem Stt.zero_at (w : World) : Stt.zero.At w := ⟨RowsAt.none, RowsAt.none⟩
theorem Stt.zero_lo (n : Nat) : Stt.zero.Lo n := ⟨fun b hb => (by cases hb), fun b hb => (by cases hb)⟩
def Sp.good (c : Ld.Cfg) (p : Sp) : Bool := Stt.good c ⟨p.e, p.n, p.c, p.d, ⟨none, 0, p.ws⟩, ⟨none, 0, p.ps⟩⟩
theorem Stt.good_sp (c : Ld.Cfg) (s : Stt) : s.good c = s.sp.good c := rfl
def parseS (c : Ld.Cfg) (zs : List Int) : Sp × Int := if doneE (readS (zs, 0)).2.1 (readS (zs, 0)).2.2 ≠ 0 then (Sp.zero, doneE (readS (zs, 0)).2.1 (readS (zs, 0)).2.2) else if (readS (zs, 0)).1.good c = true then ((readS (zs, 0)).1, 0) else (Sp.zero, 220)
/-- what Parse answers -/
def ParsA (w : World) (p : Sp × Int) (en : Ending) (w' : World) : Prop := ∃ x : Stt, en = .returned (.tuple #[.agg x.cells.toArray, .int .i64 p.2]) ∧ x.sp = p.1 ∧ x.ok ∧ x.At w' ∧ x.Lo w.heap.size ∧ Below w.heap.size w w'
theorem pars_out {w W : World} {A : Nat} {x : Stt} {n : Int} {p : Sp × Int} {qc : List Value} (hq : x.cells = qc) (hA : w.heap.size ≤ A) (hB : Below w.heap.size w W) (hn : n = p.2) (hp : x.sp = p.1) (ho : x.ok) (ha : x.At W) (hl : x.Lo (A + 1)) : ParsA w p (.returned (.tuple #[.agg qc.toArray, .int .i64 n])) (W.setCells A 0 qc) := by
  subst hq hn
  exact ⟨x, rfl, hp, ho, ha.put hl (Nat.lt_succ_self _), hl.mono (by omega), below_sets hA _ _ _ hB⟩
theorem build_s0 (w : World) : (Instr.build 30 #[]).run Try.prog w = .ok (.agg Stt.zero.cells.toArray) w := by kernel_rfl
theorem zeroS0 (w : World) : (zeroValue 30).run Try.prog w = .ok (.agg Stt.zero.cells.toArray) w := by kernel_rfl
set_option maxRecDepth 100000 in
set_option maxHeartbeats 2000000 in
theorem sparse_any (c : Ld.Cfg) (sb : ByteArray) (w : World) (hs : sb.size ≤ 40000) : Calls Try.prog 6 #[.agg (cfgL c).toArray, .string sb] w fun en w' => ParsA w (parseS c (strL sb)) en w' := by
  obtain ⟨zc, hz0, hzl, hz1, hzr, hbn⟩ : ∃ z : List Value, Hid (z = Stt.zero.cells) ∧ z.length = 37 ∧ (∀ v ∈ z, v.oneCell' = true) ∧ (∀ w : World, (zeroValue 30).run Try.prog w = .ok (.agg z.toArray) w) ∧ (∀ w : World, (Instr.build 30 #[]).run Try.prog w = .ok (.agg z.toArray) w) := ⟨_, hide rfl, Stt.len Stt.zero_ok, Stt.one _, zeroS0, build_s0⟩
  obtain ⟨cap, hcv⟩ : ∃ cap : World → Nat, ∀ w0, ∃ w1, (convert 9 46 (.string sb)).run Try.prog w0 = .ok (.slice (some ⟨w0.heap.size, 0, none⟩) (strL sb).length (cap w0)) w1 ∧ RowAt w1 (some ⟨w0.heap.size, 0, none⟩) (strL sb) ∧ Below w0.heap.size w0 w1 := ⟨fun w0 => (bytes_of sb (by omega) w0).choose, fun w0 => (bytes_of sb (by omega) w0).choose_spec⟩
  have hll : (strL sb).length ≤ 40000 := by rw [strL_length]; exact hs
  unfold parseS
  generalize strL sb = zs at hcv hll ⊢
  have cR := fun a cap w0 h0 => read_any a cap zs w0 h0 (by omega)
  have cK := fun R w0 h0 => sread_any R (zs, 0) w0 h0 hll
  generalize readS (zs, 0) = p at cK ⊢
  obtain ⟨sp, rest, er⟩ := p
  simp only at cK ⊢
  have cD := fun R w0 h0 => done_any R rest er w0 h0
  obtain ⟨d, hd⟩ : ∃ d, doneE rest er = d := ⟨_, rfl⟩
  rw [hd]
  simp only [hd] at cD
  clear hd
  obtain ⟨PP, hPP⟩ : ∃ P, Hid ((if d ≠ 0 then (Sp.zero, d) else if sp.good c = true then (sp, 0) else (Sp.zero, 220)) = P) := ⟨_, hide rfl⟩
  rw [hPP.out]
  obtain ⟨hB0, hr0, hs0⟩ := boxed_new w (cfgL c) 23
  have iu := iszCf c
  have cG := fun (x : Stt) w0 h0 h1 => sgood_any c x w0 h0 h1
  have cG : ∀ (x : Stt) w0 (h0 : x.ok) (h1 : x.At w0), Calls Try.prog 10 #[.agg (cfgL c).toArray, .agg x.cells.toArray] w0 fun e w' => e = .returned (.bool (x.good c)) ∧ Below w0.heap.size w0 w' := cG
  obtain ⟨u, hu⟩ : ∃ u, Hid (cfgL c = u) := ⟨_, hide rfl⟩
  rw [hu.out] at hB0 hr0 hs0 iu
  simp only [hu.out] at cG ⊢
  go_enter Try.func6, Try.ntmps6
  go_upto_region 0 with fail
  try simp only [Act.put]
  refine pl_begin ?_
  refine pl_run (d := some 2) (v := .pointer (some ⟨w.heap.size, 0, none⟩)) (w' := w.alloc (.cells u.toArray 23)) (by rfl) (ex_boxR rfl rfl) rfl ?_
  simp only [Act.put, List.setIfInBounds_toArray, List.set_cons_zero, List.set_cons_succ]
  obtain ⟨W0, hW0⟩ : ∃ W, w.alloc (.cells u.toArray 23) = W := ⟨_, rfl⟩
  rw [hW0] at hB0 hr0 hs0 ⊢
  clear hW0
  obtain ⟨hB1, -, hs1⟩ := boxed_new W0 zc 30
  have ht1 := there_newN W0 zc.toArray 30 (n := 37) (by simp [hzl])
  refine pl_run (d := some 4) (v := .pointer (some ⟨W0.heap.size, 0, none⟩)) (w' := W0.alloc (.cells zc.toArray 30)) (by rfl) (ex_alloc rfl (hzr _)) rfl ?_
  simp only [Act.put, List.setIfInBounds_toArray, List.set_cons_zero, List.set_cons_succ]
  refine pl_take (d := some 5) (v := ?_) (by rfl) ?_ rfl ?_
  rotate_left
  · go_simp
    try with_reducible rfl
  simp only [Act.put, List.setIfInBounds_toArray, List.set_cons_zero, List.set_cons_succ]
  refine pl_nil ?_
  obtain ⟨W1, hW1⟩ : ∃ W, W0.alloc (.cells zc.toArray 30) = W := ⟨_, rfl⟩
  rw [hW1] at hB1 hs1 ht1 ⊢
  clear hW1
  have hr1 := range_below hr0 hB1 hs0
  have hB := hB0.trans (hB1.mono (by omega))
  obtain ⟨A, hA⟩ : ∃ X, W0.heap.size = X := ⟨_, rfl⟩
  obtain ⟨C, hC⟩ : ∃ X, w.heap.size = X := ⟨_, rfl⟩
  rw [hA] at hs1 ht1 hs0
  rw [hC] at hs0 hr1
  simp only [hA, hC]
  obtain ⟨wa, hcw, hra, hBa⟩ := hcv W1
  go_upto_region 1 with fail
  try simp only [Act.put]
  refine pl_begin ?_
  refine pl_take (d := some 9) (v := ?_) (by rfl) ?_ rfl ?_
  rotate_left
  · go_simp
    try with_reducible rfl
  simp only [Act.put, List.setIfInBounds_toArray, List.set_cons_zero, List.set_cons_succ]
  refine pl_run (d := some 10) (v := .slice (some ⟨W1.heap.size, 0, none⟩) zs.length (cap W1)) (w' := wa) (by rfl) (ex_conv rfl rfl hcw) rfl ?_
  simp only [Act.put, List.setIfInBounds_toArray, List.set_cons_zero, List.set_cons_succ]
  refine pl_call (d := some 11) (by rfl) (by go_simp; first | done | exact ⟨rfl, rfl⟩ | with_reducible rfl) rfl ?_
  refine (cR _ _ wa hra).mono ?_
  rintro _ w2 ⟨R, rfl, hRw, S2, hb2⟩
  refine ⟨_, rfl, ?_⟩
  simp only [Act.put, List.setIfInBounds_toArray, List.set_cons_zero, List.set_cons_succ]
  refine pl_take (d := some 6) (v := ?_) (by rfl) ?_ rfl ?_
  rotate_left
  · go_simp
    try with_reducible rfl
  simp only [Act.put, List.setIfInBounds_toArray, List.set_cons_zero, List.set_cons_succ]
  refine pl_nil ?_
  have hb12 := hBa.trans (hb2.mono hBa.size)
  have hT2 := there_below ht1 hb12 hs1
  have hr2 := range_below hr1 hb12 (by omega)
  have hB2 := hB.trans (hb12.mono hB.size)
  have hs2 := Nat.lt_of_lt_of_le hs1 hb12.size
  have hRA : A < R := by have := hBa.size; omega
  have hR2 : R < w2.heap.size := S2.1.1
  clear hcv hcw hra cR hBa hb2 hb12 ht1 hr1 hB hB0 hB1 hr0
  go_upto_region 2 with fail
  try simp only [Act.put]
  refine pl_begin ?_
  refine pl_take (d := some 12) (v := ?_) (by rfl) ?_ rfl ?_
  rotate_left
  · go_simp
    try with_reducible rfl
  simp only [Act.put, List.setIfInBounds_toArray, List.set_cons_zero, List.set_cons_succ]
  refine pl_call (d := some 13) (by rfl) (by go_simp; first | done | exact ⟨rfl, rfl⟩ | with_reducible rfl) rfl ?_
  refine (cK R w2 S2).mono ?_
  rintro _ w3 ⟨x, rfl, hxp, hxo, hxa, hxl, S3, hg3⟩
  refine ⟨_, rfl, ?_⟩
  simp only [Act.put, List.setIfInBounds_toArray, List.set_cons_zero, List.set_cons_succ]
  have hql : x.cells.length = 37 := Stt.len hxo
  have hq1 := Stt.one x
  have hiq : (Try.prog.info? 30).map (·.size) = some x.cells.length := by rw [hql]; exact iszSt
  refine pl_run (d := some 7) (v := .pointer (some ⟨w3.heap.size, 0, none⟩)) (w' := w3.alloc (.cells zc.toArray 30)) (by rfl) (ex_alloc rfl (hzr _)) rfl ?_
  simp only [Act.put, List.setIfInBounds_toArray, List.set_cons_zero, List.set_cons_succ]
  refine pl_store (w' := (w3.alloc (.cells zc.toArray 30)).setCells w3.heap.size 0 x.cells) (by rfl) (ex_put (cs := x.cells.toArray) rfl rfl rfl (there_newN _ _ _ (by simp [hzl, hql])) (by simpa using hiq) (all_one hq1)) rfl ?_
  refine pl_nil ?_
  obtain ⟨r4, hF2, hF3, -⟩ := fresh_store w3 zc.toArray 30 x.cells (by simp [hzl, hql])
  have hne : (some A : Option Nat) ≠ some R := by intro q; injection q with q; omega
  have hnc : (some C : Option Nat) ≠ some R := by intro q; injection q with q; omega
  have hT3 := there_blk hT2 (hg3.block A hs2 hne)
  have hr3 := range_blk hr2 (hg3.block C (by omega) hnc)
  have hB3 : Below w.heap.size w w3 := ⟨hg3.os.trans hB2.os, hg3.tape.trans hB2.tape, hg3.output.trans hB2.output, Nat.le_trans hB2.size hg3.size, fun i hi => (hg3.block i (Nat.lt_of_lt_of_le hi hB2.size) (by intro q; injection q with q; omega)).trans (hB2.block i hi)⟩
  have hs3 : A < w3.heap.size := Nat.lt_of_lt_of_le hs2 hg3.size
  have hT4 := there_below hT3 hF2 hs3
  have hr4 := range_below hr3 hF2 (by omega)
  have hB4 := hB3.trans (hF2.mono hB3.size)
  have S4 := S3.below hF2
  have hxa4 := hxa.below hF2
  obtain ⟨X, hX⟩ : ∃ X, w3.heap.size = X := ⟨_, rfl⟩
  simp only [hX] at r4 hF3 hs3 hT4 hr4 hB4 S4 hxa4 ⊢
  obtain ⟨w4, hw4⟩ : ∃ W, (w3.alloc (.cells zc.toArray 30)).setCells X 0 x.cells = W := ⟨_, rfl⟩
  simp only [hw4] at r4 hF3 hT4 hr4 hB4 S4 hxa4 ⊢
  have hX4 : X < w4.heap.size := by omega
  have HCC : Hid (x.sp = sp ∧ x.ok ∧ x.Lo (A + 1)) := hide ⟨hxp, hxo, hxl.mono (by omega)⟩
  have hgx : x.good c = sp.good c := by rw [Stt.good_sp, hxp]
  have cg := cG x
  clear hF2 hF3 hT3 hB3 hB2 hxp hxl S3 hg3 hw4 hX hne hnc hT2 hr2 hr3 S2 hs1 hs2 hRw cK hzr cG hxa
  rw [hgx] at cg
  clear hgx
  go_upto_region 3 with fail
  try simp only [Act.put]
  refine pl_begin ?_
  refine pl_take (d := some 14) (v := ?_) (by rfl) ?_ rfl ?_
  rotate_left
  · go_simp
    try with_reducible rfl
  simp only [Act.put, List.setIfInBounds_toArray, List.set_cons_zero, List.set_cons_succ]
  refine pl_call (d := some 15) (by rfl) (by go_simp; first | done | exact ⟨rfl, rfl⟩ | with_reducible rfl) rfl ?_
  refine (cD R w4 S4).mono ?_
  rintro _ w5 ⟨rfl, hx⟩
  obtain rfl := hx.symm
  clear hx
  refine ⟨_, rfl, ?_⟩
  simp only [Act.put, List.setIfInBounds_toArray, List.set_cons_zero, List.set_cons_succ]
  refine pl_take (d := some 8) (v := ?_) (by rfl) ?_ rfl ?_
  rotate_left
  · go_simp
    try with_reducible rfl
  simp only [Act.put, List.setIfInBounds_toArray, List.set_cons_zero, List.set_cons_succ]
  refine pl_nil ?_
  clear cD S4
  go_upto_region 4 with fail
  by_cases hd : d = 0
  rotate_left
  · have hdb : (d != 0) = true := by simpa using hd
    have HP : Hid (PP = (Sp.zero, d)) := hide (by rw [← hPP.out, if_pos hd])
    clear hPP hd cg hr4 iu
    try simp only [Act.put]
    refine pl_begin ?_
    refine pl_take (d := some 16) (v := ?_) (by rfl) ?_ rfl ?_
    rotate_left
    · go_simp
      try with_reducible rfl
    simp only [Act.put, List.setIfInBounds_toArray, List.set_cons_zero, List.set_cons_succ]
    refine pl_take (d := some 17) (v := .bool true) (by rfl) (by go_simp <;> (try simp [*])) rfl ?_
    simp only [Act.put, List.setIfInBounds_toArray, List.set_cons_zero, List.set_cons_succ]
    refine pl_nil ?_
    go_upto_region 5 with fail
    try simp only [Act.put]
    refine pl_begin ?_
    refine pl_take (d := some 18) (v := .agg zc.toArray) (by rfl) (ex_build (parts := []) rfl rfl (hbn _)) rfl ?_
    simp only [Act.put, List.setIfInBounds_toArray, List.set_cons_zero, List.set_cons_succ]
    refine pl_take (d := some 19) (v := ?_) (by rfl) ?_ rfl ?_
    rotate_left
    · go_simp
      try with_reducible rfl
    simp only [Act.put, List.setIfInBounds_toArray, List.set_cons_zero, List.set_cons_succ]
    refine pl_store (w' := w4.setCells A 0 zc) (by rfl) (ex_put (cs := zc.toArray) rfl rfl rfl (by simpa [hzl] using hT4) (by simpa [hzl] using iszSt) (all_one hz1)) rfl ?_
    refine pl_take (d := some 5) (v := ?_) (by rfl) ?_ rfl ?_
    rotate_left
    · go_simp
      try with_reducible rfl
    simp only [Act.put, List.setIfInBounds_toArray, List.set_cons_zero, List.set_cons_succ]
    refine pl_nil ?_
    have hrs := run_loadVar_mid (P := Try.prog) (w4.setCells A 0 zc) A 0 30 zc _ (World.rangeAt_setCells_same w4 A 0 zc (by rw [hzl]; exact hT4)) Try.underlying30 rfl (by rw [hzl]; exact iszSt)
    have HF : Hid (ParsA w PP (.returned (.tuple #[.agg zc.toArray, .int .i64 d])) (w4.setCells A 0 zc)) := hide (by
      rw [HP.out]
      exact pars_out (x := Stt.zero) hz0.out.symm (by omega) hB4 rfl rfl Stt.zero_ok (Stt.zero_at _) (Stt.zero_lo _))
    clear r4 hB4 hT4 hX4 HCC hxa4
    go_wp2_with fail
    refine bodyPost_ret (results_ct rfl _ _ _ rfl hrs) rfl ?_
    exact HF.out
  subst hd
  have gB : sp.good c = true ∨ sp.good c = false := by cases sp.good c <;> simp
  try simp only [Act.put]
  refine pl_begin ?_
  refine pl_take (d := some 16) (v := ?_) (by rfl) ?_ rfl ?_
  rotate_left
  · go_simp
    try with_reducible rfl
  simp only [Act.put, List.setIfInBounds_toArray, List.set_cons_zero, List.set_cons_succ]
  refine pl_take (d := some 17) (v := .bool false) (by rfl) (by go_simp) rfl ?_
  simp only [Act.put, List.setIfInBounds_toArray, List.set_cons_zero, List.set_cons_succ]
  refine pl_nil ?_
  obtain ⟨q, hq⟩ : ∃ q, Hid (x.cells = q) := ⟨_, hide rfl⟩
  rw [hq.out] at r4 hql hq1 hiq
  simp only [hq.out] at cg
  go_upto_region 6 with fail
  try simp only [Act.put]
  refine pl_begin ?_
  refine pl_take (d := some 20) (v := .agg u.toArray) (by rfl) (ex_mid rfl rfl hr4 Try.underlying23 rfl iu) rfl ?_
  simp only [Act.put, List.setIfInBounds_toArray, List.set_cons_zero, List.set_cons_succ]
  refine pl_take (d := some 21) (v := .agg q.toArray) (by rfl) (ex_mid rfl rfl r4 Try.underlying30 rfl hiq) rfl ?_
  simp only [Act.put, List.setIfInBounds_toArray, List.set_cons_zero, List.set_cons_succ]
  refine pl_call (d := some 22) (by rfl) (by go_simp; first | done | exact ⟨rfl, rfl⟩ | with_reducible rfl) rfl ?_
  refine (cg w4 hxo hxa4).mono ?_
  rintro _ w5 ⟨rfl, hb5⟩
  refine ⟨_, rfl, ?_⟩
  simp only [Act.put, List.setIfInBounds_toArray, List.set_cons_zero, List.set_cons_succ]
  have hT5 := there_below hT4 hb5 (by omega)
  have hr5 := range_below r4 hb5 hX4
  have hB5 := hB4.trans (hb5.mono hB4.size)
  have hxa5 := hxa4.below hb5
  clear hT4 r4 hB4 hxa4 hb5 cg hr4
  rcases gB with gB | gB
  · have HP : Hid (PP = (sp, 0)) := hide (by rw [← hPP.out, if_neg (by simp), if_pos gB])
    refine pl_take (d := some 23) (v := .bool false) (by rfl) (by go_simp <;> (try simp [*])) rfl ?_
    simp only [Act.put, List.setIfInBounds_toArray, List.set_cons_zero, List.set_cons_succ]
    refine pl_nil ?_
    clear hPP gB
    go_upto_region 8 with fail
    try simp only [Act.put]
    refine pl_begin ?_
    refine pl_take (d := some 25) (v := .agg q.toArray) (by rfl) (ex_mid rfl rfl hr5 Try.underlying30 rfl hiq) rfl ?_
    simp only [Act.put, List.setIfInBounds_toArray, List.set_cons_zero, List.set_cons_succ]
    refine pl_store (w' := w5.setCells A 0 q) (by rfl) (ex_put (cs := q.toArray) rfl rfl rfl (by simpa [hql] using hT5) (by simpa using hiq) (all_one hq1)) rfl ?_
    refine pl_take (d := some 5) (v := ?_) (by rfl) ?_ rfl ?_
    rotate_left
    · go_simp
      try with_reducible rfl
    simp only [Act.put, List.setIfInBounds_toArray, List.set_cons_zero, List.set_cons_succ]
    refine pl_nil ?_
    have hrs := run_loadVar_mid (P := Try.prog) (w5.setCells A 0 q) A 0 30 q _ (World.rangeAt_setCells_same w5 A 0 q (by rw [hql]; exact hT5)) Try.underlying30 rfl (by rw [hql]; exact iszSt)
    have HF : Hid (ParsA w PP (.returned (.tuple #[.agg q.toArray, .int .i64 0])) (w5.setCells A 0 q)) := hide (by
      rw [HP.out]
      exact pars_out (x := x) hq.out (by omega) hB5 rfl HCC.out.1 HCC.out.2.1 hxa5 HCC.out.2.2)
    clear hr5 hB5 hT5 hX4 HCC hxa5
    go_wp2_with fail
    refine bodyPost_ret (results_ct rfl _ _ _ rfl hrs) rfl ?_
    exact HF.out
  · have HP : Hid (PP = (Sp.zero, 220)) := hide (by rw [← hPP.out, if_neg (by simp), if_neg (by rw [gB]; simp)])
    refine pl_take (d := some 23) (v := .bool true) (by rfl) (by go_simp <;> (try simp [*])) rfl ?_
    simp only [Act.put, List.setIfInBounds_toArray, List.set_cons_zero, List.set_cons_succ]
    refine pl_nil ?_
    clear hPP gB
    go_upto_region 7 with fail
    try simp only [Act.put]
    refine pl_begin ?_
    refine pl_take (d := some 24) (v := .agg zc.toArray) (by rfl) (ex_build (parts := []) rfl rfl (hbn _)) rfl ?_
    simp only [Act.put, List.setIfInBounds_toArray, List.set_cons_zero, List.set_cons_succ]
    refine pl_store (w' := w5.setCells A 0 zc) (by rfl) (ex_put (cs := zc.toArray) rfl rfl rfl (by simpa [hzl] using hT5) (by simpa [hzl] using iszSt) (all_one hz1)) rfl ?_
    refine pl_take (d := some 5) (v := ?_) (by rfl) ?_ rfl ?_
    rotate_left
    · go_simp
      try with_reducible rfl
    simp only [Act.put, List.setIfInBounds_toArray, List.set_cons_zero, List.set_cons_succ]
    refine pl_nil ?_
    have hrs := run_loadVar_mid (P := Try.prog) (w5.setCells A 0 zc) A 0 30 zc _ (World.rangeAt_setCells_same w5 A 0 zc (by rw [hzl]; exact hT5)) Try.underlying30 rfl (by rw [hzl]; exact iszSt)
    have HF : Hid (ParsA w PP (.returned (.tuple #[.agg zc.toArray, .int .i64 220])) (w5.setCells A 0 zc)) := hide (by
      rw [HP.out]
      exact pars_out (x := Stt.zero) hz0.out.symm (by omega) hB5 rfl rfl Stt.zero_ok (Stt.zero_at _) (Stt.zero_lo _))
    clear hr5 hB5 hT5 hX4 HCC hxa5
    go_wp2_with fail
    refine bodyPost_ret (results_ct rfl _ _ _ rfl hrs) rfl ?_
    exact HF.out
end Go.Proofs.Ytaaifcpanflejaa
namespace Go.Proofs.Ytaaifcpanflejaa
open Go.RowKit
open Sha Tal
set_option linter.unusedVariables false
set_option linter.unusedSimpArgs false
instance : Inhabited Stt := ⟨Stt.zero⟩
end Go.Proofs.Ytaaifcpanflejaa
namespace Go.Proofs.Ytaaifcpanflejaa
open Go.RowKit
open Sha Tal
set_option linter.unusedVariables false
set_option linter.unusedSimpArgs false
theorem results_cell {fn : Func} {p : Tmp} {ty : TypeId} (h : fn.results = #[.cell p ty]) (tmps : Array Value) (P : Program) (w : World) {a : Addr} {v : Value} (ha : tmps.getD p undef = .pointer (some a)) (hv : (loadVar ty a).run P w = .ok v w) : (results fn tmps).run P w = .ok v w := by
  have e : (results fn tmps).run P w = ((asAddr (tmps.getD p undef)).run P w).andThen fun a w₁ => (loadVar ty a).run P w₁ := by
    simp only [results, h]
    simp [Sem.run_bind, Result.andThen]
  rw [e, ha]
  simp [asAddr, hv, Result.andThen]
theorem mul32_12 (w : World) : Calls Try.prog 67 #[.int .u32 1, .int .u32 2] w fun e w' => e = .returned (.tuple #[.int .u32 0, .int .u32 2]) ∧ w' = w := by
  go_enter Try.func67, Try.ntmps67
  go_wp2
  go_ret2
  exact ⟨rfl, rfl⟩
theorem mul64_12 (w : World) : Calls Try.prog 68 #[.int .u64 1, .int .u64 2] w fun e w' => e = .returned (.tuple #[.int .u64 0, .int .u64 2]) ∧ w' = w := by
  go_enter Try.func68, Try.ntmps68
  go_wp2
  go_ret2
  exact ⟨rfl, rfl⟩
theorem mul_12 (w : World) : Calls Try.prog 54 #[.int .u64 1, .int .u64 2] w fun e w' => e = .returned (.tuple #[.int .u64 0, .int .u64 2]) ∧ w' = w := by
  have c1 := fun w0 => mul64_12 w0
  have c2 := fun w0 => mul32_12 w0
  go_enter Try.func54, Try.ntmps54
  go_wp2_with fail
  refine (c1 _).mono ?_
  rintro e w1 ⟨rfl, hx⟩
  obtain rfl := hx
  go_wp2
  go_ret2
  exact ⟨rfl, rfl⟩
def cfg0 : Ld.Cfg := ⟨4, 2, 4, 4, 2, 2, 2, 12, 1, 100⟩
theorem zeroCf (w : World) : (zeroValue 23).run Try.prog w = .ok (.agg (cfgL ⟨0, 0, 0, 0, 0, 0, 0, 0, 0, 0⟩).toArray) w := by kernel_rfl
theorem build_c0 (w : World) : (Instr.build 23 #[(0, .int .i64 4), (1, .int .i64 2), (2, .int .i64 4), (3, .int .i64 4), (4, .int .i64 2), (5, .int .i64 2), (6, .int .i64 2), (7, .int .i64 12), (8, .int .i64 1), (9, .int .i64 100)]).run Try.prog w = .ok (.agg (cfgL cfg0).toArray) w := by kernel_rfl
theorem plain_val (w : World) : Calls Try.prog 12 #[] w fun e w' => e = .returned (.agg (cfgL cfg0).toArray) ∧ Below w.heap.size w w' := by
  have hzr := zeroCf
  have hbn := build_c0
  have hl0 : (cfgL ⟨0, 0, 0, 0, 0, 0, 0, 0, 0, 0⟩).length = 10 := rfl
  have hl1 : (cfgL cfg0).length = 10 := rfl
  have iu := iszCf cfg0
  have h1 : ∀ v ∈ cfgL cfg0, v.oneCell' = true := by decide
  generalize cfgL cfg0 = u at *
  generalize cfgL ⟨0, 0, 0, 0, 0, 0, 0, 0, 0, 0⟩ = z at *
  obtain ⟨r5, hF2, hF3, hT⟩ := fresh_store w z.toArray 23 u (by simp [hl0, hl1])
  have hth := there_newN w z.toArray 23 (n := 10) (by simp [hl0])
  go_enter Try.func12, Try.ntmps12
  go_upto_region 0 with fail
  try simp only [Act.put]
  refine pl_begin ?_
  refine pl_run (d := some 0) (v := .pointer (some ⟨w.heap.size, 0, none⟩)) (w' := w.alloc (.cells z.toArray 23)) (by rfl) (ex_alloc rfl (hzr _)) rfl ?_
  simp only [Act.put, List.setIfInBounds_toArray, List.set_cons_zero, List.set_cons_succ]
  refine pl_nil ?_
  go_upto_region 1 with fail
  try simp only [Act.put]
  refine pl_begin ?_
  refine pl_take (d := some 1) (v := .agg u.toArray) (by rfl) (ex_build (parts := [(0, .const (.int .i64 4)), (1, .const (.int .i64 2)), (2, .const (.int .i64 4)), (3, .const (.int .i64 4)), (4, .const (.int .i64 2)), (5, .const (.int .i64 2)), (6, .const (.int .i64 2)), (7, .const (.int .i64 12)), (8, .const (.int .i64 1)), (9, .const (.int .i64 100))]) rfl rfl (hbn _)) rfl ?_
  simp only [Act.put, List.setIfInBounds_toArray, List.set_cons_zero, List.set_cons_succ]
  refine pl_store (w' := (w.alloc (.cells z.toArray 23)).setCells w.heap.size 0 u) (by rfl) (ex_put (cs := u.toArray) rfl rfl rfl (by simpa [hl1] using hth) (by simpa using iu) (all_one h1)) rfl ?_
  refine pl_nil ?_
  have hrs := run_loadVar_mid (P := Try.prog) _ w.heap.size 0 23 u _ r5 Try.underlying23 rfl iu
  go_wp2_with fail
  refine bodyPost_ret (results_cell rfl _ _ _ rfl hrs) rfl ?_
  exact ⟨rfl, hF2⟩
theorem wnew_val (w : World) : Calls Try.prog 33 #[] w fun e w' => e = .returned (.agg (Wd.cells ⟨1, 0⟩).toArray) ∧ Below w.heap.size w w' := by
  go_enter Try.func33, Try.ntmps33
  go_wp2_with fail
  have hrs := run_loadVar_mid (P := Try.prog) _ w.heap.size 0 57 (Wd.cells ⟨1, 0⟩) _ (range_new w #[.int .i64 1, .int .u64 0] 57) Try.underlying57 rfl iszW
  exact bodyPost_ret (v := .agg (Wd.cells ⟨1, 0⟩).toArray) (results_cell rfl _ _ _ rfl hrs) rfl ⟨rfl, (Below.refl _ _).alloc (Nat.le_refl _) _⟩
theorem run_copy_wide {P : Program} (w : World) (dT sT ty elem : TypeId) (b o dLen dCap : Nat) (a : Addr) (sLen sCap k m : Nat) (cs : List Value)
    (hu : P.underlying dT = some (.slice elem)) (hs : (P.info? elem).map (·.size) = some k) (hm : Nat.min sLen dLen = m) (hn : cs.length = m * k)
    (hsrc : ∀ j v, cs[j]? = some v → w.cell? (a.add j) = some v) (ht : w.there b o cs.length) (h1 : ∀ v ∈ cs, v.oneCell' = true) :
    (Builtin.copy_ #[dT, sT] ty #[.slice (some ⟨b, o, none⟩) dLen dCap, .slice (some a) sLen sCap]).run P w = .ok (goInt m) (w.setCells b o cs) := by
  have hl := run_loadCells_list (P := P) w a cs hsrc
  have hst := run_storeCells_cells (P := P) b o cs 0 w (by simpa using fun j hj => (ht j hj).1) (by simpa using fun j hj => (ht j hj).2) h1
  cases hq : P.info? elem with
  | none => simp [hq] at hs
  | some i =>
    have hi : i.size = k := by simpa [hq] using hs
    rw [hn] at hl
    simp [Builtin.copy_, run_underlying hu, Builtin.lenOf, Builtin.firstCells, sizeOf, typeInfo, hq, hi, hm, hl, hst]
theorem mk2w (w : World) : (Instr.makeSlice 27 (.int .i64 2) (.int .i64 2)).run Try.prog w = .ok (.slice (some ⟨w.heap.size, 0, none⟩) 2 2) (w.alloc (.cells ([.int .i64 0, .int .u64 0, .int .i64 0, .int .u64 0] : List Value).toArray 57)) := by kernel_rfl
theorem mk4i (w : World) : (Instr.makeSlice 28 (.int .i64 4) (.int .i64 4)).run Try.prog w = .ok (.slice (some ⟨w.heap.size, 0, none⟩) 4 4) (w.alloc (.cells ([.int .i64 0, .int .i64 0, .int .i64 0, .int .i64 0] : List Value).toArray 3)) := by kernel_rfl
theorem ex_mkS {P : Program} {o : Oper} {a : Act} {w w' : World} {t : TypeId} {x y : Operand} {u v r : Value} (ho : o.op = .makeSlice t x y) (hx : a.eval x = u) (hy : a.eval y = v) (hr : (Instr.makeSlice t u v).run P w = .ok r w') : (execOp a.eval o).run P w = .ok (.value r) w' := by
  unfold execOp
  simp [ho, hx, hy, hr]
def w0L : List Value := Wd.cells ⟨1, 0⟩
set_option maxRecDepth 100000 in
set_option maxHeartbeats 1000000 in
theorem repeat_val (b cap : Nat) (w : World) (hr : w.rangeAt b 0 w0L) (hb : b < w.heap.size) : Calls Try.prog 32 #[.slice (some ⟨b, 0, none⟩) 1 cap, .int .i64 2] w fun e w' => ∃ g, e = .returned (.slice (some ⟨g, 0, none⟩) 2 2) ∧ w.heap.size ≤ g ∧ g < w'.heap.size ∧ w'.rangeAt g 0 (w0L ++ w0L) ∧ Below w.heap.size w w' := by
  have hl : w0L.length = 2 := rfl
  have h1 : ∀ v ∈ w0L, v.oneCell' = true := by decide
  have hmk := mk2w w
  obtain ⟨zz, hzz, hzl⟩ : ∃ z : List Value, z = [.int .i64 0, .int .u64 0, .int .i64 0, .int .u64 0] ∧ z.length = 4 := ⟨_, rfl, rfl⟩
  rw [← hzz] at hmk
  clear hzz
  have hth := there_newN w zz.toArray 57 (n := 4) (by simp [hzl])
  have hB1 : Below w.heap.size w (w.alloc (.cells zz.toArray 57)) := (Below.refl _ _).alloc (Nat.le_refl _) _
  have hr1 := range_below hr hB1 hb
  have hs1 : w.heap.size < (w.alloc (.cells zz.toArray 57)).heap.size := by simp
  generalize w0L = u at *
  obtain ⟨G, hG⟩ : ∃ x, w.heap.size = x := ⟨_, rfl⟩
  go_enter Try.func32, Try.ntmps32
  go_upto_region 1 with fail
  try simp only [Act.put]
  refine pl_begin ?_
  refine pl_take (d := some 9) (v := ?_) (by rfl) ?_ rfl ?_
  rotate_left
  · go_simp
    try with_reducible rfl
  simp only [Act.put, List.setIfInBounds_toArray, List.set_cons_zero, List.set_cons_succ]
  refine pl_take (d := some 10) (v := .bool false) (by rfl) (by go_simp) rfl ?_
  simp only [Act.put, List.setIfInBounds_toArray, List.set_cons_zero, List.set_cons_succ]
  refine pl_nil ?_
  go_upto_region 3 with fail
  try simp only [Act.put]
  refine pl_begin ?_
  refine pl_take (d := some 13) (v := ?_) (by rfl) ?_ rfl ?_
  rotate_left
  · go_simp
    try with_reducible rfl
  simp only [Act.put, List.setIfInBounds_toArray, List.set_cons_zero, List.set_cons_succ]
  refine pl_take (d := some 14) (v := ?_) (by rfl) ?_ rfl ?_
  rotate_left
  · go_simp
    try with_reducible rfl
  simp only [Act.put, List.setIfInBounds_toArray, List.set_cons_zero, List.set_cons_succ]
  refine pl_take (d := some 15) (v := ?_) (by rfl) ?_ rfl ?_
  rotate_left
  · go_simp
    try with_reducible rfl
  simp only [Act.put, List.setIfInBounds_toArray, List.set_cons_zero, List.set_cons_succ]
  refine pl_take (d := some 16) (v := ?_) (by rfl) ?_ rfl ?_
  rotate_left
  · go_simp
    try with_reducible rfl
  simp only [Act.put, List.setIfInBounds_toArray, List.set_cons_zero, List.set_cons_succ]
  refine pl_take (d := some 17) (v := ?_) (by rfl) ?_ rfl ?_
  rotate_left
  · go_simp
    try with_reducible rfl
  simp only [Act.put, List.setIfInBounds_toArray, List.set_cons_zero, List.set_cons_succ]
  refine pl_call (d := some 18) (by rfl) (by go_simp; first | done | exact ⟨rfl, rfl⟩ | with_reducible rfl) rfl ?_
  refine (mul_12 _).mono ?_
  rintro _ w ⟨rfl, hx⟩
  obtain rfl := hx.symm
  clear hx
  refine ⟨_, rfl, ?_⟩
  simp only [Act.put, List.setIfInBounds_toArray, List.set_cons_zero, List.set_cons_succ]
  refine pl_take (d := some 12) (v := ?_) (by rfl) ?_ rfl ?_
  rotate_left
  · go_simp
    try with_reducible rfl
  simp only [Act.put, List.setIfInBounds_toArray, List.set_cons_zero, List.set_cons_succ]
  refine pl_take (d := some 19) (v := ?_) (by rfl) ?_ rfl ?_
  rotate_left
  · go_simp
    try with_reducible rfl
  simp only [Act.put, List.setIfInBounds_toArray, List.set_cons_zero, List.set_cons_succ]
  refine pl_take (d := some 20) (v := ?_) (by rfl) ?_ rfl ?_
  rotate_left
  · go_simp
    try with_reducible rfl
  simp only [Act.put, List.setIfInBounds_toArray, List.set_cons_zero, List.set_cons_succ]
  refine pl_take (d := some 5) (v := ?_) (by rfl) ?_ rfl ?_
  rotate_left
  · go_simp
    try with_reducible rfl
  simp only [Act.put, List.setIfInBounds_toArray, List.set_cons_zero, List.set_cons_succ]
  refine pl_take (d := some 6) (v := ?_) (by rfl) ?_ rfl ?_
  rotate_left
  · go_simp
    try with_reducible rfl
  simp only [Act.put, List.setIfInBounds_toArray, List.set_cons_zero, List.set_cons_succ]
  refine pl_nil ?_
  go_upto_region 4 with fail
  try simp only [Act.put]
  refine pl_begin ?_
  refine pl_take (d := some 21) (v := ?_) (by rfl) ?_ rfl ?_
  rotate_left
  · go_simp
    try with_reducible rfl
  simp only [Act.put, List.setIfInBounds_toArray, List.set_cons_zero, List.set_cons_succ]
  refine pl_take (d := some 22) (v := .bool false) (by rfl) (by go_simp) rfl ?_
  simp only [Act.put, List.setIfInBounds_toArray, List.set_cons_zero, List.set_cons_succ]
  refine pl_take (d := some 23) (v := ?_) (by rfl) ?_ rfl ?_
  rotate_left
  · go_simp
    try with_reducible rfl
  simp only [Act.put, List.setIfInBounds_toArray, List.set_cons_zero, List.set_cons_succ]
  refine pl_take (d := some 24) (v := ?_) (by rfl) ?_ rfl ?_
  rotate_left
  · go_simp
    try with_reducible rfl
  simp only [Act.put, List.setIfInBounds_toArray, List.set_cons_zero, List.set_cons_succ]
  refine pl_take (d := some 25) (v := .bool false) (by rfl) (by go_simp) rfl ?_
  simp only [Act.put, List.setIfInBounds_toArray, List.set_cons_zero, List.set_cons_succ]
  refine pl_take (d := some 26) (v := ?_) (by rfl) ?_ rfl ?_
  rotate_left
  · go_simp
    try with_reducible rfl
  simp only [Act.put, List.setIfInBounds_toArray, List.set_cons_zero, List.set_cons_succ]
  refine pl_nil ?_
  go_upto_region 6 with fail
  try simp only [Act.put]
  refine pl_begin ?_
  refine pl_take (d := some 28) (v := ?_) (by rfl) ?_ rfl ?_
  rotate_left
  · go_simp
    try with_reducible rfl
  simp only [Act.put, List.setIfInBounds_toArray, List.set_cons_zero, List.set_cons_succ]
  refine pl_take (d := some 29) (v := ?_) (by rfl) ?_ rfl ?_
  rotate_left
  · go_simp
    try with_reducible rfl
  simp only [Act.put, List.setIfInBounds_toArray, List.set_cons_zero, List.set_cons_succ]
  refine pl_run (d := some 30) (v := .slice (some ⟨w.heap.size, 0, none⟩) 2 2) (w' := w.alloc (.cells zz.toArray 57)) (by rfl) (ex_mkS rfl rfl rfl hmk) rfl ?_
  simp only [Act.put, List.setIfInBounds_toArray, List.set_cons_zero, List.set_cons_succ]
  refine pl_take (d := some 7) (v := ?_) (by rfl) ?_ rfl ?_
  rotate_left
  · go_simp
    try with_reducible rfl
  simp only [Act.put, List.setIfInBounds_toArray, List.set_cons_zero, List.set_cons_succ]
  refine pl_nil ?_
  obtain ⟨W1, hW1⟩ : ∃ W, w.alloc (.cells zz.toArray 57) = W := ⟨_, rfl⟩
  rw [hW1] at hB1 hr1 hs1 hth ⊢
  rw [hG] at hth hs1 hB1
  have hcp : (Builtin.copy_ #[27, 27] 3 #[.slice (some ⟨G, 0, none⟩) 2 2, .slice (some ⟨b, 0, none⟩) 1 cap]).run Try.prog W1 = .ok (goInt (1 : Nat)) (W1.setCells G 0 u) :=
    run_copy_wide W1 _ _ _ 57 G 0 2 2 _ 1 cap 2 1 u Try.underlying27 iszW rfl (by rw [hl]) (fun j v hv => by rw [Addr.add_mid]; exact hr1 j v hv) (there_part1 hth (by rw [hl]; decide)) h1
  simp only [hG]
  clear hW1 hmk hr
  go_upto_region 7 with fail
  try simp only [Act.put]
  refine pl_begin ?_
  refine pl_take (d := some 31) (v := ?_) (by rfl) ?_ rfl ?_
  rotate_left
  · go_simp
    try with_reducible rfl
  simp only [Act.put, List.setIfInBounds_toArray, List.set_cons_zero, List.set_cons_succ]
  refine pl_take (d := some 32) (v := ?_) (by rfl) ?_ rfl ?_
  rotate_left
  · go_simp
    try with_reducible rfl
  simp only [Act.put, List.setIfInBounds_toArray, List.set_cons_zero, List.set_cons_succ]
  refine pl_run (d := some 33) (v := goInt (1 : Nat)) (w' := W1.setCells G 0 u) (by rfl) (exec_copy rfl rfl rfl hcp) rfl ?_
  simp only [Act.put, List.setIfInBounds_toArray, List.set_cons_zero, List.set_cons_succ]
  refine pl_take (d := some 8) (v := ?_) (by rfl) ?_ rfl ?_
  rotate_left
  · go_simp
    try with_reducible rfl
  simp only [Act.put, List.setIfInBounds_toArray, List.set_cons_zero, List.set_cons_succ]
  refine pl_nil ?_
  have hr2 : (W1.setCells G 0 u).rangeAt G 0 u := World.rangeAt_setCells_same W1 G 0 u (there_part1 hth (by rw [hl]; decide))
  have hth2 : (W1.setCells G 0 u).there G 0 4 := World.there_setCells hth _ _ _
  have hB2 : Below G w (W1.setCells G 0 u) := below_sets (Nat.le_refl _) _ _ _ hB1
  have hs2 : G < (W1.setCells G 0 u).heap.size := by rw [size_sets]; exact hs1
  obtain ⟨W2, hW2⟩ : ∃ W, W1.setCells G 0 u = W := ⟨_, rfl⟩
  rw [hW2] at hr2 hth2 hB2 hs2 ⊢
  clear hW2 hcp hr1 hth hB1 hs1
  have HI : Hid (W2.rangeAt G 0 u ∧ W2.there G 0 4 ∧ Below G w W2 ∧ G < W2.heap.size) := hide ⟨hr2, hth2, hB2, hs2⟩
  clear hr2 hth2 hB2 hs2
  go_wp2_with fail
  go_loopw [8] (fun iv wr => (iv = .int .i64 1 ∧ Hid (wr.rangeAt G 0 u ∧ wr.there G 0 4 ∧ Below G w wr ∧ G < wr.heap.size)) ∨ (iv = .int .i64 2 ∧ Hid (wr.rangeAt G 0 (u ++ u) ∧ Below G w wr ∧ G < wr.heap.size))) (fun iv _ => 2 - (intOf iv).toNat)
  case atStart => exact .inl ⟨rfl, HI⟩
  case round =>
    clear HI
    rcases hrel with ⟨rfl, HI⟩ | ⟨rfl, HI⟩
    · obtain ⟨hr3, hth3, hB3, hs3⟩ := HI.out
      clear HI
      go_upto_region 9 with fail
      have r8 : wr.drew.rangeAt G 0 u := (World.rangeAt_drew _ _ _ _).2 hr3
      have t8 : wr.drew.there G 0 4 := hth3
      have b8 : Below G w wr.drew := hB3.drew
      have s8 : G < wr.drew.heap.size := hs3
      obtain ⟨w8, hw8⟩ : ∃ W, wr.drew = W := ⟨_, rfl⟩
      refine hs_begin (S := (fun _ : World => True)) 10 rfl (by kernel_rfl) ?_
      rw [hw8] at r8 t8 b8 s8 ⊢
      clear hw8 hr3 hth3 hB3 hs3
      have hS : (fun _ : World => True) w8 := trivial
      have hcp : (Builtin.copy_ #[27, 27] 3 #[.slice (some ⟨G, 2, none⟩) 1 1, .slice (some ⟨G, 0, none⟩) 1 2]).run Try.prog w8 = .ok (goInt (1 : Nat)) (w8.setCells G 2 u) :=
        run_copy_wide w8 _ _ _ 57 G 2 1 1 _ 1 2 2 1 u Try.underlying27 iszW rfl (by rw [hl]) (fun j v hv => by rw [Addr.add_mid]; exact r8 j v hv) (there_part1 t8 (by rw [hl]; decide)) h1
      refine hs_take (i := 0) (d := some 38) (v := ?_) rfl (by kernel_rfl) (by kernel_rfl) (by kernel_rfl) (by rfl) ?_ hS rfl ?_
      rotate_left
      · intro w' hw
        go_simp
        try with_reducible rfl
      simp only [Act.put, List.setIfInBounds_toArray, List.set_cons_zero, List.set_cons_succ]
      refine hs_take (i := 1) (d := some 39) (v := ?_) rfl (by kernel_rfl) (by kernel_rfl) (by kernel_rfl) (by rfl) ?_ hS rfl ?_
      rotate_left
      · intro w' hw
        go_simp
        try with_reducible rfl
      simp only [Act.put, List.setIfInBounds_toArray, List.set_cons_zero, List.set_cons_succ]
      refine hs_take (i := 2) (d := some 40) (v := ?_) rfl (by kernel_rfl) (by kernel_rfl) (by kernel_rfl) (by rfl) ?_ hS rfl ?_
      rotate_left
      · intro w' hw
        go_simp
        try with_reducible rfl
      simp only [Act.put, List.setIfInBounds_toArray, List.set_cons_zero, List.set_cons_succ]
      refine hs_take (i := 3) (d := some 41) (v := .slice (some ⟨G, 2, none⟩) 1 1) rfl (by kernel_rfl) (by kernel_rfl) (by kernel_rfl) (by rfl) (fun w' hw => by go_simp) hS rfl ?_
      simp only [Act.put, List.setIfInBounds_toArray, List.set_cons_zero, List.set_cons_succ]
      refine hs_take (i := 4) (d := some 42) (v := ?_) rfl (by kernel_rfl) (by kernel_rfl) (by kernel_rfl) (by rfl) ?_ hS rfl ?_
      rotate_left
      · intro w' hw
        go_simp
        try with_reducible rfl
      simp only [Act.put, List.setIfInBounds_toArray, List.set_cons_zero, List.set_cons_succ]
      refine hs_take (i := 5) (d := some 43) (v := ?_) rfl (by kernel_rfl) (by kernel_rfl) (by kernel_rfl) (by rfl) ?_ hS rfl ?_
      rotate_left
      · intro w' hw
        go_simp
        try with_reducible rfl
      simp only [Act.put, List.setIfInBounds_toArray, List.set_cons_zero, List.set_cons_succ]
      refine hs_take (i := 6) (d := some 44) (v := .slice (some ⟨G, 0, none⟩) 1 2) rfl (by kernel_rfl) (by kernel_rfl) (by kernel_rfl) (by rfl) (fun w' hw => by go_simp) hS rfl ?_
      simp only [Act.put, List.setIfInBounds_toArray, List.set_cons_zero, List.set_cons_succ]
      refine hs_run (i := 7) (d := some 45) (v := goInt (1 : Nat)) (w' := w8.setCells G 2 u) rfl (by kernel_rfl) (by rfl) (exec_copy rfl rfl rfl hcp) rfl trivial ?_
      simp only [Act.put, List.setIfInBounds_toArray, List.set_cons_zero, List.set_cons_succ]
      have hS : (fun _ : World => True) (w8.setCells G 2 u) := trivial
      refine hs_take (i := 8) (d := some 46) (v := ?_) rfl (by kernel_rfl) (by kernel_rfl) (by kernel_rfl) (by rfl) ?_ hS rfl ?_
      rotate_left
      · intro w' hw
        go_simp
        try with_reducible rfl
      simp only [Act.put, List.setIfInBounds_toArray, List.set_cons_zero, List.set_cons_succ]
      refine hs_take (i := 9) (d := some 8) (v := ?_) rfl (by kernel_rfl) (by kernel_rfl) (by kernel_rfl) (by rfl) ?_ hS rfl ?_
      rotate_left
      · intro w' hw
        go_simp
        try with_reducible rfl
      simp only [Act.put, List.setIfInBounds_toArray, List.set_cons_zero, List.set_cons_succ]
      refine hs_done (by kernel_rfl) ?_
      have HE : Hid ((w8.setCells G 2 u).rangeAt G 0 (u ++ u) ∧ Below G w (w8.setCells G 2 u) ∧ G < (w8.setCells G 2 u).heap.size) := hide ⟨range_join (World.rangeAt_setCells_apart r8 _ _ _ (.inr (.inl (by rw [hl]; decide)))) (by rw [hl]; exact World.rangeAt_setCells_same _ _ _ _ (there_part1 t8 (by rw [hl]; decide))), below_sets (Nat.le_refl _) _ _ _ b8, by rw [size_sets]; exact s8⟩
      clear r8 t8 b8 s8 hcp hS
      go_wp2_with fail
      go_roundw
      case rel => exact .inr ⟨by go_num, HE⟩
      case measure => first | (simp [intOf]; decide) | simp [intOf]
    · have HH := hide HI.out
      clear HI
      go_wp2_with fail
      go_ret
      obtain ⟨h2, h3, h4⟩ := HH.out
      exact ⟨G, rfl, by omega, h4, h2, by rw [hG]; exact h3⟩
end Go.Proofs.Ytaaifcpanflejaa
