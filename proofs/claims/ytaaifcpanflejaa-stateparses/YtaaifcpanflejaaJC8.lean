/- Parse (the document's); StateParses -/
import Derived.Test.YtaaifcpanflejaaJC7
import Derived.Test.YtaaifcpanflejaaJC4
namespace Go.Proofs.Ytaaifcpanflejaa
open Go.RowKit
open Sha Tal
set_option linter.unusedVariables false
set_option linter.unusedSimpArgs false
theorem below_gbX {w w3 wr : World} {X : Nat} (h : Below w.heap.size w w3) (g : w3.grownBy wr (some X)) (hx : w.heap.size ≤ X) : Below w.heap.size w wr :=
  ⟨g.os.trans h.os, g.tape.trans h.tape, g.output.trans h.output, Nat.le_trans h.size g.size, fun i hi => (g.block i (Nat.lt_of_lt_of_le hi h.size) (by intro q; injection q with q; omega)).trans (h.block i hi)⟩
def Xw (D : Nat) (w : World) (X B : Nat) (a b c : Int) (d : List Int) (t : Rs) (k : Nat) (W : World) : Prop := ∃ vv, Xb D w X B ⟨a, b, c, d, vv, .slice none 0 0, (itR wiR t k).1, []⟩ (itR wiR t k).2 W
def Xp (D : Nat) (w : World) (X B : Nat) (a b c : Int) (d : List Int) (wv : Value) (ws : List Wd) (t : Rs) (k : Nat) (W : World) : Prop := ∃ vv, Xb D w X B ⟨a, b, c, d, wv, vv, ws, (itR (nuR 1048592) t k).1⟩ (itR (nuR 1048592) t k).2 W
set_option maxRecDepth 100000 in
set_option maxHeartbeats 8000000 in
theorem xsparse_any (c : Ld.Cfg) (sb : ByteArray) (w : World) (hs : sb.size ≤ 40000) : Calls Try.prog 7 #[.agg (cfgL c).toArray, .string sb] w fun en w' => ParsA w (parseS c (strL sb)) en w' := by
  obtain ⟨zc, hz0, hzl, hz1, hzr, hbn⟩ : ∃ z : List Value, Hid (z = Stt.zero.cells) ∧ z.length = 37 ∧ (∀ v ∈ z, v.oneCell' = true) ∧ (∀ w : World, (zeroValue 30).run Try.prog w = .ok (.agg z.toArray) w) ∧ (∀ w : World, (Instr.build 30 #[]).run Try.prog w = .ok (.agg z.toArray) w) := ⟨_, hide rfl, Stt.len Stt.zero_ok, Stt.one _, zeroS0, build_s0⟩
  have hzq : zc = Rq0.cells ⟨0, 0, 0, zeros32, .slice none 0 0, .slice none 0 0, [], []⟩ := hz0.out
  obtain ⟨cap, hcv⟩ : ∃ cap : World → Nat, ∀ w0, ∃ w1, (convert 9 46 (.string sb)).run Try.prog w0 = .ok (.slice (some ⟨w0.heap.size, 0, none⟩) (strL sb).length (cap w0)) w1 ∧ RowAt w1 (some ⟨w0.heap.size, 0, none⟩) (strL sb) ∧ Below w0.heap.size w0 w1 := ⟨fun w0 => (bytes_of sb (by omega) w0).choose, fun w0 => (bytes_of sb (by omega) w0).choose_spec⟩
  have hll : (strL sb).length ≤ 40000 := by rw [strL_length]; exact hs
  have z0 : Wn.ByteL ((strL sb, 0) : Rs).2 ((strL sb, 0) : Rs).1 := fun _ => strL_byte sb
  obtain ⟨PP, hPP⟩ : ∃ P, parseS c (strL sb) = P := ⟨_, rfl⟩
  rw [hPP]
  unfold parseS at hPP
  have cRd := fun a cap w0 h0 => refRead_any a cap (strL sb) w0 h0 hll
  generalize strL sb = zs at hcv hll z0 hPP cRd
  obtain ⟨s, hs0⟩ : ∃ s : Rs, ((zs, 0) : Rs) = s := ⟨_, rfl⟩
  rw [hs0] at z0 hPP
  obtain ⟨RR, hRR⟩ : ∃ R, readS s = R := ⟨_, rfl⟩
  rw [hRR] at hPP
  have HP : Hid (PP = if doneE RR.2.1 RR.2.2 ≠ 0 then (Sp.zero, doneE RR.2.1 RR.2.2) else if RR.1.good c = true then (RR.1, 0) else (Sp.zero, 220)) := hide hPP.symm
  clear hPP
  have cRd : ∀ a cap w0, RowAt w0 a zs → Calls Try.prog 18 #[.slice a zs.length cap] w0 fun e w' => ∃ X, e = .returned (.pointer (some ⟨X, 0, none⟩)) ∧ w0.heap.size ≤ X ∧ RSt w0.heap.size w' X s.1 s.2 ∧ Below w0.heap.size w0 w' := by rw [← hs0]; exact cRd
  clear hs0
  unfold readS rdP rdM rdW rdN rdD rd3 at hRR
  have c1 := fun D X w0 h0 => xnumR D X 1048577 s w0 h0
  have b1 := nuR_bd (most := 1048577) z0 (by decide)
  have z1 := nuR_bz 1048577 z0
  generalize nuR 1048577 s = p_ at c1 b1 z1 hRR
  obtain ⟨v1, s1⟩ := p_
  simp only at c1 b1 z1 hRR
  have c2 := fun D X w0 h0 => xnumR D X 1099511627776 s1 w0 h0
  have b2 := nuR_bd (most := 1099511627776) z1 (by decide)
  have z2 := nuR_bz 1099511627776 z1
  generalize nuR 1099511627776 s1 = p_ at c2 b2 z2 hRR
  obtain ⟨v2, s2⟩ := p_
  simp only at c2 b2 z2 hRR
  have c3 := fun D X w0 h0 => xnumR D X 1099511627776 s2 w0 h0
  have b3 := nuR_bd (most := 1099511627776) z2 (by decide)
  have z3 := nuR_bz 1099511627776 z2
  generalize nuR 1099511627776 s2 = p_ at c3 b3 z3 hRR
  obtain ⟨v3, s3⟩ := p_
  simp only at c3 b3 z3 hRR
  have c4 : ∀ D X w0 h0, _ := fun D X w0 (h0 : RSt D w0 X s3.1 s3.2) => refRaw_any X s3.1 s3.2 32 w0 h0
  have f4 := rawS_32 s3.1 s3.2
  have z4 := rawS_bz 32 z3
  generalize rawS s3.1 s3.2 32 = p_ at c4 f4 z4 hRR
  obtain ⟨dd, s4⟩ := p_
  simp only at c4 f4 z4 hRR
  have c5 := fun D X w0 h0 => xnumR D X 8 s4 w0 h0
  have b5 := nuR_bd (most := 8) (s := s4) z4 (by decide)
  generalize nuR 8 s4 = p_ at c5 b5 hRR
  obtain ⟨v5, s5⟩ := p_
  simp only at c5 b5 hRR
  obtain ⟨N, rfl⟩ : ∃ N : Nat, v5 = (N : Int) := ⟨v5.toNat, by omega⟩
  have hN : N ≤ 8 := by omega
  rw [Int.toNat_natCast] at hRR
  have HRR := hide hRR
  have HB1 := hide b1
  have HB2 := hide b2
  have HB3 := hide b3
  clear z0 z1 z2 z3 z4 b5 hRR b1 b2 b3
  obtain ⟨hB0, hr0, hs0⟩ := boxed_new w (cfgL c) 23
  have iu := iszCf c
  have cG : ∀ (x : Stt) w0 (h0 : x.ok) (h1 : x.At w0), Calls Try.prog 23 #[.agg (cfgL c).toArray, .agg x.cells.toArray] w0 fun e w' => e = .returned (.bool (x.good c)) ∧ Below w0.heap.size w0 w' := fun (x : Stt) w0 h0 h1 => xsgood_any c x w0 h0 h1
  obtain ⟨u, hu⟩ : ∃ u, Hid (cfgL c = u) := ⟨_, hide rfl⟩
  rw [hu.out] at hB0 hr0 hs0 iu
  simp only [hu.out] at cG ⊢
  go_enter Try.func7, Try.ntmps7
  go_upto_region 0 with fail
  try simp only [Act.put]
  refine pl_begin ?_
  refine pl_run (d := some 2) (v := .pointer (some ⟨w.heap.size, 0, none⟩)) (w' := w.alloc (.cells u.toArray 23)) (by rfl) (ex_boxR rfl rfl) rfl ?_
  simp only [Act.put, List.setIfInBounds_toArray, List.set_cons_zero, List.set_cons_succ]
  obtain ⟨W0, hW0⟩ : ∃ W, w.alloc (.cells u.toArray 23) = W := ⟨_, rfl⟩
  rw [hW0] at hB0 hr0 hs0 ⊢
  clear hW0
  obtain ⟨hB1, -, hs1⟩ := boxed_new W0 zc 30
  have ht1 := there_newN W0 zc.toArray 30 (n := 37) (by simp [hzl])
  refine pl_run (d := some 4) (v := .pointer (some ⟨W0.heap.size, 0, none⟩)) (w' := W0.alloc (.cells zc.toArray 30)) (by rfl) (ex_alloc rfl (hzr _)) rfl ?_
  simp only [Act.put, List.setIfInBounds_toArray, List.set_cons_zero, List.set_cons_succ]
  refine pl_take (d := some 5) (v := ?_) (by rfl) ?_ rfl ?_
  rotate_left
  · go_simp
    try with_reducible rfl
  simp only [Act.put, List.setIfInBounds_toArray, List.set_cons_zero, List.set_cons_succ]
  refine pl_nil ?_
  obtain ⟨W1, hW1⟩ : ∃ W, W0.alloc (.cells zc.toArray 30) = W := ⟨_, rfl⟩
  rw [hW1] at hB1 hs1 ht1 ⊢
  clear hW1
  have hr1 := range_below hr0 hB1 hs0
  have hB := hB0.trans (hB1.mono (by omega))
  obtain ⟨A, hA⟩ : ∃ X, W0.heap.size = X := ⟨_, rfl⟩
  obtain ⟨C, hC⟩ : ∃ X, w.heap.size = X := ⟨_, rfl⟩
  rw [hA] at hs1 ht1 hs0
  rw [hC] at hs0 hr1
  have HA : Hid (w.heap.size ≤ A) := hide (by omega)
  simp only [hA, hC]
  obtain ⟨wa, hcw, hra, hBa⟩ := hcv W1
  go_upto_region 1 with fail
  try simp only [Act.put]
  refine pl_begin ?_
  refine pl_take (d := some 14) (v := ?_) (by rfl) ?_ rfl ?_
  rotate_left
  · go_simp
    try with_reducible rfl
  simp only [Act.put, List.setIfInBounds_toArray, List.set_cons_zero, List.set_cons_succ]
  refine pl_run (d := some 15) (v := .slice (some ⟨W1.heap.size, 0, none⟩) zs.length (cap W1)) (w' := wa) (by rfl) (ex_conv rfl rfl hcw) rfl ?_
  simp only [Act.put, List.setIfInBounds_toArray, List.set_cons_zero, List.set_cons_succ]
  refine pl_call (d := some 16) (by rfl) (by go_simp; first | done | exact ⟨rfl, rfl⟩ | with_reducible rfl) rfl ?_
  refine (cRd _ _ wa hra).mono ?_
  rintro _ w2 ⟨X, rfl, hXw, S2, hb2⟩
  refine ⟨_, rfl, ?_⟩
  simp only [Act.put, List.setIfInBounds_toArray, List.set_cons_zero, List.set_cons_succ]
  refine pl_take (d := some 6) (v := ?_) (by rfl) ?_ rfl ?_
  rotate_left
  · go_simp
    try with_reducible rfl
  simp only [Act.put, List.setIfInBounds_toArray, List.set_cons_zero, List.set_cons_succ]
  refine pl_nil ?_
  have hb12 := hBa.trans (hb2.mono hBa.size)
  have tA3 := there_below ht1 hb12 hs1
  have rc3 := range_below hr1 hb12 (by omega)
  have B3 := hB.trans (hb12.mono hB.size)
  have hs2 := Nat.lt_of_lt_of_le hs1 hb12.size
  have hXA : A < X := by have := hBa.size; omega
  have HXw : Hid (w.heap.size ≤ X) := hide (by omega)
  have HAs : Hid (A < w2.heap.size ∧ A ≠ X ∧ C < w2.heap.size ∧ C ≠ X) := hide ⟨hs2, by omega, by omega, by omega⟩
  obtain ⟨D, hD⟩ : ∃ D, wa.heap.size = D := ⟨_, rfl⟩
  rw [hD] at S2
  have c1 := c1 D X
  have c2 := c2 D X
  have c3 := c3 D X
  have c4 := c4 D X
  have c5 := c5 D X
  have n0 := xb_new D X s w2 S2 zc hzq
  obtain ⟨B, hBe⟩ : ∃ b, w2.heap.size = b := ⟨_, rfl⟩
  have HXB : Hid (A < B) := hide (by omega)
  clear hcv hcw hra cRd hBa hb2 hb12 ht1 hr1 hB hB0 hB1 hr0 hs1 hs2 hXw hXA hD S2 hzq hA hs0 hC hll
  go_upto_region 2 with fail
  try simp only [Act.put]
  refine pl_begin ?_
  refine pl_run (d := some 7) (v := .pointer (some ⟨w2.heap.size, 0, none⟩)) (w' := w2.alloc (.cells zc.toArray 30)) (by rfl) (ex_alloc rfl (hzr _)) rfl ?_
  simp only [Act.put, List.setIfInBounds_toArray, List.set_cons_zero, List.set_cons_succ]
  refine pl_nil ?_
  obtain ⟨W3, hW3⟩ : ∃ W, w2.alloc (.cells zc.toArray 30) = W := ⟨_, rfl⟩
  rw [hW3, hBe] at n0
  rw [hW3]
  simp only [hBe]
  clear hW3 hBe hzr
  go_upto_region 3 with fail
  try simp only [Act.put]
  refine pl_begin ?_
  refine pl_take (d := some 17) (v := ?_) (by rfl) ?_ rfl ?_
  rotate_left
  · go_simp
    try with_reducible rfl
  simp only [Act.put, List.setIfInBounds_toArray, List.set_cons_zero, List.set_cons_succ]
  refine pl_call (d := some 18) (by rfl) (by go_simp; first | done | exact ⟨rfl, rfl⟩ | with_reducible rfl) rfl ?_
  refine (c1 _ n0.st).mono ?_
  rintro _ n1w ⟨rfl, n1s, n1g⟩
  refine ⟨_, rfl, ?_⟩
  simp only [Act.put, List.setIfInBounds_toArray, List.set_cons_zero, List.set_cons_succ]
  refine pl_take (d := some 19) (v := ?_) (by rfl) ?_ rfl ?_
  rotate_left
  · go_simp
    try with_reducible rfl
  simp only [Act.put, List.setIfInBounds_toArray, List.set_cons_zero, List.set_cons_succ]
  have n1 := (n0.on n1g n1s).setE v1
  have n1t := (n0.on n1g n1s).box
  refine pl_store (w' := n1w.setCells B 0 [.int .i64 v1]) (by rfl) (ex_put1 (n := 37) rfl rfl rfl n1t (by decide) iszI rfl rfl) rfl ?_
  refine pl_nil ?_
  obtain ⟨n1v, hn1⟩ : ∃ W, n1w.setCells B 0 [.int .i64 v1] = W := ⟨_, rfl⟩
  rw [hn1] at n1 ⊢
  clear hn1 n1s n1g n1t n0 c1
  go_upto_region 4 with fail
  try simp only [Act.put]
  refine pl_begin ?_
  refine pl_take (d := some 20) (v := ?_) (by rfl) ?_ rfl ?_
  rotate_left
  · go_simp
    try with_reducible rfl
  simp only [Act.put, List.setIfInBounds_toArray, List.set_cons_zero, List.set_cons_succ]
  refine pl_call (d := some 21) (by rfl) (by go_simp; first | done | exact ⟨rfl, rfl⟩ | with_reducible rfl) rfl ?_
  refine (c2 _ n1.st).mono ?_
  rintro _ n2w ⟨rfl, n2s, n2g⟩
  refine ⟨_, rfl, ?_⟩
  simp only [Act.put, List.setIfInBounds_toArray, List.set_cons_zero, List.set_cons_succ]
  refine pl_take (d := some 22) (v := ?_) (by rfl) ?_ rfl ?_
  rotate_left
  · go_simp
    try with_reducible rfl
  simp only [Act.put, List.setIfInBounds_toArray, List.set_cons_zero, List.set_cons_succ]
  have n2 := (n1.on n2g n2s).setN v2
  have n2t := (n1.on n2g n2s).box
  refine pl_store (w' := n2w.setCells B 1 [.int .i64 v2]) (by rfl) (ex_put1 (n := 37) rfl rfl rfl n2t (by decide) iszI rfl rfl) rfl ?_
  refine pl_nil ?_
  obtain ⟨n2v, hn2⟩ : ∃ W, n2w.setCells B 1 [.int .i64 v2] = W := ⟨_, rfl⟩
  rw [hn2] at n2 ⊢
  clear hn2 n2s n2g n2t n1 c2
  go_upto_region 5 with fail
  try simp only [Act.put]
  refine pl_begin ?_
  refine pl_take (d := some 23) (v := ?_) (by rfl) ?_ rfl ?_
  rotate_left
  · go_simp
    try with_reducible rfl
  simp only [Act.put, List.setIfInBounds_toArray, List.set_cons_zero, List.set_cons_succ]
  refine pl_call (d := some 24) (by rfl) (by go_simp; first | done | exact ⟨rfl, rfl⟩ | with_reducible rfl) rfl ?_
  refine (c3 _ n2.st).mono ?_
  rintro _ n3w ⟨rfl, n3s, n3g⟩
  refine ⟨_, rfl, ?_⟩
  simp only [Act.put, List.setIfInBounds_toArray, List.set_cons_zero, List.set_cons_succ]
  refine pl_take (d := some 25) (v := ?_) (by rfl) ?_ rfl ?_
  rotate_left
  · go_simp
    try with_reducible rfl
  simp only [Act.put, List.setIfInBounds_toArray, List.set_cons_zero, List.set_cons_succ]
  have n3 := (n2.on n3g n3s).setC v3
  have n3t := (n2.on n3g n3s).box
  refine pl_store (w' := n3w.setCells B 2 [.int .i64 v3]) (by rfl) (ex_put1 (n := 37) rfl rfl rfl n3t (by decide) iszI rfl rfl) rfl ?_
  refine pl_nil ?_
  obtain ⟨n3v, hn3⟩ : ∃ W, n3w.setCells B 2 [.int .i64 v3] = W := ⟨_, rfl⟩
  rw [hn3] at n3 ⊢
  clear hn3 n3s n3g n3t n2 c3
  have n3 : Xb D w2 X B ⟨v1, v2, v3, padk dd 0, .slice none 0 0, .slice none 0 0, [], []⟩ s3 n3v := by rw [padk_zero]; exact n3
  go_upto_region 6 with fail
  try simp only [Act.put]
  refine pl_begin ?_
  refine pl_take (d := some 26) (v := ?_) (by rfl) ?_ rfl ?_
  rotate_left
  · go_simp
    try with_reducible rfl
  simp only [Act.put, List.setIfInBounds_toArray, List.set_cons_zero, List.set_cons_succ]
  refine pl_call (d := some 27) (by rfl) (by go_simp; first | done | exact ⟨rfl, rfl⟩ | with_reducible rfl) rfl ?_
  refine (c4 n3v n3.st).mono ?_
  rintro _ w9 ⟨v9, rfl, m9, s9, g9⟩
  refine ⟨_, rfl, ?_⟩
  simp only [Act.put, List.setIfInBounds_toArray, List.set_cons_zero, List.set_cons_succ]
  refine pl_take (d := some 8) (v := ?_) (by rfl) ?_ rfl ?_
  rotate_left
  · go_simp
    try with_reducible rfl
  simp only [Act.put, List.setIfInBounds_toArray, List.set_cons_zero, List.set_cons_succ]
  refine pl_nil ?_
  have n4 := n3.on (s' := s4) g9 s9
  obtain ⟨a9, cap9, rfl, _, _, row9⟩ := m9.rowAt (by unfold maxLen; rcases f4 with q | q <;> (first | omega | (rw [q]; decide)))
  have a9B : ∀ x, a9 = some x → x.block ≠ B := fun x hx => by
    subst hx
    have := (m9.1.lt x.block rfl).1
    have := n3.lb
    omega
  have hdl : dd.length ≤ 32 := by rcases f4 with q | q <;> (first | omega | (rw [q]; simp))
  clear c4 n3 s9 g9 m9
  go_upto_region 7 with fail
  try simp only [Act.put]
  refine pl_begin ?_
  refine pl_take (d := some 9) (v := ?_) (by rfl) ?_ rfl ?_
  rotate_left
  · go_simp
    try with_reducible rfl
  simp only [Act.put, List.setIfInBounds_toArray, List.set_cons_zero, List.set_cons_succ]
  refine pl_nil ?_
  have HD0 : Hid (Xb D w2 X B ⟨v1, v2, v3, padk dd 0, .slice none 0 0, .slice none 0 0, [], []⟩ s4 w9 ∧ RowAt w9 a9 dd) := hide ⟨n4, row9⟩
  clear n4 row9
  go_wp2_with fail
  go_loopw [9] (fun iv wr => ∃ k : Nat, k ≤ dd.length ∧ iv = .int .i64 (k : Int) ∧ Hid (Xb D w2 X B ⟨v1, v2, v3, padk dd k, .slice none 0 0, .slice none 0 0, [], []⟩ s4 wr ∧ RowAt wr a9 dd)) (fun iv _ => dd.length - (intOf iv).toNat)
  case atStart => exact ⟨0, by omega, rfl, HD0⟩
  case round =>
    clear HD0
    obtain ⟨k, hk, rfl, HD⟩ := hrel
    by_cases hlt : k < dd.length
    · have k1 : (k : Int) < dd.length := by omega
      have k32 : k < 32 := by omega
      have k32' : (k : Int) < 32 := by omega
      obtain ⟨hx, hrow⟩ := HD.out
      obtain ⟨b, off, hab, hbl, hcell, hz0', hz1'⟩ := hrow.get k hlt
      have hgd : dd.getD k 0 = dd[k] := by rw [List.getD_eq_getElem?_getD, List.getElem?_eq_getElem hlt]; rfl
      rw [hgd] at hcell hz0' hz1'
      have hx2 := hx.byte k32 hlt ⟨hz0', hz1'⟩
      have hrow2 : RowAt (wr.setCells B (3 + k) [.int .u8 dd[k]]) a9 dd := hrow.put a9B
      have HD2 : Hid (Xb D w2 X B ⟨v1, v2, v3, padk dd (k + 1), .slice none 0 0, .slice none 0 0, [], []⟩ s4 (wr.setCells B (3 + k) [.int .u8 dd[k]]) ∧ RowAt (wr.setCells B (3 + k) [.int .u8 dd[k]]) a9 dd) := hide ⟨hx2, hrow2⟩
      have htb := hx.box
      clear hx hrow hx2 hrow2 HD hgd
      obtain ⟨z, hz⟩ : ∃ z, dd[k] = z := ⟨_, rfl⟩
      rw [hz] at hcell HD2
      clear hz hz0' hz1'
      rw [hab] at HD2 ⊢
      clear hab
      go_upto_region 10 with fail
      try simp only [Act.put]
      refine pl_begin ?_
      refine pl_take (d := some 34) (v := ?_) (by rfl) ?_ rfl ?_
      rotate_left
      · go_simp
        try with_reducible rfl
      simp only [Act.put, List.setIfInBounds_toArray, List.set_cons_zero, List.set_cons_succ]
      refine pl_take (d := some 35) (v := ?_) (by rfl) ?_ rfl ?_
      rotate_left
      · go_simp
        try with_reducible rfl
      simp only [Act.put, List.setIfInBounds_toArray, List.set_cons_zero, List.set_cons_succ]
      refine pl_take (d := some 36) (v := ?_) (by rfl) ?_ rfl ?_
      rotate_left
      · go_simp
        try with_reducible rfl
      simp only [Act.put, List.setIfInBounds_toArray, List.set_cons_zero, List.set_cons_succ]
      refine pl_take (d := some 37) (v := .pointer (some ⟨b, off + k, none⟩)) (by rfl) (by go_simp) rfl ?_
      simp only [Act.put, List.setIfInBounds_toArray, List.set_cons_zero, List.set_cons_succ]
      refine pl_take (d := some 38) (v := .int .u8 z) (by rfl) (pl_one rfl rfl hcell Try.underlying5 rfl) rfl ?_
      simp only [Act.put, List.setIfInBounds_toArray, List.set_cons_zero, List.set_cons_succ]
      refine pl_take (d := some 39) (v := ?_) (by rfl) ?_ rfl ?_
      rotate_left
      · go_simp
        try with_reducible rfl
      simp only [Act.put, List.setIfInBounds_toArray, List.set_cons_zero, List.set_cons_succ]
      refine pl_take (d := some 40) (v := .pointer (some ⟨B, 3 + k, none⟩)) (by rfl) (by go_simp) rfl ?_
      simp only [Act.put, List.setIfInBounds_toArray, List.set_cons_zero, List.set_cons_succ]
      refine pl_store (w' := wr.setCells B (3 + k) [.int .u8 z]) (by rfl) (ex_put1 (n := 37) rfl rfl rfl htb (by omega) isz8 rfl rfl) rfl ?_
      refine pl_nil ?_
      clear hcell htb hbl
      go_wp2_with fail
      go_roundw
      case rel => exact ⟨k + 1, by omega, by go_num, HD2⟩
      case measure => simp [intOf]; omega
    · obtain rfl : k = dd.length := by omega
      have k1 : ¬ ((dd.length : Int) < dd.length) := by omega
      obtain ⟨hx, -⟩ := HD.out
      rw [padk_all f4] at hx
      have hd32 := pad32_len dd
      obtain ⟨dp, hdp⟩ : ∃ x, pad32 dd = x := ⟨_, rfl⟩
      have HRR1' := HRR.out
      rw [hdp] at hx
      clear HD hlt hk hd32 HRR1'
      go_upto_region 11 with fail
      try simp only [Act.put]
      refine pl_begin ?_
      refine pl_take (d := some 41) (v := ?_) (by rfl) ?_ rfl ?_
      rotate_left
      · go_simp
        try with_reducible rfl
      simp only [Act.put, List.setIfInBounds_toArray, List.set_cons_zero, List.set_cons_succ]
      refine pl_call (d := some 42) (by rfl) (by go_simp; first | done | exact ⟨rfl, rfl⟩ | with_reducible rfl) rfl ?_
      refine (c5 _ hx.st).mono ?_
      rintro _ w11 ⟨rfl, s11, g11⟩
      refine ⟨_, rfl, ?_⟩
      simp only [Act.put, List.setIfInBounds_toArray, List.set_cons_zero, List.set_cons_succ]
      refine pl_take (d := some 10) (v := ?_) (by rfl) ?_ rfl ?_
      rotate_left
      · go_simp
        try with_reducible rfl
      simp only [Act.put, List.setIfInBounds_toArray, List.set_cons_zero, List.set_cons_succ]
      refine pl_nil ?_
      have HL0 : Hid (Xw D w2 X B v1 v2 v3 dp s5 0 w11) := hide ⟨_, hx.on g11 s11⟩
      have Hdp := hide hdp
      clear hx s11 g11 c5 k1 hdp
      go_upto_region 12 with fail
      try simp only [Act.put]
      refine pl_begin ?_
      refine pl_take (d := some 11) (v := ?_) (by rfl) ?_ rfl ?_
      rotate_left
      · go_simp
        try with_reducible rfl
      simp only [Act.put, List.setIfInBounds_toArray, List.set_cons_zero, List.set_cons_succ]
      refine pl_nil ?_
      go_wp2_with fail
      go_loopw [11] (fun iv wr => ∃ k : Nat, k ≤ N ∧ iv = .int .i64 (k : Int) ∧ Hid (Xw D w2 X B v1 v2 v3 dp s5 k wr)) (fun iv _ => N - (intOf iv).toNat)
      case atStart => exact ⟨0, by omega, rfl, HL0⟩
      case round =>
        clear HL0
        obtain ⟨k, hk, rfl, HL⟩ := hrel
        obtain ⟨vv, HV⟩ := HL.out
        clear HL
        have hce := Wn.RSt.cell2 HV.st
        by_cases hlt : k < N
        · have k1 : (k : Int) < N := by omega
          by_cases hee : (itR wiR s5 k).2.2 = 0
          · rw [hee] at hce
            obtain ⟨i1, hi, hiz, his, hib⟩ := info_parts infoWn
            have hzk : (Value.agg #[.int .i64 0, .int .u64 0]).cells.size = 2 := rfl
            have hle : (itR wiR s5 k).1.length ≤ 1000 := by rw [itR_length]; omega
            have cE := fun w0 h0 => xwinR D X (itR wiR s5 k).2 w0 h0
            have hok := wiR_ok (itR wiR s5 k).2
            have E1 : Hid (itR wiR s5 (k + 1) = ((itR wiR s5 k).1 ++ [(wiR (itR wiR s5 k).2).1], (wiR (itR wiR s5 k).2).2)) := hide rfl
            generalize wiR (itR wiR s5 k).2 = p_ at cE hok E1
            obtain ⟨gx, sx⟩ := p_
            simp only at cE hok E1
            have hul : gx.cells.length = 2 := rfl
            have hone := WdE.one gx
            clear hee
            go_upto_region 13 with fail
            try simp only [Act.put]
            refine pl_begin ?_
            refine pl_take (d := some 43) (v := ?_) (by rfl) ?_ rfl ?_
            rotate_left
            · go_simp
              try with_reducible rfl
            simp only [Act.put, List.setIfInBounds_toArray, List.set_cons_zero, List.set_cons_succ]
            refine pl_take (d := some 44) (v := ?_) (by rfl) ?_ rfl ?_
            rotate_left
            · go_simp
              try with_reducible rfl
            simp only [Act.put, List.setIfInBounds_toArray, List.set_cons_zero, List.set_cons_succ]
            refine pl_take (d := some 45) (v := .bool true) (by rfl) (by go_simp <;> (try simp) <;> (try omega)) rfl ?_
            simp only [Act.put, List.setIfInBounds_toArray, List.set_cons_zero, List.set_cons_succ]
            refine pl_take (d := some 46) (v := ?_) (by rfl) ?_ rfl ?_
            rotate_left
            · go_simp
              try with_reducible rfl
            simp only [Act.put, List.setIfInBounds_toArray, List.set_cons_zero, List.set_cons_succ]
            refine pl_take (d := some 47) (v := ?_) (by rfl) ?_ rfl ?_
            rotate_left
            · go_simp
              try with_reducible rfl
            simp only [Act.put, List.setIfInBounds_toArray, List.set_cons_zero, List.set_cons_succ]
            refine pl_take (d := some 48) (v := ?_) (by rfl) ?_ rfl ?_
            rotate_left
            · go_simp
              try with_reducible rfl
            simp only [Act.put, List.setIfInBounds_toArray, List.set_cons_zero, List.set_cons_succ]
            refine pl_take (d := some 49) (v := ?_) (by rfl) ?_ rfl ?_
            rotate_left
            · go_simp
              try with_reducible rfl
            simp only [Act.put, List.setIfInBounds_toArray, List.set_cons_zero, List.set_cons_succ]
            refine pl_take (d := some 50) (v := .int .i64 0) (by rfl) (pl_one rfl rfl hce Try.underlying3 rfl) rfl ?_
            simp only [Act.put, List.setIfInBounds_toArray, List.set_cons_zero, List.set_cons_succ]
            refine pl_take (d := some 51) (v := .bool true) (by rfl) (by go_simp <;> (try simp [hee])) rfl ?_
            simp only [Act.put, List.setIfInBounds_toArray, List.set_cons_zero, List.set_cons_succ]
            refine pl_take (d := some 52) (v := ?_) (by rfl) ?_ rfl ?_
            rotate_left
            · go_simp
              try with_reducible rfl
            simp only [Act.put, List.setIfInBounds_toArray, List.set_cons_zero, List.set_cons_succ]
            refine pl_nil ?_
            clear hce
            go_upto_region 15 with fail
            have V8 := HV.below ((Below.refl _ _).drew)
            refine hs_begin (S := (fun _ : World => True)) 8 rfl (by kernel_rfl) ?_
            obtain ⟨w8, hw8⟩ : ∃ W, wr.drew = W := ⟨_, rfl⟩
            rw [hw8] at V8 ⊢
            clear hw8
            have hS : (fun _ : World => True) w8 := trivial
            refine hs_take (i := 0) (d := some 55) (v := ?_) rfl (by kernel_rfl) (by kernel_rfl) (by kernel_rfl) (by rfl) ?_ hS rfl ?_
            rotate_left
            · intro w' hw
              go_simp
              try with_reducible rfl
            simp only [Act.put, List.setIfInBounds_toArray, List.set_cons_zero, List.set_cons_succ]
            refine hs_take (i := 2) (d := some 57) (v := ?_) rfl (by kernel_rfl) (by kernel_rfl) (by kernel_rfl) (by rfl) ?_ hS rfl ?_
            rotate_left
            · intro w' hw
              go_simp
              try with_reducible rfl
            simp only [Act.put, List.setIfInBounds_toArray, List.set_cons_zero, List.set_cons_succ]
            refine hs_forkL (l := [1, 3]) (by kernel_rfl) (by simp) ?_
            intro ii hii
            simp only [List.mem_cons, List.not_mem_nil, or_false] at hii
            rcases hii with rfl | rfl
            · refine st_run (i := 1) (d := some 56) (v := vv) (w' := w8) rfl (by rfl) (pl_one rfl rfl V8.cw Try.underlying27 rfl) rfl trivial ?_
              simp only [Act.put, List.setIfInBounds_toArray, List.set_cons_zero, List.set_cons_succ]
              refine hs_call (i := 3) (d := some 58) rfl (by kernel_rfl) (by rfl) (by go_simp; first | done | exact ⟨rfl, rfl⟩ | with_reducible rfl) rfl ?_
              refine (cE w8 V8.st).mono ?_
              rintro _ w6 ⟨rfl, S6, g6⟩
              refine ⟨_, rfl, trivial, ?_⟩
              simp only [Act.put, List.setIfInBounds_toArray, List.set_cons_zero, List.set_cons_succ]
              have V6 := V8.on g6 S6
              have hb7 : Below w6.heap.size w6 (w6.alloc (.cells gx.cells.toArray 57)) := (Below.refl _ _).alloc (Nat.le_refl _) _
              have r7 : (w6.alloc (.cells gx.cells.toArray 57)).rangeAt w6.heap.size 0 gx.cells := by simpa using range_new w6 (gx.cells).toArray 57
              refine hs_run (i := 4) (d := some 59) (v := .slice (some ⟨w6.heap.size, 0, none⟩) 1 1) (w' := w6.alloc (.cells gx.cells.toArray 57)) rfl (by kernel_rfl) (by rfl) (ex_bsi rfl rfl (run_bsw _ _)) rfl trivial ?_
              simp only [Act.put, List.setIfInBounds_toArray, List.set_cons_zero, List.set_cons_succ]
              obtain ⟨w7, hw7⟩ : ∃ W, w6.alloc (.cells gx.cells.toArray 57) = W := ⟨_, rfl⟩
              rw [hw7] at hb7 r7 ⊢
              clear hw7
              have V7 := V6.below hb7
              refine hs_runX (i := 5) (d := some 60) rfl (by kernel_rfl) (by rfl) rfl (ex_app1 rfl rfl rfl Try.underlying27 hi hiz his (by rw [hib]; decide) rfl V7.wo (by have := V7.lb; omega) r7 hul hone hle hzk) ?_
              rintro v9 w9 ⟨o9, g9, gb9⟩
              refine ⟨trivial, ?_⟩
              simp only [Act.put, List.setIfInBounds_toArray, List.set_cons_zero, List.set_cons_succ]
              refine hs_take (i := 6) (d := some 61) (v := ?_) rfl (by kernel_rfl) (by kernel_rfl) (by kernel_rfl) (by rfl) ?_ hS rfl ?_
              rotate_left
              · intro w' hw
                go_simp
                try with_reducible rfl
              simp only [Act.put, List.setIfInBounds_toArray, List.set_cons_zero, List.set_cons_succ]
              obtain ⟨tb9, V9⟩ := V7.appW hok g9 o9 gb9
              have hv9 : v9.cells = #[v9] ∧ v9.oneCell' = true := own_cell o9
              refine hs_store (i := 7) (w' := w9.setCells B 35 [v9]) rfl (by kernel_rfl) (by rfl) (ex_put1 (n := 37) rfl rfl rfl tb9 (by decide) iszWs hv9.1 hv9.2) rfl trivial ?_
              refine hs_done (by kernel_rfl) ?_
              have HL6 : Hid (Xw D w2 X B v1 v2 v3 dp s5 (k + 1) (w9.setCells B 35 [v9])) := hide ⟨v9, by rw [E1.out]; exact V9⟩
              clear E1 HV o9 g9 gb9 tb9 hv9 V9 V7 V6 V8 r7 hb7 S6 g6 hok hle hul hone cE hS
              go_wp2_with fail
              go_roundw
              case rel => exact ⟨k + 1, by omega, by go_num, HL6⟩
              case measure => simp [intOf]; omega
            · refine st_call (i := 3) (d := some 58) rfl (by rfl) (by go_simp; first | done | exact ⟨rfl, rfl⟩ | with_reducible rfl) rfl ?_
              refine (cE w8 V8.st).mono ?_
              rintro _ w6 ⟨rfl, S6, g6⟩
              refine ⟨_, rfl, trivial, ?_⟩
              simp only [Act.put, List.setIfInBounds_toArray, List.set_cons_zero, List.set_cons_succ]
              have V6 := V8.on g6 S6
              refine hs_forkL (l := [1, 4]) (by kernel_rfl) (by simp) ?_
              intro ii hii
              simp only [List.mem_cons, List.not_mem_nil, or_false] at hii
              rcases hii with rfl | rfl
              · refine st_run (i := 1) (d := some 56) (v := vv) (w' := w6) rfl (by rfl) (pl_one rfl rfl V6.cw Try.underlying27 rfl) rfl trivial ?_
                simp only [Act.put, List.setIfInBounds_toArray, List.set_cons_zero, List.set_cons_succ]
                have hb7 : Below w6.heap.size w6 (w6.alloc (.cells gx.cells.toArray 57)) := (Below.refl _ _).alloc (Nat.le_refl _) _
                have r7 : (w6.alloc (.cells gx.cells.toArray 57)).rangeAt w6.heap.size 0 gx.cells := by simpa using range_new w6 (gx.cells).toArray 57
                refine hs_run (i := 4) (d := some 59) (v := .slice (some ⟨w6.heap.size, 0, none⟩) 1 1) (w' := w6.alloc (.cells gx.cells.toArray 57)) rfl (by kernel_rfl) (by rfl) (ex_bsi rfl rfl (run_bsw _ _)) rfl trivial ?_
                simp only [Act.put, List.setIfInBounds_toArray, List.set_cons_zero, List.set_cons_succ]
                obtain ⟨w7, hw7⟩ : ∃ W, w6.alloc (.cells gx.cells.toArray 57) = W := ⟨_, rfl⟩
                rw [hw7] at hb7 r7 ⊢
                clear hw7
                have V7 := V6.below hb7
                refine hs_runX (i := 5) (d := some 60) rfl (by kernel_rfl) (by rfl) rfl (ex_app1 rfl rfl rfl Try.underlying27 hi hiz his (by rw [hib]; decide) rfl V7.wo (by have := V7.lb; omega) r7 hul hone hle hzk) ?_
                rintro v9 w9 ⟨o9, g9, gb9⟩
                refine ⟨trivial, ?_⟩
                simp only [Act.put, List.setIfInBounds_toArray, List.set_cons_zero, List.set_cons_succ]
                refine hs_take (i := 6) (d := some 61) (v := ?_) rfl (by kernel_rfl) (by kernel_rfl) (by kernel_rfl) (by rfl) ?_ hS rfl ?_
                rotate_left
                · intro w' hw
                  go_simp
                  try with_reducible rfl
                simp only [Act.put, List.setIfInBounds_toArray, List.set_cons_zero, List.set_cons_succ]
                obtain ⟨tb9, V9⟩ := V7.appW hok g9 o9 gb9
                have hv9 : v9.cells = #[v9] ∧ v9.oneCell' = true := own_cell o9
                refine hs_store (i := 7) (w' := w9.setCells B 35 [v9]) rfl (by kernel_rfl) (by rfl) (ex_put1 (n := 37) rfl rfl rfl tb9 (by decide) iszWs hv9.1 hv9.2) rfl trivial ?_
                refine hs_done (by kernel_rfl) ?_
                have HL6 : Hid (Xw D w2 X B v1 v2 v3 dp s5 (k + 1) (w9.setCells B 35 [v9])) := hide ⟨v9, by rw [E1.out]; exact V9⟩
                clear E1 HV o9 g9 gb9 tb9 hv9 V9 V7 V6 V8 r7 hb7 S6 g6 hok hle hul hone cE hS
                go_wp2_with fail
                go_roundw
                case rel => exact ⟨k + 1, by omega, by go_num, HL6⟩
                case measure => simp [intOf]; omega
              · have hb7 : Below w6.heap.size w6 (w6.alloc (.cells gx.cells.toArray 57)) := (Below.refl _ _).alloc (Nat.le_refl _) _
                have r7 : (w6.alloc (.cells gx.cells.toArray 57)).rangeAt w6.heap.size 0 gx.cells := by simpa using range_new w6 (gx.cells).toArray 57
                refine st_run (i := 4) (d := some 59) (v := .slice (some ⟨w6.heap.size, 0, none⟩) 1 1) (w' := w6.alloc (.cells gx.cells.toArray 57)) rfl (by rfl) (ex_bsi rfl rfl (run_bsw _ _)) rfl trivial ?_
                simp only [Act.put, List.setIfInBounds_toArray, List.set_cons_zero, List.set_cons_succ]
                obtain ⟨w7, hw7⟩ : ∃ W, w6.alloc (.cells gx.cells.toArray 57) = W := ⟨_, rfl⟩
                rw [hw7] at hb7 r7 ⊢
                clear hw7
                have V7 := V6.below hb7
                refine hs_run (i := 1) (d := some 56) (v := vv) (w' := w7) rfl (by kernel_rfl) (by rfl) (pl_one rfl rfl V7.cw Try.underlying27 rfl) rfl trivial ?_
                simp only [Act.put, List.setIfInBounds_toArray, List.set_cons_zero, List.set_cons_succ]
                refine hs_runX (i := 5) (d := some 60) rfl (by kernel_rfl) (by rfl) rfl (ex_app1 rfl rfl rfl Try.underlying27 hi hiz his (by rw [hib]; decide) rfl V7.wo (by have := V7.lb; omega) r7 hul hone hle hzk) ?_
                rintro v9 w9 ⟨o9, g9, gb9⟩
                refine ⟨trivial, ?_⟩
                simp only [Act.put, List.setIfInBounds_toArray, List.set_cons_zero, List.set_cons_succ]
                refine hs_take (i := 6) (d := some 61) (v := ?_) rfl (by kernel_rfl) (by kernel_rfl) (by kernel_rfl) (by rfl) ?_ hS rfl ?_
                rotate_left
                · intro w' hw
                  go_simp
                  try with_reducible rfl
                simp only [Act.put, List.setIfInBounds_toArray, List.set_cons_zero, List.set_cons_succ]
                obtain ⟨tb9, V9⟩ := V7.appW hok g9 o9 gb9
                have hv9 : v9.cells = #[v9] ∧ v9.oneCell' = true := own_cell o9
                refine hs_store (i := 7) (w' := w9.setCells B 35 [v9]) rfl (by kernel_rfl) (by rfl) (ex_put1 (n := 37) rfl rfl rfl tb9 (by decide) iszWs hv9.1 hv9.2) rfl trivial ?_
                refine hs_done (by kernel_rfl) ?_
                have HL6 : Hid (Xw D w2 X B v1 v2 v3 dp s5 (k + 1) (w9.setCells B 35 [v9])) := hide ⟨v9, by rw [E1.out]; exact V9⟩
                clear E1 HV o9 g9 gb9 tb9 hv9 V9 V7 V6 V8 r7 hb7 S6 g6 hok hle hul hone cE hS
                go_wp2_with fail
                go_roundw
                case rel => exact ⟨k + 1, by omega, by go_num, HL6⟩
                case measure => simp [intOf]; omega
          · have hst := itR_stop (one := wiR) (fun _ h => wiR_err h) s5 hk hee
            obtain ⟨ee, hee2⟩ : ∃ x, (itR wiR s5 k).2.2 = x := ⟨_, rfl⟩
            rw [hee2] at hce
            have hee3 : ¬ ee = 0 := by rw [← hee2]; exact hee
            have HNE0 := hide hee
            have HST := hide hst
            have hee : (ee == 0) = false := by simpa using hee3
            clear hst hee2 hee3
            go_upto_region 13 with fail
            try simp only [Act.put]
            refine pl_begin ?_
            refine pl_take (d := some 43) (v := ?_) (by rfl) ?_ rfl ?_
            rotate_left
            · go_simp
              try with_reducible rfl
            simp only [Act.put, List.setIfInBounds_toArray, List.set_cons_zero, List.set_cons_succ]
            refine pl_take (d := some 44) (v := ?_) (by rfl) ?_ rfl ?_
            rotate_left
            · go_simp
              try with_reducible rfl
            simp only [Act.put, List.setIfInBounds_toArray, List.set_cons_zero, List.set_cons_succ]
            refine pl_take (d := some 45) (v := .bool true) (by rfl) (by go_simp <;> (try simp) <;> (try omega)) rfl ?_
            simp only [Act.put, List.setIfInBounds_toArray, List.set_cons_zero, List.set_cons_succ]
            refine pl_take (d := some 46) (v := ?_) (by rfl) ?_ rfl ?_
            rotate_left
            · go_simp
              try with_reducible rfl
            simp only [Act.put, List.setIfInBounds_toArray, List.set_cons_zero, List.set_cons_succ]
            refine pl_take (d := some 47) (v := ?_) (by rfl) ?_ rfl ?_
            rotate_left
            · go_simp
              try with_reducible rfl
            simp only [Act.put, List.setIfInBounds_toArray, List.set_cons_zero, List.set_cons_succ]
            refine pl_take (d := some 48) (v := ?_) (by rfl) ?_ rfl ?_
            rotate_left
            · go_simp
              try with_reducible rfl
            simp only [Act.put, List.setIfInBounds_toArray, List.set_cons_zero, List.set_cons_succ]
            refine pl_take (d := some 49) (v := ?_) (by rfl) ?_ rfl ?_
            rotate_left
            · go_simp
              try with_reducible rfl
            simp only [Act.put, List.setIfInBounds_toArray, List.set_cons_zero, List.set_cons_succ]
            refine pl_take (d := some 50) (v := .int .i64 ee) (by rfl) (pl_one rfl rfl hce Try.underlying3 rfl) rfl ?_
            simp only [Act.put, List.setIfInBounds_toArray, List.set_cons_zero, List.set_cons_succ]
            refine pl_take (d := some 51) (v := .bool false) (by rfl) (by go_simp <;> (try simp [hee])) rfl ?_
            simp only [Act.put, List.setIfInBounds_toArray, List.set_cons_zero, List.set_cons_succ]
            refine pl_take (d := some 52) (v := ?_) (by rfl) ?_ rfl ?_
            rotate_left
            · go_simp
              try with_reducible rfl
            simp only [Act.put, List.setIfInBounds_toArray, List.set_cons_zero, List.set_cons_succ]
            refine pl_nil ?_
            clear hce hee k1
            have c6 := fun w0 h0 => xnumR D X 64 (itR wiR s5 k).2 w0 h0
            simp only [nuR_err HNE0.out] at c6
            go_upto_region 16 with fail
            try simp only [Act.put]
            refine pl_begin ?_
            refine pl_take (d := some 62) (v := ?_) (by rfl) ?_ rfl ?_
            rotate_left
            · go_simp
              try with_reducible rfl
            simp only [Act.put, List.setIfInBounds_toArray, List.set_cons_zero, List.set_cons_succ]
            refine pl_call (d := some 63) (by rfl) (by go_simp; first | done | exact ⟨rfl, rfl⟩ | with_reducible rfl) rfl ?_
            refine (c6 _ HV.st).mono ?_
            rintro _ w12 ⟨rfl, s12, g12⟩
            refine ⟨_, rfl, ?_⟩
            simp only [Act.put, List.setIfInBounds_toArray, List.set_cons_zero, List.set_cons_succ]
            refine pl_take (d := some 10) (v := ?_) (by rfl) ?_ rfl ?_
            rotate_left
            · go_simp
              try with_reducible rfl
            simp only [Act.put, List.setIfInBounds_toArray, List.set_cons_zero, List.set_cons_succ]
            refine pl_nil ?_
            have HP0 : Hid (Xb D w2 X B ⟨v1, v2, v3, dp, vv, .slice none 0 0, (itR wiR s5 k).1, []⟩ (itR wiR s5 k).2 w12) := hide (HV.on g12 s12)
            clear HV s12 g12 c6
            go_upto_region 17 with fail
            try simp only [Act.put]
            refine pl_begin ?_
            refine pl_take (d := some 12) (v := ?_) (by rfl) ?_ rfl ?_
            rotate_left
            · go_simp
              try with_reducible rfl
            simp only [Act.put, List.setIfInBounds_toArray, List.set_cons_zero, List.set_cons_succ]
            refine pl_nil ?_
            go_wp2_with fail
            go_loopw [12] (fun iv wr => iv = .int .i64 0 ∧ Hid (Xb D w2 X B ⟨v1, v2, v3, dp, vv, .slice none 0 0, (itR wiR s5 k).1, []⟩ (itR wiR s5 k).2 wr)) (fun iv _ => 0)
            case atStart => exact ⟨rfl, HP0⟩
            case round =>
              clear HP0
              obtain ⟨rfl, HQ⟩ := hrel
              have HX := HQ.out
              clear HQ
              obtain ⟨sF, hsF⟩ : ∃ t, (itR wiR s5 k).2 = t := ⟨_, rfl⟩
              have hne := HNE0.out
              rw [hsF] at hne HX
              have HS : Hid (RR.2 = sF) := hide (by
                rw [← HRR.out]
                simp only
                rw [HST.out, hsF, nuR_err hne]
                rfl)
              have HNE : Hid (¬ doneE sF.1 sF.2 = 0) := hide (by unfold doneE; rw [if_neg hne]; exact hne)
              clear hsF hne HNE0 HST
              go_upto_region 18 with fail
              try simp only [Act.put]
              refine pl_begin ?_
              refine pl_take (d := some 64) (v := ?_) (by rfl) ?_ rfl ?_
              rotate_left
              · go_simp
                try with_reducible rfl
              simp only [Act.put, List.setIfInBounds_toArray, List.set_cons_zero, List.set_cons_succ]
              refine pl_take (d := some 65) (v := ?_) (by rfl) ?_ rfl ?_
              rotate_left
              · go_simp
                try with_reducible rfl
              simp only [Act.put, List.setIfInBounds_toArray, List.set_cons_zero, List.set_cons_succ]
              refine pl_take (d := some 66) (v := .bool false) (by rfl) (by go_simp <;> (try simp) <;> (try omega)) rfl ?_
              simp only [Act.put, List.setIfInBounds_toArray, List.set_cons_zero, List.set_cons_succ]
              refine pl_take (d := some 67) (v := ?_) (by rfl) ?_ rfl ?_
              rotate_left
              · go_simp
                try with_reducible rfl
              simp only [Act.put, List.setIfInBounds_toArray, List.set_cons_zero, List.set_cons_succ]
              refine pl_skip (d := some 68) (by rfl) rfl ?_
              simp only [Act.put, List.setIfInBounds_toArray, List.set_cons_zero, List.set_cons_succ]
              refine pl_skip (d := some 69) (by rfl) rfl ?_
              simp only [Act.put, List.setIfInBounds_toArray, List.set_cons_zero, List.set_cons_succ]
              refine pl_skip (d := some 70) (by rfl) rfl ?_
              simp only [Act.put, List.setIfInBounds_toArray, List.set_cons_zero, List.set_cons_succ]
              refine pl_skip (d := some 71) (by rfl) rfl ?_
              simp only [Act.put, List.setIfInBounds_toArray, List.set_cons_zero, List.set_cons_succ]
              refine pl_skip (d := some 72) (by rfl) rfl ?_
              simp only [Act.put, List.setIfInBounds_toArray, List.set_cons_zero, List.set_cons_succ]
              refine pl_take (d := some 73) (v := ?_) (by rfl) ?_ rfl ?_
              rotate_left
              · go_simp
                try with_reducible rfl
              simp only [Act.put, List.setIfInBounds_toArray, List.set_cons_zero, List.set_cons_succ]
              refine pl_nil ?_
              have HX7w := HX.gr
              go_upto_region 21 with fail
              try simp only [Act.put]
              refine pl_begin ?_
              refine pl_take (d := some 83) (v := ?_) (by rfl) ?_ rfl ?_
              rotate_left
              · go_simp
                try with_reducible rfl
              simp only [Act.put, List.setIfInBounds_toArray, List.set_cons_zero, List.set_cons_succ]
              refine pl_call (d := some 84) (by rfl) (by go_simp; first | done | exact ⟨rfl, rfl⟩ | with_reducible rfl) rfl ?_
              refine (xdoneS D X _ _ HX.st).mono ?_
              rintro _ w7 ⟨rfl, hb7⟩
              refine ⟨_, rfl, ?_⟩
              simp only [Act.put, List.setIfInBounds_toArray, List.set_cons_zero, List.set_cons_succ]
              refine pl_take (d := some 13) (v := ?_) (by rfl) ?_ rfl ?_
              rotate_left
              · go_simp
                try with_reducible rfl
              simp only [Act.put, List.setIfInBounds_toArray, List.set_cons_zero, List.set_cons_succ]
              refine pl_nil ?_
              have HX7 := HX.below hb7
              have B7 : Below w.heap.size w w7 := below_gbX B3 HX7.gr HXw.out
              have th7 : w7.there A 0 37 := there_gbR tA3 HX7.gr HAs.out.1 HAs.out.2.1
              have rc7 : w7.rangeAt C 0 u := range_gbR rc3 HX7.gr HAs.out.2.2.1 HAs.out.2.2.2
              obtain ⟨d, hd_⟩ : ∃ d, Hid (doneE sF.1 sF.2 = d) := ⟨_, hide rfl⟩
              simp only [hd_.out]
              clear HX hb7 HX7w
              by_cases hd : d = 0
              rotate_left
              · have hdb : (d == 0) = false := by simpa using hd
                have hdn : (d != 0) = true := by simpa using hd
                have HPE : Hid (PP = (Sp.zero, d)) := hide (by rw [HP.out, HS.out, hd_.out, if_pos hd])
                clear hd HX7 rc7
                go_upto_region 22 with fail
                try simp only [Act.put]
                refine pl_begin ?_
                refine pl_take (d := some 85) (v := ?_) (by rfl) ?_ rfl ?_
                rotate_left
                · go_simp
                  try with_reducible rfl
                simp only [Act.put, List.setIfInBounds_toArray, List.set_cons_zero, List.set_cons_succ]
                refine pl_take (d := some 86) (v := .bool false) (by rfl) (by go_simp <;> (try simp [*])) rfl ?_
                simp only [Act.put, List.setIfInBounds_toArray, List.set_cons_zero, List.set_cons_succ]
                refine pl_take (d := some 87) (v := ?_) (by rfl) ?_ rfl ?_
                rotate_left
                · go_simp
                  try with_reducible rfl
                simp only [Act.put, List.setIfInBounds_toArray, List.set_cons_zero, List.set_cons_succ]
                refine pl_skip (d := some 88) (by rfl) rfl ?_
                simp only [Act.put, List.setIfInBounds_toArray, List.set_cons_zero, List.set_cons_succ]
                refine pl_skip (d := some 89) (by rfl) rfl ?_
                simp only [Act.put, List.setIfInBounds_toArray, List.set_cons_zero, List.set_cons_succ]
                refine pl_skip (d := some 90) (by rfl) rfl ?_
                simp only [Act.put, List.setIfInBounds_toArray, List.set_cons_zero, List.set_cons_succ]
                refine pl_skip (d := some 91) (by rfl) rfl ?_
                simp only [Act.put, List.setIfInBounds_toArray, List.set_cons_zero, List.set_cons_succ]
                refine pl_take (d := some 92) (v := ?_) (by rfl) ?_ rfl ?_
                rotate_left
                · go_simp
                  try with_reducible rfl
                simp only [Act.put, List.setIfInBounds_toArray, List.set_cons_zero, List.set_cons_succ]
                refine pl_nil ?_
                go_upto_region 24 with fail
                try simp only [Act.put]
                refine pl_begin ?_
                refine pl_take (d := some 93) (v := ?_) (by rfl) ?_ rfl ?_
                rotate_left
                · go_simp
                  try with_reducible rfl
                simp only [Act.put, List.setIfInBounds_toArray, List.set_cons_zero, List.set_cons_succ]
                refine pl_take (d := some 94) (v := .bool true) (by rfl) (by go_simp <;> (try simp [*])) rfl ?_
                simp only [Act.put, List.setIfInBounds_toArray, List.set_cons_zero, List.set_cons_succ]
                refine pl_nil ?_
                go_upto_region 25 with fail
                try simp only [Act.put]
                refine pl_begin ?_
                refine pl_take (d := some 95) (v := .agg zc.toArray) (by rfl) (ex_build (parts := []) rfl rfl (hbn _)) rfl ?_
                simp only [Act.put, List.setIfInBounds_toArray, List.set_cons_zero, List.set_cons_succ]
                refine pl_take (d := some 96) (v := ?_) (by rfl) ?_ rfl ?_
                rotate_left
                · go_simp
                  try with_reducible rfl
                simp only [Act.put, List.setIfInBounds_toArray, List.set_cons_zero, List.set_cons_succ]
                refine pl_store (w' := w7.setCells A 0 zc) (by rfl) (ex_put (cs := zc.toArray) rfl rfl rfl (by simpa [hzl] using th7) (by simpa [hzl] using iszSt) (all_one hz1)) rfl ?_
                refine pl_take (d := some 5) (v := ?_) (by rfl) ?_ rfl ?_
                rotate_left
                · go_simp
                  try with_reducible rfl
                simp only [Act.put, List.setIfInBounds_toArray, List.set_cons_zero, List.set_cons_succ]
                refine pl_nil ?_
                have hrs := run_loadVar_mid (P := Try.prog) (w7.setCells A 0 zc) A 0 30 zc _ (World.rangeAt_setCells_same w7 A 0 zc (by rw [hzl]; exact th7)) Try.underlying30 rfl (by rw [hzl]; exact iszSt)
                have HF : Hid (ParsA w PP (.returned (.tuple #[.agg zc.toArray, .int .i64 d])) (w7.setCells A 0 zc)) := hide (by
                  rw [HPE.out]
                  exact pars_out (x := Stt.zero) hz0.out.symm HA.out B7 rfl rfl Stt.zero_ok (Stt.zero_at _) (Stt.zero_lo _))
                clear th7 B7 HPE
                go_wp2_with fail
                refine bodyPost_ret (results_ct rfl _ _ _ rfl hrs) rfl ?_
                exact HF.out
              · subst hd
                exfalso
                exact HNE.out hd_.out
        · have hkN : k = N := by omega
          subst hkN
          have k1 : ¬ ((k : Int) < k) := by omega
          have hwl := itR_length wiR s5 k
          clear hlt hk hce
          go_upto_region 13 with fail
          try simp only [Act.put]
          refine pl_begin ?_
          refine pl_take (d := some 43) (v := ?_) (by rfl) ?_ rfl ?_
          rotate_left
          · go_simp
            try with_reducible rfl
          simp only [Act.put, List.setIfInBounds_toArray, List.set_cons_zero, List.set_cons_succ]
          refine pl_take (d := some 44) (v := ?_) (by rfl) ?_ rfl ?_
          rotate_left
          · go_simp
            try with_reducible rfl
          simp only [Act.put, List.setIfInBounds_toArray, List.set_cons_zero, List.set_cons_succ]
          refine pl_take (d := some 45) (v := .bool false) (by rfl) (by go_simp <;> (try simp) <;> (try omega)) rfl ?_
          simp only [Act.put, List.setIfInBounds_toArray, List.set_cons_zero, List.set_cons_succ]
          refine pl_take (d := some 46) (v := ?_) (by rfl) ?_ rfl ?_
          rotate_left
          · go_simp
            try with_reducible rfl
          simp only [Act.put, List.setIfInBounds_toArray, List.set_cons_zero, List.set_cons_succ]
          refine pl_skip (d := some 47) (by rfl) rfl ?_
          simp only [Act.put, List.setIfInBounds_toArray, List.set_cons_zero, List.set_cons_succ]
          refine pl_skip (d := some 48) (by rfl) rfl ?_
          simp only [Act.put, List.setIfInBounds_toArray, List.set_cons_zero, List.set_cons_succ]
          refine pl_skip (d := some 49) (by rfl) rfl ?_
          simp only [Act.put, List.setIfInBounds_toArray, List.set_cons_zero, List.set_cons_succ]
          refine pl_skip (d := some 50) (by rfl) rfl ?_
          simp only [Act.put, List.setIfInBounds_toArray, List.set_cons_zero, List.set_cons_succ]
          refine pl_skip (d := some 51) (by rfl) rfl ?_
          simp only [Act.put, List.setIfInBounds_toArray, List.set_cons_zero, List.set_cons_succ]
          refine pl_take (d := some 52) (v := ?_) (by rfl) ?_ rfl ?_
          rotate_left
          · go_simp
            try with_reducible rfl
          simp only [Act.put, List.setIfInBounds_toArray, List.set_cons_zero, List.set_cons_succ]
          refine pl_nil ?_
          clear k1
          have c6 := fun w0 h0 => xnumR D X 64 (itR wiR s5 k).2 w0 h0
          have b6 := nuR_bd (most := 64) (Wn.RSt.bytes HV.st) (by decide)
          obtain ⟨p_, hp_⟩ : ∃ p, nuR 64 (itR wiR s5 k).2 = p := ⟨_, rfl⟩
          rw [hp_] at b6
          simp only [hp_] at c6
          obtain ⟨v6, s6⟩ := p_
          simp only at c6 b6
          have HE6 := hide hp_
          clear hp_
          go_upto_region 16 with fail
          try simp only [Act.put]
          refine pl_begin ?_
          refine pl_take (d := some 62) (v := ?_) (by rfl) ?_ rfl ?_
          rotate_left
          · go_simp
            try with_reducible rfl
          simp only [Act.put, List.setIfInBounds_toArray, List.set_cons_zero, List.set_cons_succ]
          refine pl_call (d := some 63) (by rfl) (by go_simp; first | done | exact ⟨rfl, rfl⟩ | with_reducible rfl) rfl ?_
          refine (c6 _ HV.st).mono ?_
          rintro _ w12 ⟨rfl, s12, g12⟩
          refine ⟨_, rfl, ?_⟩
          simp only [Act.put, List.setIfInBounds_toArray, List.set_cons_zero, List.set_cons_succ]
          refine pl_take (d := some 10) (v := ?_) (by rfl) ?_ rfl ?_
          rotate_left
          · go_simp
            try with_reducible rfl
          simp only [Act.put, List.setIfInBounds_toArray, List.set_cons_zero, List.set_cons_succ]
          refine pl_nil ?_
          have HP0 : Hid (Xp D w2 X B v1 v2 v3 dp vv (itR wiR s5 k).1 s6 0 w12) := hide ⟨_, HV.on g12 s12⟩
          clear HV s12 g12 c6
          obtain ⟨M, rfl⟩ : ∃ M : Nat, v6 = (M : Int) := ⟨v6.toNat, by omega⟩
          have hM : M ≤ 64 := by omega
          clear b6
          go_upto_region 17 with fail
          try simp only [Act.put]
          refine pl_begin ?_
          refine pl_take (d := some 12) (v := ?_) (by rfl) ?_ rfl ?_
          rotate_left
          · go_simp
            try with_reducible rfl
          simp only [Act.put, List.setIfInBounds_toArray, List.set_cons_zero, List.set_cons_succ]
          refine pl_nil ?_
          go_wp2_with fail
          go_loopw [12] (fun iv wr => ∃ k2 : Nat, k2 ≤ M ∧ iv = .int .i64 (k2 : Int) ∧ Hid (Xp D w2 X B v1 v2 v3 dp vv (itR wiR s5 k).1 s6 k2 wr)) (fun iv _ => M - (intOf iv).toNat)
          case atStart => exact ⟨0, by omega, rfl, HP0⟩
          case round =>
            clear HP0
            obtain ⟨k2, hk2, rfl, HQ⟩ := hrel
            by_cases hlt : k2 < M
            · have k1 : (k2 : Int) < M := by omega
              obtain ⟨vp, HW⟩ := HQ.out
              clear HQ
              have hce := Wn.RSt.cell2 HW.st
              by_cases hee : (itR (nuR 1048592) s6 k2).2.2 = 0
              · rw [hee] at hce
                obtain ⟨i1, hi, hiz, his, hib⟩ := info_parts infoIn
                have hzk : (Value.int .i64 0).cells.size = 1 := rfl
                have hle : (itR (nuR 1048592) s6 k2).1.length ≤ 1000 := by rw [itR_length]; omega
                have cE := fun w0 h0 => xnumR D X 1048592 (itR (nuR 1048592) s6 k2).2 w0 h0
                have hok := nuR_ok (s := (itR (nuR 1048592) s6 k2).2) (Wn.RSt.bytes HW.st)
                have E1 : Hid (itR (nuR 1048592) s6 (k2 + 1) = ((itR (nuR 1048592) s6 k2).1 ++ [(nuR 1048592 (itR (nuR 1048592) s6 k2).2).1], (nuR 1048592 (itR (nuR 1048592) s6 k2).2).2)) := hide rfl
                generalize nuR 1048592 (itR (nuR 1048592) s6 k2).2 = p_ at cE hok E1
                obtain ⟨gx, sx⟩ := p_
                simp only at cE hok E1
                have hul : [Value.int .i64 gx].length = 1 := rfl
                have hone := PnE.one gx
                clear hee
                go_upto_region 18 with fail
                try simp only [Act.put]
                refine pl_begin ?_
                refine pl_take (d := some 64) (v := ?_) (by rfl) ?_ rfl ?_
                rotate_left
                · go_simp
                  try with_reducible rfl
                simp only [Act.put, List.setIfInBounds_toArray, List.set_cons_zero, List.set_cons_succ]
                refine pl_take (d := some 65) (v := ?_) (by rfl) ?_ rfl ?_
                rotate_left
                · go_simp
                  try with_reducible rfl
                simp only [Act.put, List.setIfInBounds_toArray, List.set_cons_zero, List.set_cons_succ]
                refine pl_take (d := some 66) (v := .bool true) (by rfl) (by go_simp <;> (try simp) <;> (try omega)) rfl ?_
                simp only [Act.put, List.setIfInBounds_toArray, List.set_cons_zero, List.set_cons_succ]
                refine pl_take (d := some 67) (v := ?_) (by rfl) ?_ rfl ?_
                rotate_left
                · go_simp
                  try with_reducible rfl
                simp only [Act.put, List.setIfInBounds_toArray, List.set_cons_zero, List.set_cons_succ]
                refine pl_take (d := some 68) (v := ?_) (by rfl) ?_ rfl ?_
                rotate_left
                · go_simp
                  try with_reducible rfl
                simp only [Act.put, List.setIfInBounds_toArray, List.set_cons_zero, List.set_cons_succ]
                refine pl_take (d := some 69) (v := ?_) (by rfl) ?_ rfl ?_
                rotate_left
                · go_simp
                  try with_reducible rfl
                simp only [Act.put, List.setIfInBounds_toArray, List.set_cons_zero, List.set_cons_succ]
                refine pl_take (d := some 70) (v := ?_) (by rfl) ?_ rfl ?_
                rotate_left
                · go_simp
                  try with_reducible rfl
                simp only [Act.put, List.setIfInBounds_toArray, List.set_cons_zero, List.set_cons_succ]
                refine pl_take (d := some 71) (v := .int .i64 0) (by rfl) (pl_one rfl rfl hce Try.underlying3 rfl) rfl ?_
                simp only [Act.put, List.setIfInBounds_toArray, List.set_cons_zero, List.set_cons_succ]
                refine pl_take (d := some 72) (v := .bool true) (by rfl) (by go_simp <;> (try simp [hee])) rfl ?_
                simp only [Act.put, List.setIfInBounds_toArray, List.set_cons_zero, List.set_cons_succ]
                refine pl_take (d := some 73) (v := ?_) (by rfl) ?_ rfl ?_
                rotate_left
                · go_simp
                  try with_reducible rfl
                simp only [Act.put, List.setIfInBounds_toArray, List.set_cons_zero, List.set_cons_succ]
                refine pl_nil ?_
                clear hce
                go_upto_region 20 with fail
                have V8 := HW.below ((Below.refl _ _).drew)
                refine hs_begin (S := (fun _ : World => True)) 8 rfl (by kernel_rfl) ?_
                obtain ⟨w8, hw8⟩ : ∃ W, wr.drew = W := ⟨_, rfl⟩
                rw [hw8] at V8 ⊢
                clear hw8
                have hS : (fun _ : World => True) w8 := trivial
                refine hs_take (i := 0) (d := some 76) (v := ?_) rfl (by kernel_rfl) (by kernel_rfl) (by kernel_rfl) (by rfl) ?_ hS rfl ?_
                rotate_left
                · intro w' hw
                  go_simp
                  try with_reducible rfl
                simp only [Act.put, List.setIfInBounds_toArray, List.set_cons_zero, List.set_cons_succ]
                refine hs_take (i := 2) (d := some 78) (v := ?_) rfl (by kernel_rfl) (by kernel_rfl) (by kernel_rfl) (by rfl) ?_ hS rfl ?_
                rotate_left
                · intro w' hw
                  go_simp
                  try with_reducible rfl
                simp only [Act.put, List.setIfInBounds_toArray, List.set_cons_zero, List.set_cons_succ]
                refine hs_forkL (l := [1, 3]) (by kernel_rfl) (by simp) ?_
                intro ii hii
                simp only [List.mem_cons, List.not_mem_nil, or_false] at hii
                rcases hii with rfl | rfl
                · refine st_run (i := 1) (d := some 77) (v := vp) (w' := w8) rfl (by rfl) (pl_one rfl rfl V8.cp Try.underlying28 rfl) rfl trivial ?_
                  simp only [Act.put, List.setIfInBounds_toArray, List.set_cons_zero, List.set_cons_succ]
                  refine hs_call (i := 3) (d := some 79) rfl (by kernel_rfl) (by rfl) (by go_simp; first | done | exact ⟨rfl, rfl⟩ | with_reducible rfl) rfl ?_
                  refine (cE w8 V8.st).mono ?_
                  rintro _ w6 ⟨rfl, S6, g6⟩
                  refine ⟨_, rfl, trivial, ?_⟩
                  simp only [Act.put, List.setIfInBounds_toArray, List.set_cons_zero, List.set_cons_succ]
                  have V6 := V8.on g6 S6
                  have hb7 : Below w6.heap.size w6 (w6.alloc (.cells [Value.int .i64 gx].toArray 3)) := (Below.refl _ _).alloc (Nat.le_refl _) _
                  have r7 : (w6.alloc (.cells [Value.int .i64 gx].toArray 3)).rangeAt w6.heap.size 0 [Value.int .i64 gx] := by simpa using range_new w6 ([Value.int .i64 gx]).toArray 3
                  refine hs_run (i := 4) (d := some 80) (v := .slice (some ⟨w6.heap.size, 0, none⟩) 1 1) (w' := w6.alloc (.cells [Value.int .i64 gx].toArray 3)) rfl (by kernel_rfl) (by rfl) (ex_bsi rfl rfl (run_bsi _ _)) rfl trivial ?_
                  simp only [Act.put, List.setIfInBounds_toArray, List.set_cons_zero, List.set_cons_succ]
                  obtain ⟨w7, hw7⟩ : ∃ W, w6.alloc (.cells [Value.int .i64 gx].toArray 3) = W := ⟨_, rfl⟩
                  rw [hw7] at hb7 r7 ⊢
                  clear hw7
                  have V7 := V6.below hb7
                  refine hs_runX (i := 5) (d := some 81) rfl (by kernel_rfl) (by rfl) rfl (ex_app1 rfl rfl rfl Try.underlying28 hi hiz his (by rw [hib]; decide) rfl V7.po (by have := V7.lb; omega) r7 hul hone hle hzk) ?_
                  rintro v9 w9 ⟨o9, g9, gb9⟩
                  refine ⟨trivial, ?_⟩
                  simp only [Act.put, List.setIfInBounds_toArray, List.set_cons_zero, List.set_cons_succ]
                  refine hs_take (i := 6) (d := some 82) (v := ?_) rfl (by kernel_rfl) (by kernel_rfl) (by kernel_rfl) (by rfl) ?_ hS rfl ?_
                  rotate_left
                  · intro w' hw
                    go_simp
                    try with_reducible rfl
                  simp only [Act.put, List.setIfInBounds_toArray, List.set_cons_zero, List.set_cons_succ]
                  obtain ⟨tb9, V9⟩ := V7.appP hok g9 o9 gb9
                  have hv9 : v9.cells = #[v9] ∧ v9.oneCell' = true := own_cell o9
                  refine hs_store (i := 7) (w' := w9.setCells B 36 [v9]) rfl (by kernel_rfl) (by rfl) (ex_put1 (n := 37) rfl rfl rfl tb9 (by decide) iszIs hv9.1 hv9.2) rfl trivial ?_
                  refine hs_done (by kernel_rfl) ?_
                  have HL6 : Hid (Xp D w2 X B v1 v2 v3 dp vv (itR wiR s5 k).1 s6 (k2 + 1) (w9.setCells B 36 [v9])) := hide ⟨v9, by rw [E1.out]; exact V9⟩
                  clear E1 HW o9 g9 gb9 tb9 hv9 V9 V7 V6 V8 r7 hb7 S6 g6 hok hle hul hone cE hS
                  go_wp2_with fail
                  go_roundw
                  case rel => exact ⟨k2 + 1, by omega, by go_num, HL6⟩
                  case measure => simp [intOf]; omega
                · refine st_call (i := 3) (d := some 79) rfl (by rfl) (by go_simp; first | done | exact ⟨rfl, rfl⟩ | with_reducible rfl) rfl ?_
                  refine (cE w8 V8.st).mono ?_
                  rintro _ w6 ⟨rfl, S6, g6⟩
                  refine ⟨_, rfl, trivial, ?_⟩
                  simp only [Act.put, List.setIfInBounds_toArray, List.set_cons_zero, List.set_cons_succ]
                  have V6 := V8.on g6 S6
                  refine hs_forkL (l := [1, 4]) (by kernel_rfl) (by simp) ?_
                  intro ii hii
                  simp only [List.mem_cons, List.not_mem_nil, or_false] at hii
                  rcases hii with rfl | rfl
                  · refine st_run (i := 1) (d := some 77) (v := vp) (w' := w6) rfl (by rfl) (pl_one rfl rfl V6.cp Try.underlying28 rfl) rfl trivial ?_
                    simp only [Act.put, List.setIfInBounds_toArray, List.set_cons_zero, List.set_cons_succ]
                    have hb7 : Below w6.heap.size w6 (w6.alloc (.cells [Value.int .i64 gx].toArray 3)) := (Below.refl _ _).alloc (Nat.le_refl _) _
                    have r7 : (w6.alloc (.cells [Value.int .i64 gx].toArray 3)).rangeAt w6.heap.size 0 [Value.int .i64 gx] := by simpa using range_new w6 ([Value.int .i64 gx]).toArray 3
                    refine hs_run (i := 4) (d := some 80) (v := .slice (some ⟨w6.heap.size, 0, none⟩) 1 1) (w' := w6.alloc (.cells [Value.int .i64 gx].toArray 3)) rfl (by kernel_rfl) (by rfl) (ex_bsi rfl rfl (run_bsi _ _)) rfl trivial ?_
                    simp only [Act.put, List.setIfInBounds_toArray, List.set_cons_zero, List.set_cons_succ]
                    obtain ⟨w7, hw7⟩ : ∃ W, w6.alloc (.cells [Value.int .i64 gx].toArray 3) = W := ⟨_, rfl⟩
                    rw [hw7] at hb7 r7 ⊢
                    clear hw7
                    have V7 := V6.below hb7
                    refine hs_runX (i := 5) (d := some 81) rfl (by kernel_rfl) (by rfl) rfl (ex_app1 rfl rfl rfl Try.underlying28 hi hiz his (by rw [hib]; decide) rfl V7.po (by have := V7.lb; omega) r7 hul hone hle hzk) ?_
                    rintro v9 w9 ⟨o9, g9, gb9⟩
                    refine ⟨trivial, ?_⟩
                    simp only [Act.put, List.setIfInBounds_toArray, List.set_cons_zero, List.set_cons_succ]
                    refine hs_take (i := 6) (d := some 82) (v := ?_) rfl (by kernel_rfl) (by kernel_rfl) (by kernel_rfl) (by rfl) ?_ hS rfl ?_
                    rotate_left
                    · intro w' hw
                      go_simp
                      try with_reducible rfl
                    simp only [Act.put, List.setIfInBounds_toArray, List.set_cons_zero, List.set_cons_succ]
                    obtain ⟨tb9, V9⟩ := V7.appP hok g9 o9 gb9
                    have hv9 : v9.cells = #[v9] ∧ v9.oneCell' = true := own_cell o9
                    refine hs_store (i := 7) (w' := w9.setCells B 36 [v9]) rfl (by kernel_rfl) (by rfl) (ex_put1 (n := 37) rfl rfl rfl tb9 (by decide) iszIs hv9.1 hv9.2) rfl trivial ?_
                    refine hs_done (by kernel_rfl) ?_
                    have HL6 : Hid (Xp D w2 X B v1 v2 v3 dp vv (itR wiR s5 k).1 s6 (k2 + 1) (w9.setCells B 36 [v9])) := hide ⟨v9, by rw [E1.out]; exact V9⟩
                    clear E1 HW o9 g9 gb9 tb9 hv9 V9 V7 V6 V8 r7 hb7 S6 g6 hok hle hul hone cE hS
                    go_wp2_with fail
                    go_roundw
                    case rel => exact ⟨k2 + 1, by omega, by go_num, HL6⟩
                    case measure => simp [intOf]; omega
                  · have hb7 : Below w6.heap.size w6 (w6.alloc (.cells [Value.int .i64 gx].toArray 3)) := (Below.refl _ _).alloc (Nat.le_refl _) _
                    have r7 : (w6.alloc (.cells [Value.int .i64 gx].toArray 3)).rangeAt w6.heap.size 0 [Value.int .i64 gx] := by simpa using range_new w6 ([Value.int .i64 gx]).toArray 3
                    refine st_run (i := 4) (d := some 80) (v := .slice (some ⟨w6.heap.size, 0, none⟩) 1 1) (w' := w6.alloc (.cells [Value.int .i64 gx].toArray 3)) rfl (by rfl) (ex_bsi rfl rfl (run_bsi _ _)) rfl trivial ?_
                    simp only [Act.put, List.setIfInBounds_toArray, List.set_cons_zero, List.set_cons_succ]
                    obtain ⟨w7, hw7⟩ : ∃ W, w6.alloc (.cells [Value.int .i64 gx].toArray 3) = W := ⟨_, rfl⟩
                    rw [hw7] at hb7 r7 ⊢
                    clear hw7
                    have V7 := V6.below hb7
                    refine hs_run (i := 1) (d := some 77) (v := vp) (w' := w7) rfl (by kernel_rfl) (by rfl) (pl_one rfl rfl V7.cp Try.underlying28 rfl) rfl trivial ?_
                    simp only [Act.put, List.setIfInBounds_toArray, List.set_cons_zero, List.set_cons_succ]
                    refine hs_runX (i := 5) (d := some 81) rfl (by kernel_rfl) (by rfl) rfl (ex_app1 rfl rfl rfl Try.underlying28 hi hiz his (by rw [hib]; decide) rfl V7.po (by have := V7.lb; omega) r7 hul hone hle hzk) ?_
                    rintro v9 w9 ⟨o9, g9, gb9⟩
                    refine ⟨trivial, ?_⟩
                    simp only [Act.put, List.setIfInBounds_toArray, List.set_cons_zero, List.set_cons_succ]
                    refine hs_take (i := 6) (d := some 82) (v := ?_) rfl (by kernel_rfl) (by kernel_rfl) (by kernel_rfl) (by rfl) ?_ hS rfl ?_
                    rotate_left
                    · intro w' hw
                      go_simp
                      try with_reducible rfl
                    simp only [Act.put, List.setIfInBounds_toArray, List.set_cons_zero, List.set_cons_succ]
                    obtain ⟨tb9, V9⟩ := V7.appP hok g9 o9 gb9
                    have hv9 : v9.cells = #[v9] ∧ v9.oneCell' = true := own_cell o9
                    refine hs_store (i := 7) (w' := w9.setCells B 36 [v9]) rfl (by kernel_rfl) (by rfl) (ex_put1 (n := 37) rfl rfl rfl tb9 (by decide) iszIs hv9.1 hv9.2) rfl trivial ?_
                    refine hs_done (by kernel_rfl) ?_
                    have HL6 : Hid (Xp D w2 X B v1 v2 v3 dp vv (itR wiR s5 k).1 s6 (k2 + 1) (w9.setCells B 36 [v9])) := hide ⟨v9, by rw [E1.out]; exact V9⟩
                    clear E1 HW o9 g9 gb9 tb9 hv9 V9 V7 V6 V8 r7 hb7 S6 g6 hok hle hul hone cE hS
                    go_wp2_with fail
                    go_roundw
                    case rel => exact ⟨k2 + 1, by omega, by go_num, HL6⟩
                    case measure => simp [intOf]; omega
              · have hst := itR_stop (one := nuR 1048592) (fun t h => by rw [nuR_err h]) s6 hk2 hee
                obtain ⟨ee, hee2⟩ : ∃ x, (itR (nuR 1048592) s6 k2).2.2 = x := ⟨_, rfl⟩
                rw [hee2] at hce
                have hee3 : ¬ ee = 0 := by rw [← hee2]; exact hee
                have hne := hee
                obtain ⟨sF, hsF⟩ : ∃ t, (itR (nuR 1048592) s6 k2).2 = t := ⟨_, rfl⟩
                rw [hsF] at hne hst
                have HX := HW
                rw [hsF] at HX
                have HS : Hid (RR.2 = sF) := hide (by
                  rw [← HRR.out]
                  simp only
                  rw [HE6.out]
                  simp only [Int.toNat_natCast]
                  exact hst)
                have HNE : Hid (¬ doneE sF.1 sF.2 = 0) := hide (by unfold doneE; rw [if_neg hne]; exact hne)
                have hee : (ee == 0) = false := by simpa using hee3
                clear hst hee2 hee3 hsF hne HW
                go_upto_region 18 with fail
                try simp only [Act.put]
                refine pl_begin ?_
                refine pl_take (d := some 64) (v := ?_) (by rfl) ?_ rfl ?_
                rotate_left
                · go_simp
                  try with_reducible rfl
                simp only [Act.put, List.setIfInBounds_toArray, List.set_cons_zero, List.set_cons_succ]
                refine pl_take (d := some 65) (v := ?_) (by rfl) ?_ rfl ?_
                rotate_left
                · go_simp
                  try with_reducible rfl
                simp only [Act.put, List.setIfInBounds_toArray, List.set_cons_zero, List.set_cons_succ]
                refine pl_take (d := some 66) (v := .bool true) (by rfl) (by go_simp <;> (try simp) <;> (try omega)) rfl ?_
                simp only [Act.put, List.setIfInBounds_toArray, List.set_cons_zero, List.set_cons_succ]
                refine pl_take (d := some 67) (v := ?_) (by rfl) ?_ rfl ?_
                rotate_left
                · go_simp
                  try with_reducible rfl
                simp only [Act.put, List.setIfInBounds_toArray, List.set_cons_zero, List.set_cons_succ]
                refine pl_take (d := some 68) (v := ?_) (by rfl) ?_ rfl ?_
                rotate_left
                · go_simp
                  try with_reducible rfl
                simp only [Act.put, List.setIfInBounds_toArray, List.set_cons_zero, List.set_cons_succ]
                refine pl_take (d := some 69) (v := ?_) (by rfl) ?_ rfl ?_
                rotate_left
                · go_simp
                  try with_reducible rfl
                simp only [Act.put, List.setIfInBounds_toArray, List.set_cons_zero, List.set_cons_succ]
                refine pl_take (d := some 70) (v := ?_) (by rfl) ?_ rfl ?_
                rotate_left
                · go_simp
                  try with_reducible rfl
                simp only [Act.put, List.setIfInBounds_toArray, List.set_cons_zero, List.set_cons_succ]
                refine pl_take (d := some 71) (v := .int .i64 ee) (by rfl) (pl_one rfl rfl hce Try.underlying3 rfl) rfl ?_
                simp only [Act.put, List.setIfInBounds_toArray, List.set_cons_zero, List.set_cons_succ]
                refine pl_take (d := some 72) (v := .bool false) (by rfl) (by go_simp <;> (try simp [hee])) rfl ?_
                simp only [Act.put, List.setIfInBounds_toArray, List.set_cons_zero, List.set_cons_succ]
                refine pl_take (d := some 73) (v := ?_) (by rfl) ?_ rfl ?_
                rotate_left
                · go_simp
                  try with_reducible rfl
                simp only [Act.put, List.setIfInBounds_toArray, List.set_cons_zero, List.set_cons_succ]
                refine pl_nil ?_
                clear hce hee k1
                have HX7w := HX.gr
                go_upto_region 21 with fail
                try simp only [Act.put]
                refine pl_begin ?_
                refine pl_take (d := some 83) (v := ?_) (by rfl) ?_ rfl ?_
                rotate_left
                · go_simp
                  try with_reducible rfl
                simp only [Act.put, List.setIfInBounds_toArray, List.set_cons_zero, List.set_cons_succ]
                refine pl_call (d := some 84) (by rfl) (by go_simp; first | done | exact ⟨rfl, rfl⟩ | with_reducible rfl) rfl ?_
                refine (xdoneS D X _ _ HX.st).mono ?_
                rintro _ w7 ⟨rfl, hb7⟩
                refine ⟨_, rfl, ?_⟩
                simp only [Act.put, List.setIfInBounds_toArray, List.set_cons_zero, List.set_cons_succ]
                refine pl_take (d := some 13) (v := ?_) (by rfl) ?_ rfl ?_
                rotate_left
                · go_simp
                  try with_reducible rfl
                simp only [Act.put, List.setIfInBounds_toArray, List.set_cons_zero, List.set_cons_succ]
                refine pl_nil ?_
                have HX7 := HX.below hb7
                have B7 : Below w.heap.size w w7 := below_gbX B3 HX7.gr HXw.out
                have th7 : w7.there A 0 37 := there_gbR tA3 HX7.gr HAs.out.1 HAs.out.2.1
                have rc7 : w7.rangeAt C 0 u := range_gbR rc3 HX7.gr HAs.out.2.2.1 HAs.out.2.2.2
                obtain ⟨d, hd_⟩ : ∃ d, Hid (doneE sF.1 sF.2 = d) := ⟨_, hide rfl⟩
                simp only [hd_.out]
                clear HX hb7 HX7w
                by_cases hd : d = 0
                rotate_left
                · have hdb : (d == 0) = false := by simpa using hd
                  have hdn : (d != 0) = true := by simpa using hd
                  have HPE : Hid (PP = (Sp.zero, d)) := hide (by rw [HP.out, HS.out, hd_.out, if_pos hd])
                  clear hd HX7 rc7
                  go_upto_region 22 with fail
                  try simp only [Act.put]
                  refine pl_begin ?_
                  refine pl_take (d := some 85) (v := ?_) (by rfl) ?_ rfl ?_
                  rotate_left
                  · go_simp
                    try with_reducible rfl
                  simp only [Act.put, List.setIfInBounds_toArray, List.set_cons_zero, List.set_cons_succ]
                  refine pl_take (d := some 86) (v := .bool false) (by rfl) (by go_simp <;> (try simp [*])) rfl ?_
                  simp only [Act.put, List.setIfInBounds_toArray, List.set_cons_zero, List.set_cons_succ]
                  refine pl_take (d := some 87) (v := ?_) (by rfl) ?_ rfl ?_
                  rotate_left
                  · go_simp
                    try with_reducible rfl
                  simp only [Act.put, List.setIfInBounds_toArray, List.set_cons_zero, List.set_cons_succ]
                  refine pl_skip (d := some 88) (by rfl) rfl ?_
                  simp only [Act.put, List.setIfInBounds_toArray, List.set_cons_zero, List.set_cons_succ]
                  refine pl_skip (d := some 89) (by rfl) rfl ?_
                  simp only [Act.put, List.setIfInBounds_toArray, List.set_cons_zero, List.set_cons_succ]
                  refine pl_skip (d := some 90) (by rfl) rfl ?_
                  simp only [Act.put, List.setIfInBounds_toArray, List.set_cons_zero, List.set_cons_succ]
                  refine pl_skip (d := some 91) (by rfl) rfl ?_
                  simp only [Act.put, List.setIfInBounds_toArray, List.set_cons_zero, List.set_cons_succ]
                  refine pl_take (d := some 92) (v := ?_) (by rfl) ?_ rfl ?_
                  rotate_left
                  · go_simp
                    try with_reducible rfl
                  simp only [Act.put, List.setIfInBounds_toArray, List.set_cons_zero, List.set_cons_succ]
                  refine pl_nil ?_
                  go_upto_region 24 with fail
                  try simp only [Act.put]
                  refine pl_begin ?_
                  refine pl_take (d := some 93) (v := ?_) (by rfl) ?_ rfl ?_
                  rotate_left
                  · go_simp
                    try with_reducible rfl
                  simp only [Act.put, List.setIfInBounds_toArray, List.set_cons_zero, List.set_cons_succ]
                  refine pl_take (d := some 94) (v := .bool true) (by rfl) (by go_simp <;> (try simp [*])) rfl ?_
                  simp only [Act.put, List.setIfInBounds_toArray, List.set_cons_zero, List.set_cons_succ]
                  refine pl_nil ?_
                  go_upto_region 25 with fail
                  try simp only [Act.put]
                  refine pl_begin ?_
                  refine pl_take (d := some 95) (v := .agg zc.toArray) (by rfl) (ex_build (parts := []) rfl rfl (hbn _)) rfl ?_
                  simp only [Act.put, List.setIfInBounds_toArray, List.set_cons_zero, List.set_cons_succ]
                  refine pl_take (d := some 96) (v := ?_) (by rfl) ?_ rfl ?_
                  rotate_left
                  · go_simp
                    try with_reducible rfl
                  simp only [Act.put, List.setIfInBounds_toArray, List.set_cons_zero, List.set_cons_succ]
                  refine pl_store (w' := w7.setCells A 0 zc) (by rfl) (ex_put (cs := zc.toArray) rfl rfl rfl (by simpa [hzl] using th7) (by simpa [hzl] using iszSt) (all_one hz1)) rfl ?_
                  refine pl_take (d := some 5) (v := ?_) (by rfl) ?_ rfl ?_
                  rotate_left
                  · go_simp
                    try with_reducible rfl
                  simp only [Act.put, List.setIfInBounds_toArray, List.set_cons_zero, List.set_cons_succ]
                  refine pl_nil ?_
                  have hrs := run_loadVar_mid (P := Try.prog) (w7.setCells A 0 zc) A 0 30 zc _ (World.rangeAt_setCells_same w7 A 0 zc (by rw [hzl]; exact th7)) Try.underlying30 rfl (by rw [hzl]; exact iszSt)
                  have HF : Hid (ParsA w PP (.returned (.tuple #[.agg zc.toArray, .int .i64 d])) (w7.setCells A 0 zc)) := hide (by
                    rw [HPE.out]
                    exact pars_out (x := Stt.zero) hz0.out.symm HA.out B7 rfl rfl Stt.zero_ok (Stt.zero_at _) (Stt.zero_lo _))
                  clear th7 B7 HPE
                  go_wp2_with fail
                  refine bodyPost_ret (results_ct rfl _ _ _ rfl hrs) rfl ?_
                  exact HF.out
                · subst hd
                  exfalso
                  exact HNE.out hd_.out
            · have k1 : ¬ ((k2 : Int) < M) := by omega
              obtain ⟨pv, HX⟩ := HQ.out
              clear HQ
              have hk2 : k2 = M := by omega
              subst hk2
              have hpl := itR_length (nuR 1048592) s6 k2
              obtain ⟨sF, hsF⟩ : ∃ t, (itR (nuR 1048592) s6 k2).2 = t := ⟨_, rfl⟩
              rw [hsF] at HX
              have HS : Hid (RR.2 = sF) := hide (by rw [← HRR.out]; simp only; rw [HE6.out]; simp only [Int.toNat_natCast]; exact hsF)
              have HRR1 : RR.1 = ⟨v1, v2, v3, pad32 dd, (itR wiR s5 k).1, (itR (nuR 1048592) s6 k2).1⟩ := by rw [← HRR.out]; simp only; rw [HE6.out]; simp only [Int.toNat_natCast]
              have b1 := HB1.out
              have b2 := HB2.out
              have b3 := HB3.out
              clear hsF HE6
              go_upto_region 18 with fail
              try simp only [Act.put]
              refine pl_begin ?_
              refine pl_take (d := some 64) (v := ?_) (by rfl) ?_ rfl ?_
              rotate_left
              · go_simp
                try with_reducible rfl
              simp only [Act.put, List.setIfInBounds_toArray, List.set_cons_zero, List.set_cons_succ]
              refine pl_take (d := some 65) (v := ?_) (by rfl) ?_ rfl ?_
              rotate_left
              · go_simp
                try with_reducible rfl
              simp only [Act.put, List.setIfInBounds_toArray, List.set_cons_zero, List.set_cons_succ]
              refine pl_take (d := some 66) (v := .bool false) (by rfl) (by go_simp <;> (try simp) <;> (try omega)) rfl ?_
              simp only [Act.put, List.setIfInBounds_toArray, List.set_cons_zero, List.set_cons_succ]
              refine pl_take (d := some 67) (v := ?_) (by rfl) ?_ rfl ?_
              rotate_left
              · go_simp
                try with_reducible rfl
              simp only [Act.put, List.setIfInBounds_toArray, List.set_cons_zero, List.set_cons_succ]
              refine pl_skip (d := some 68) (by rfl) rfl ?_
              simp only [Act.put, List.setIfInBounds_toArray, List.set_cons_zero, List.set_cons_succ]
              refine pl_skip (d := some 69) (by rfl) rfl ?_
              simp only [Act.put, List.setIfInBounds_toArray, List.set_cons_zero, List.set_cons_succ]
              refine pl_skip (d := some 70) (by rfl) rfl ?_
              simp only [Act.put, List.setIfInBounds_toArray, List.set_cons_zero, List.set_cons_succ]
              refine pl_skip (d := some 71) (by rfl) rfl ?_
              simp only [Act.put, List.setIfInBounds_toArray, List.set_cons_zero, List.set_cons_succ]
              refine pl_skip (d := some 72) (by rfl) rfl ?_
              simp only [Act.put, List.setIfInBounds_toArray, List.set_cons_zero, List.set_cons_succ]
              refine pl_take (d := some 73) (v := ?_) (by rfl) ?_ rfl ?_
              rotate_left
              · go_simp
                try with_reducible rfl
              simp only [Act.put, List.setIfInBounds_toArray, List.set_cons_zero, List.set_cons_succ]
              refine pl_nil ?_
              have HRR1 : RR.1 = ⟨v1, v2, v3, dp, (itR wiR s5 k).1, (itR (nuR 1048592) s6 k2).1⟩ := by rw [HRR1, Hdp.out]
              have HX7w := HX.gr
              go_upto_region 21 with fail
              try simp only [Act.put]
              refine pl_begin ?_
              refine pl_take (d := some 83) (v := ?_) (by rfl) ?_ rfl ?_
              rotate_left
              · go_simp
                try with_reducible rfl
              simp only [Act.put, List.setIfInBounds_toArray, List.set_cons_zero, List.set_cons_succ]
              refine pl_call (d := some 84) (by rfl) (by go_simp; first | done | exact ⟨rfl, rfl⟩ | with_reducible rfl) rfl ?_
              refine (xdoneS D X _ _ HX.st).mono ?_
              rintro _ w7 ⟨rfl, hb7⟩
              refine ⟨_, rfl, ?_⟩
              simp only [Act.put, List.setIfInBounds_toArray, List.set_cons_zero, List.set_cons_succ]
              refine pl_take (d := some 13) (v := ?_) (by rfl) ?_ rfl ?_
              rotate_left
              · go_simp
                try with_reducible rfl
              simp only [Act.put, List.setIfInBounds_toArray, List.set_cons_zero, List.set_cons_succ]
              refine pl_nil ?_
              have HX7 := HX.below hb7
              have B7 : Below w.heap.size w w7 := below_gbX B3 HX7.gr HXw.out
              have th7 : w7.there A 0 37 := there_gbR tA3 HX7.gr HAs.out.1 HAs.out.2.1
              have rc7 : w7.rangeAt C 0 u := range_gbR rc3 HX7.gr HAs.out.2.2.1 HAs.out.2.2.2
              obtain ⟨d, hd_⟩ : ∃ d, Hid (doneE sF.1 sF.2 = d) := ⟨_, hide rfl⟩
              simp only [hd_.out]
              clear HX hb7 HX7w
              by_cases hd : d = 0
              rotate_left
              · have hdb : (d == 0) = false := by simpa using hd
                have hdn : (d != 0) = true := by simpa using hd
                have HPE : Hid (PP = (Sp.zero, d)) := hide (by rw [HP.out, HS.out, hd_.out, if_pos hd])
                clear hd HX7 rc7
                go_upto_region 22 with fail
                try simp only [Act.put]
                refine pl_begin ?_
                refine pl_take (d := some 85) (v := ?_) (by rfl) ?_ rfl ?_
                rotate_left
                · go_simp
                  try with_reducible rfl
                simp only [Act.put, List.setIfInBounds_toArray, List.set_cons_zero, List.set_cons_succ]
                refine pl_take (d := some 86) (v := .bool false) (by rfl) (by go_simp <;> (try simp [*])) rfl ?_
                simp only [Act.put, List.setIfInBounds_toArray, List.set_cons_zero, List.set_cons_succ]
                refine pl_take (d := some 87) (v := ?_) (by rfl) ?_ rfl ?_
                rotate_left
                · go_simp
                  try with_reducible rfl
                simp only [Act.put, List.setIfInBounds_toArray, List.set_cons_zero, List.set_cons_succ]
                refine pl_skip (d := some 88) (by rfl) rfl ?_
                simp only [Act.put, List.setIfInBounds_toArray, List.set_cons_zero, List.set_cons_succ]
                refine pl_skip (d := some 89) (by rfl) rfl ?_
                simp only [Act.put, List.setIfInBounds_toArray, List.set_cons_zero, List.set_cons_succ]
                refine pl_skip (d := some 90) (by rfl) rfl ?_
                simp only [Act.put, List.setIfInBounds_toArray, List.set_cons_zero, List.set_cons_succ]
                refine pl_skip (d := some 91) (by rfl) rfl ?_
                simp only [Act.put, List.setIfInBounds_toArray, List.set_cons_zero, List.set_cons_succ]
                refine pl_take (d := some 92) (v := ?_) (by rfl) ?_ rfl ?_
                rotate_left
                · go_simp
                  try with_reducible rfl
                simp only [Act.put, List.setIfInBounds_toArray, List.set_cons_zero, List.set_cons_succ]
                refine pl_nil ?_
                go_upto_region 24 with fail
                try simp only [Act.put]
                refine pl_begin ?_
                refine pl_take (d := some 93) (v := ?_) (by rfl) ?_ rfl ?_
                rotate_left
                · go_simp
                  try with_reducible rfl
                simp only [Act.put, List.setIfInBounds_toArray, List.set_cons_zero, List.set_cons_succ]
                refine pl_take (d := some 94) (v := .bool true) (by rfl) (by go_simp <;> (try simp [*])) rfl ?_
                simp only [Act.put, List.setIfInBounds_toArray, List.set_cons_zero, List.set_cons_succ]
                refine pl_nil ?_
                go_upto_region 25 with fail
                try simp only [Act.put]
                refine pl_begin ?_
                refine pl_take (d := some 95) (v := .agg zc.toArray) (by rfl) (ex_build (parts := []) rfl rfl (hbn _)) rfl ?_
                simp only [Act.put, List.setIfInBounds_toArray, List.set_cons_zero, List.set_cons_succ]
                refine pl_take (d := some 96) (v := ?_) (by rfl) ?_ rfl ?_
                rotate_left
                · go_simp
                  try with_reducible rfl
                simp only [Act.put, List.setIfInBounds_toArray, List.set_cons_zero, List.set_cons_succ]
                refine pl_store (w' := w7.setCells A 0 zc) (by rfl) (ex_put (cs := zc.toArray) rfl rfl rfl (by simpa [hzl] using th7) (by simpa [hzl] using iszSt) (all_one hz1)) rfl ?_
                refine pl_take (d := some 5) (v := ?_) (by rfl) ?_ rfl ?_
                rotate_left
                · go_simp
                  try with_reducible rfl
                simp only [Act.put, List.setIfInBounds_toArray, List.set_cons_zero, List.set_cons_succ]
                refine pl_nil ?_
                have hrs := run_loadVar_mid (P := Try.prog) (w7.setCells A 0 zc) A 0 30 zc _ (World.rangeAt_setCells_same w7 A 0 zc (by rw [hzl]; exact th7)) Try.underlying30 rfl (by rw [hzl]; exact iszSt)
                have HF : Hid (ParsA w PP (.returned (.tuple #[.agg zc.toArray, .int .i64 d])) (w7.setCells A 0 zc)) := hide (by
                  rw [HPE.out]
                  exact pars_out (x := Stt.zero) hz0.out.symm HA.out B7 rfl rfl Stt.zero_ok (Stt.zero_at _) (Stt.zero_lo _))
                clear th7 B7 HPE
                go_wp2_with fail
                refine bodyPost_ret (results_ct rfl _ _ _ rfl hrs) rfl ?_
                exact HF.out
              · subst hd

                obtain ⟨x, xc, xs, xo, xa, xl⟩ := HX7.done ⟨by show _ ≤ v1; omega, by show v1 ≤ _; omega⟩ ⟨by show _ ≤ v2; omega, by show v2 ≤ _; omega⟩ ⟨by show _ ≤ v3; omega, by show v3 ≤ _; omega⟩ (by simp only; omega) (by simp only; omega)
                have rq := HX7.row
                rw [← xc] at rq
                have hxl : x.cells.length = 37 := Stt.len xo
                have hx1 := Stt.one x
                have hix : (Try.prog.info? 30).map (·.size) = some x.cells.length := by rw [hxl]; exact iszSt
                have cg := cG x w7 xo xa
                rw [Stt.good_sp, xs] at cg
                have xl' : x.Lo (A + 1) := xl.mono (by have := HAs.out.1; omega)
                have sB7 := HX7.lb
                obtain ⟨sp, hsp⟩ : ∃ p : Sp, Hid (RR.1 = p) := ⟨_, hide rfl⟩
                have hxs : x.sp = sp := by rw [xs, ← hsp.out, HRR1]
                rw [← HRR1, hsp.out] at cg
                clear HX7 xc xl
                obtain ⟨q, hq⟩ : ∃ q, Hid (x.cells = q) := ⟨_, hide rfl⟩
                rw [hq.out] at rq hxl hx1 hix
                simp only [hq.out] at cg
                go_upto_region 22 with fail
                try simp only [Act.put]
                refine pl_begin ?_
                refine pl_take (d := some 85) (v := ?_) (by rfl) ?_ rfl ?_
                rotate_left
                · go_simp
                  try with_reducible rfl
                simp only [Act.put, List.setIfInBounds_toArray, List.set_cons_zero, List.set_cons_succ]
                refine pl_take (d := some 86) (v := .bool true) (by rfl) (by go_simp) rfl ?_
                simp only [Act.put, List.setIfInBounds_toArray, List.set_cons_zero, List.set_cons_succ]
                refine pl_take (d := some 87) (v := ?_) (by rfl) ?_ rfl ?_
                rotate_left
                · go_simp
                  try with_reducible rfl
                simp only [Act.put, List.setIfInBounds_toArray, List.set_cons_zero, List.set_cons_succ]
                refine pl_take (d := some 88) (v := .agg u.toArray) (by rfl) (ex_mid rfl rfl rc7 Try.underlying23 rfl iu) rfl ?_
                simp only [Act.put, List.setIfInBounds_toArray, List.set_cons_zero, List.set_cons_succ]
                refine pl_take (d := some 89) (v := .agg q.toArray) (by rfl) (ex_mid rfl rfl rq Try.underlying30 rfl hix) rfl ?_
                simp only [Act.put, List.setIfInBounds_toArray, List.set_cons_zero, List.set_cons_succ]
                refine pl_call (d := some 90) (by rfl) (by go_simp; first | done | exact ⟨rfl, rfl⟩ | with_reducible rfl) rfl ?_
                refine (cg).mono ?_
                rintro _ w9 ⟨rfl, hb9⟩
                refine ⟨_, rfl, ?_⟩
                simp only [Act.put, List.setIfInBounds_toArray, List.set_cons_zero, List.set_cons_succ]
                have B9 := B7.trans (hb9.mono B7.size)
                have th9 := there_below th7 hb9 (by have := HAs.out.1; have := sB7; have := HXB.out; omega)
                have rq9 := range_below rq hb9 sB7
                have xa9 := xa.below hb9
                obtain ⟨g, hg⟩ : ∃ g, Hid (sp.good c = g) := ⟨_, hide rfl⟩
                simp only [hg.out]
                clear th7 rc7 rq hb9 B7 cg xa
                cases g
                · have HPE : Hid (PP = (Sp.zero, 220)) := hide (by rw [HP.out, HS.out, hd_.out, if_neg (by simp), hsp.out, hg.out, if_neg (by simp)])
                  clear hg rq9 xa9
                  refine pl_take (d := some 91) (v := .bool true) (by rfl) (by go_simp <;> (try simp [*])) rfl ?_
                  simp only [Act.put, List.setIfInBounds_toArray, List.set_cons_zero, List.set_cons_succ]
                  refine pl_take (d := some 92) (v := ?_) (by rfl) ?_ rfl ?_
                  rotate_left
                  · go_simp
                    try with_reducible rfl
                  simp only [Act.put, List.setIfInBounds_toArray, List.set_cons_zero, List.set_cons_succ]
                  refine pl_nil ?_
                  go_upto_region 23 with fail
                  try simp only [Act.put]
                  refine pl_begin ?_
                  refine pl_take (d := some 13) (v := ?_) (by rfl) ?_ rfl ?_
                  rotate_left
                  · go_simp
                    try with_reducible rfl
                  simp only [Act.put, List.setIfInBounds_toArray, List.set_cons_zero, List.set_cons_succ]
                  refine pl_nil ?_
                  go_upto_region 24 with fail
                  try simp only [Act.put]
                  refine pl_begin ?_
                  refine pl_take (d := some 93) (v := ?_) (by rfl) ?_ rfl ?_
                  rotate_left
                  · go_simp
                    try with_reducible rfl
                  simp only [Act.put, List.setIfInBounds_toArray, List.set_cons_zero, List.set_cons_succ]
                  refine pl_take (d := some 94) (v := .bool true) (by rfl) (by go_simp <;> (try simp [*])) rfl ?_
                  simp only [Act.put, List.setIfInBounds_toArray, List.set_cons_zero, List.set_cons_succ]
                  refine pl_nil ?_
                  go_upto_region 25 with fail
                  try simp only [Act.put]
                  refine pl_begin ?_
                  refine pl_take (d := some 95) (v := .agg zc.toArray) (by rfl) (ex_build (parts := []) rfl rfl (hbn _)) rfl ?_
                  simp only [Act.put, List.setIfInBounds_toArray, List.set_cons_zero, List.set_cons_succ]
                  refine pl_take (d := some 96) (v := ?_) (by rfl) ?_ rfl ?_
                  rotate_left
                  · go_simp
                    try with_reducible rfl
                  simp only [Act.put, List.setIfInBounds_toArray, List.set_cons_zero, List.set_cons_succ]
                  refine pl_store (w' := w9.setCells A 0 zc) (by rfl) (ex_put (cs := zc.toArray) rfl rfl rfl (by simpa [hzl] using th9) (by simpa [hzl] using iszSt) (all_one hz1)) rfl ?_
                  refine pl_take (d := some 5) (v := ?_) (by rfl) ?_ rfl ?_
                  rotate_left
                  · go_simp
                    try with_reducible rfl
                  simp only [Act.put, List.setIfInBounds_toArray, List.set_cons_zero, List.set_cons_succ]
                  refine pl_nil ?_
                  have hrs := run_loadVar_mid (P := Try.prog) (w9.setCells A 0 zc) A 0 30 zc _ (World.rangeAt_setCells_same w9 A 0 zc (by rw [hzl]; exact th9)) Try.underlying30 rfl (by rw [hzl]; exact iszSt)
                  have HF : Hid (ParsA w PP (.returned (.tuple #[.agg zc.toArray, .int .i64 220])) (w9.setCells A 0 zc)) := hide (by
                    rw [HPE.out]
                    exact pars_out (x := Stt.zero) hz0.out.symm HA.out B9 rfl rfl Stt.zero_ok (Stt.zero_at _) (Stt.zero_lo _))
                  clear th9 B9 HPE
                  go_wp2_with fail
                  refine bodyPost_ret (results_ct rfl _ _ _ rfl hrs) rfl ?_
                  exact HF.out
                · have HPE : Hid (PP = (sp, 0)) := hide (by rw [HP.out, HS.out, hd_.out, if_neg (by simp), hsp.out, if_pos hg.out])
                  clear hg
                  refine pl_take (d := some 91) (v := .bool false) (by rfl) (by go_simp <;> (try simp [*])) rfl ?_
                  simp only [Act.put, List.setIfInBounds_toArray, List.set_cons_zero, List.set_cons_succ]
                  refine pl_take (d := some 92) (v := ?_) (by rfl) ?_ rfl ?_
                  rotate_left
                  · go_simp
                    try with_reducible rfl
                  simp only [Act.put, List.setIfInBounds_toArray, List.set_cons_zero, List.set_cons_succ]
                  refine pl_nil ?_
                  go_upto_region 24 with fail
                  try simp only [Act.put]
                  refine pl_begin ?_
                  refine pl_take (d := some 93) (v := ?_) (by rfl) ?_ rfl ?_
                  rotate_left
                  · go_simp
                    try with_reducible rfl
                  simp only [Act.put, List.setIfInBounds_toArray, List.set_cons_zero, List.set_cons_succ]
                  refine pl_take (d := some 94) (v := .bool false) (by rfl) (by go_simp) rfl ?_
                  simp only [Act.put, List.setIfInBounds_toArray, List.set_cons_zero, List.set_cons_succ]
                  refine pl_nil ?_
                  go_upto_region 26 with fail
                  try simp only [Act.put]
                  refine pl_begin ?_
                  refine pl_take (d := some 97) (v := .agg q.toArray) (by rfl) (ex_mid rfl rfl rq9 Try.underlying30 rfl hix) rfl ?_
                  simp only [Act.put, List.setIfInBounds_toArray, List.set_cons_zero, List.set_cons_succ]
                  refine pl_store (w' := w9.setCells A 0 q) (by rfl) (ex_put (cs := q.toArray) rfl rfl rfl (by simpa [hxl] using th9) (by simpa using hix) (all_one hx1)) rfl ?_
                  refine pl_take (d := some 5) (v := ?_) (by rfl) ?_ rfl ?_
                  rotate_left
                  · go_simp
                    try with_reducible rfl
                  simp only [Act.put, List.setIfInBounds_toArray, List.set_cons_zero, List.set_cons_succ]
                  refine pl_nil ?_
                  have hrs := run_loadVar_mid (P := Try.prog) (w9.setCells A 0 q) A 0 30 q _ (World.rangeAt_setCells_same w9 A 0 q (by rw [hxl]; exact th9)) Try.underlying30 rfl (by rw [hxl]; exact iszSt)
                  have HF : Hid (ParsA w PP (.returned (.tuple #[.agg q.toArray, .int .i64 0])) (w9.setCells A 0 q)) := hide (by
                    rw [HPE.out]
                    exact pars_out (x := x) hq.out HA.out B9 rfl hxs xo xa9 xl')
                  clear rq9 B9 th9 xa9 HPE
                  go_wp2_with fail
                  refine bodyPost_ret (results_ct rfl _ _ _ rfl hrs) rfl ?_
                  exact HF.out
end Go.Proofs.Ytaaifcpanflejaa
namespace Go.Proofs.Ytaaifcpanflejaa
open Go.RowKit
open Sha Tal
set_option linter.unusedVariables false
set_option linter.unusedSimpArgs false
set_option maxRecDepth 100000 in
set_option maxHeartbeats 4000000 in
theorem stateParses_walk (c : Ld.Cfg) (sb : ByteArray) (w : World) (hsz : sb.size ≤ 9223372036854775807) : Calls Try.prog 3 #[.agg (cfgL c).toArray, .string sb] w fun e w' => e = .returned (.bool true) ∧ Below w.heap.size w w' := by
  obtain ⟨zc, hzl, hzr⟩ : ∃ z : List Value, z.length = 37 ∧ (∀ w : World, (zeroValue 30).run Try.prog w = .ok (.agg z.toArray) w) := ⟨_, Stt.len Stt.zero_ok, zeroS0⟩
  have iu := iszCf c
  obtain ⟨hB, rc, sc⟩ := boxed_new w (cfgL c) 23
  have cA := fun (h : sb.size ≤ 5000) w0 => sparse_any c sb w0 (by omega)
  have cX := fun (h : sb.size ≤ 5000) w0 => xsparse_any c sb w0 (by omega)
  unfold ParsA at cA cX
  generalize parseS c (strL sb) = pp at cA cX
  generalize cfgL c = u at *
  obtain ⟨n, hn⟩ : ∃ n, sb.size = n := ⟨_, rfl⟩
  rw [hn] at hsz cA cX
  go_enter Try.func3, Try.ntmps3
  go_upto_region 1 with fail
  obtain ⟨W, hW⟩ : ∃ W, w.alloc (.cells u.toArray 23) = W := ⟨_, rfl⟩
  rw [hW] at rc hB sc ⊢
  clear hW
  obtain ⟨C, hC⟩ : ∃ C, w.heap.size = C := ⟨_, rfl⟩
  rw [hC] at rc sc
  simp only [hC]
  clear hC
  by_cases hl : n ≤ 5000
  rotate_left
  · have h2 : (5000 : Int) < n := by omega
    clear cA cX
    try simp only [Act.put]
    refine pl_begin ?_
    refine pl_take (d := some 9) (v := ?_) (by rfl) ?_ rfl ?_
    rotate_left
    · go_simp
      try with_reducible rfl
    simp only [Act.put, List.setIfInBounds_toArray, List.set_cons_zero, List.set_cons_succ]
    refine pl_take (d := some 10) (v := .int .i64 (n : Int)) (by rfl) (by go_simp <;> (try simp [hn])) rfl ?_
    simp only [Act.put, List.setIfInBounds_toArray, List.set_cons_zero, List.set_cons_succ]
    refine pl_take (d := some 11) (v := .bool true) (by rfl) (by go_simp <;> (try simp [*])) rfl ?_
    simp only [Act.put, List.setIfInBounds_toArray, List.set_cons_zero, List.set_cons_succ]
    refine pl_nil ?_
    go_upto_region 2 with fail
    try simp only [Act.put]
    refine pl_begin ?_
    refine pl_call (d := some 12) (by rfl) (by go_simp; first | done | exact ⟨rfl, rfl⟩ | with_reducible rfl) rfl ?_
    refine (lives22_any W).mono ?_
    rintro _ wL ⟨rfl, hbL⟩
    refine ⟨_, rfl, ?_⟩
    simp only [Act.put, List.setIfInBounds_toArray, List.set_cons_zero, List.set_cons_succ]
    refine pl_take (d := some 4) (v := ?_) (by rfl) ?_ rfl ?_
    rotate_left
    · go_simp
      try with_reducible rfl
    simp only [Act.put, List.setIfInBounds_toArray, List.set_cons_zero, List.set_cons_succ]
    refine pl_nil ?_
    have HB := hide (hB.trans (hbL.mono hB.size))
    go_wp2_with fail
    go_ret
    exact ⟨rfl, HB.out⟩
  have h2 : ¬ (5000 : Int) < n := by omega
  have cA := cA hl
  have cX := cX hl
  try simp only [Act.put]
  refine pl_begin ?_
  refine pl_take (d := some 9) (v := ?_) (by rfl) ?_ rfl ?_
  rotate_left
  · go_simp
    try with_reducible rfl
  simp only [Act.put, List.setIfInBounds_toArray, List.set_cons_zero, List.set_cons_succ]
  refine pl_take (d := some 10) (v := .int .i64 (n : Int)) (by rfl) (by go_simp <;> (try simp [hn])) rfl ?_
  simp only [Act.put, List.setIfInBounds_toArray, List.set_cons_zero, List.set_cons_succ]
  refine pl_take (d := some 11) (v := .bool false) (by rfl) (by go_simp <;> (try simp [*])) rfl ?_
  simp only [Act.put, List.setIfInBounds_toArray, List.set_cons_zero, List.set_cons_succ]
  refine pl_nil ?_
  go_upto_region 3 with fail
  try simp only [Act.put]
  refine pl_begin ?_
  refine pl_take (d := some 14) (v := .agg u.toArray) (by rfl) (ex_mid rfl rfl rc Try.underlying23 rfl iu) rfl ?_
  simp only [Act.put, List.setIfInBounds_toArray, List.set_cons_zero, List.set_cons_succ]
  refine pl_take (d := some 15) (v := ?_) (by rfl) ?_ rfl ?_
  rotate_left
  · go_simp
    try with_reducible rfl
  simp only [Act.put, List.setIfInBounds_toArray, List.set_cons_zero, List.set_cons_succ]
  refine pl_call (d := some 16) (by rfl) (by go_simp; first | done | exact ⟨rfl, rfl⟩ | with_reducible rfl) rfl ?_
  refine (cA W).mono ?_
  rintro _ w1 ⟨x, rfl, xs, xo, xa, xl, hb_w1⟩
  refine ⟨_, rfl, ?_⟩
  simp only [Act.put, List.setIfInBounds_toArray, List.set_cons_zero, List.set_cons_succ]
  have hxl : x.cells.length = 37 := Stt.len xo
  have hx1 := Stt.one x
  have hix : (Try.prog.info? 30).map (·.size) = some x.cells.length := by rw [hxl]; exact iszSt
  refine pl_take (d := some 13) (v := ?_) (by rfl) ?_ rfl ?_
  rotate_left
  · go_simp
    try with_reducible rfl
  simp only [Act.put, List.setIfInBounds_toArray, List.set_cons_zero, List.set_cons_succ]
  refine pl_take (d := some 17) (v := ?_) (by rfl) ?_ rfl ?_
  rotate_left
  · go_simp
    try with_reducible rfl
  simp only [Act.put, List.setIfInBounds_toArray, List.set_cons_zero, List.set_cons_succ]
  refine pl_take (d := some 18) (v := ?_) (by rfl) ?_ rfl ?_
  rotate_left
  · go_simp
    try with_reducible rfl
  simp only [Act.put, List.setIfInBounds_toArray, List.set_cons_zero, List.set_cons_succ]
  refine pl_run (d := some 5) (v := .pointer (some ⟨w1.heap.size, 0, none⟩)) (w' := w1.alloc (.cells zc.toArray 30)) (by rfl) (ex_alloc rfl (hzr _)) rfl ?_
  simp only [Act.put, List.setIfInBounds_toArray, List.set_cons_zero, List.set_cons_succ]
  refine pl_store (w' := (w1.alloc (.cells zc.toArray 30)).setCells w1.heap.size 0 x.cells) (by rfl) (ex_put (cs := x.cells.toArray) rfl rfl rfl (there_newN _ _ _ (by simp [hzl, hxl])) (by simpa using hix) (all_one hx1)) rfl ?_
  refine pl_take (d := some 6) (v := ?_) (by rfl) ?_ rfl ?_
  rotate_left
  · go_simp
    try with_reducible rfl
  simp only [Act.put, List.setIfInBounds_toArray, List.set_cons_zero, List.set_cons_succ]
  refine pl_nil ?_
  obtain ⟨rx, hF2, hF3, -⟩ := fresh_store w1 zc.toArray 30 x.cells (by simp [hzl, hxl])
  have B1 := (hB.trans (hb_w1.mono hB.size)).trans (hF2.mono (Nat.le_trans hB.size hb_w1.size))
  have rc1 := range_below (range_below rc hb_w1 sc) hF2 (Nat.lt_of_lt_of_le sc hb_w1.size)
  have xa1 := xa.below hF2
  obtain ⟨P, hP⟩ : ∃ X, w1.heap.size = X := ⟨_, rfl⟩
  simp only [hP] at rx hF3 xa1 rc1 B1 ⊢
  obtain ⟨w2, hw2⟩ : ∃ W, (w1.alloc (.cells zc.toArray 30)).setCells P 0 x.cells = W := ⟨_, rfl⟩
  simp only [hw2] at rx hF3 xa1 rc1 B1 ⊢
  have sx : P < w2.heap.size := by omega
  clear hF2 hF3 hw2 hP hb_w1 rc hB xa cA sc
  go_upto_region 4 with fail
  try simp only [Act.put]
  refine pl_begin ?_
  refine pl_take (d := some 20) (v := .agg u.toArray) (by rfl) (ex_mid rfl rfl rc1 Try.underlying23 rfl iu) rfl ?_
  simp only [Act.put, List.setIfInBounds_toArray, List.set_cons_zero, List.set_cons_succ]
  refine pl_take (d := some 21) (v := ?_) (by rfl) ?_ rfl ?_
  rotate_left
  · go_simp
    try with_reducible rfl
  simp only [Act.put, List.setIfInBounds_toArray, List.set_cons_zero, List.set_cons_succ]
  refine pl_call (d := some 22) (by rfl) (by go_simp; first | done | exact ⟨rfl, rfl⟩ | with_reducible rfl) rfl ?_
  refine (cX w2).mono ?_
  rintro _ w3 ⟨y, rfl, ys, yo, ya, yl, hb_w3⟩
  refine ⟨_, rfl, ?_⟩
  simp only [Act.put, List.setIfInBounds_toArray, List.set_cons_zero, List.set_cons_succ]
  have hyl : y.cells.length = 37 := Stt.len yo
  have hy1 := Stt.one y
  have hiy : (Try.prog.info? 30).map (·.size) = some y.cells.length := by rw [hyl]; exact iszSt
  refine pl_take (d := some 19) (v := ?_) (by rfl) ?_ rfl ?_
  rotate_left
  · go_simp
    try with_reducible rfl
  simp only [Act.put, List.setIfInBounds_toArray, List.set_cons_zero, List.set_cons_succ]
  refine pl_take (d := some 23) (v := ?_) (by rfl) ?_ rfl ?_
  rotate_left
  · go_simp
    try with_reducible rfl
  simp only [Act.put, List.setIfInBounds_toArray, List.set_cons_zero, List.set_cons_succ]
  refine pl_take (d := some 24) (v := ?_) (by rfl) ?_ rfl ?_
  rotate_left
  · go_simp
    try with_reducible rfl
  simp only [Act.put, List.setIfInBounds_toArray, List.set_cons_zero, List.set_cons_succ]
  refine pl_run (d := some 7) (v := .pointer (some ⟨w3.heap.size, 0, none⟩)) (w' := w3.alloc (.cells zc.toArray 30)) (by rfl) (ex_alloc rfl (hzr _)) rfl ?_
  simp only [Act.put, List.setIfInBounds_toArray, List.set_cons_zero, List.set_cons_succ]
  refine pl_store (w' := (w3.alloc (.cells zc.toArray 30)).setCells w3.heap.size 0 y.cells) (by rfl) (ex_put (cs := y.cells.toArray) rfl rfl rfl (there_newN _ _ _ (by simp [hzl, hyl])) (by simpa using hiy) (all_one hy1)) rfl ?_
  refine pl_take (d := some 8) (v := ?_) (by rfl) ?_ rfl ?_
  rotate_left
  · go_simp
    try with_reducible rfl
  simp only [Act.put, List.setIfInBounds_toArray, List.set_cons_zero, List.set_cons_succ]
  refine pl_nil ?_
  obtain ⟨ry, hF2, hF3, -⟩ := fresh_store w3 zc.toArray 30 y.cells (by simp [hzl, hyl])
  have B3 := (B1.trans (hb_w3.mono B1.size)).trans (hF2.mono (Nat.le_trans B1.size hb_w3.size))
  have rx3 := range_below (range_below rx hb_w3 sx) hF2 (Nat.lt_of_lt_of_le sx hb_w3.size)
  have xa3 := (xa1.below hb_w3).below hF2
  have ya3 := ya.below hF2
  obtain ⟨R, hR⟩ : ∃ X, w3.heap.size = X := ⟨_, rfl⟩
  simp only [hR] at ry hF3 xa3 ya3 rx3 B3 ⊢
  obtain ⟨w4, hw4⟩ : ∃ W, (w3.alloc (.cells zc.toArray 30)).setCells R 0 y.cells = W := ⟨_, rfl⟩
  simp only [hw4] at ry hF3 xa3 ya3 rx3 B3 ⊢
  have cS := xssame_any x y w4 xo yo xa3 ya3
  rw [show x.B y = true from Stt.B_sp.2 (by rw [xs, ys])] at cS
  obtain ⟨e, he⟩ : ∃ e, pp.2 = e := ⟨_, rfl⟩
  simp only [he]
  clear hF2 hF3 hw4 hR hb_w3 rx B1 xa1 ya cX rc1 he
  go_upto_region 5 with fail
  try simp only [Act.put]
  refine pl_begin ?_
  refine pl_take (d := some 25) (v := .agg x.cells.toArray) (by rfl) (ex_mid rfl rfl rx3 Try.underlying30 rfl hix) rfl ?_
  simp only [Act.put, List.setIfInBounds_toArray, List.set_cons_zero, List.set_cons_succ]
  refine pl_take (d := some 26) (v := .agg y.cells.toArray) (by rfl) (ex_mid rfl rfl ry Try.underlying30 rfl hiy) rfl ?_
  simp only [Act.put, List.setIfInBounds_toArray, List.set_cons_zero, List.set_cons_succ]
  refine pl_call (d := some 27) (by rfl) (by go_simp; first | done | exact ⟨rfl, rfl⟩ | with_reducible rfl) rfl ?_
  refine (cS).mono ?_
  rintro _ w5 ⟨rfl, hb5⟩
  refine ⟨_, rfl, ?_⟩
  simp only [Act.put, List.setIfInBounds_toArray, List.set_cons_zero, List.set_cons_succ]
  refine pl_take (d := some 28) (v := ?_) (by rfl) ?_ rfl ?_
  rotate_left
  · go_simp
    try with_reducible rfl
  simp only [Act.put, List.setIfInBounds_toArray, List.set_cons_zero, List.set_cons_succ]
  refine pl_take (d := some 29) (v := ?_) (by rfl) ?_ rfl ?_
  rotate_left
  · go_simp
    try with_reducible rfl
  simp only [Act.put, List.setIfInBounds_toArray, List.set_cons_zero, List.set_cons_succ]
  refine pl_take (d := some 30) (v := ?_) (by rfl) ?_ rfl ?_
  rotate_left
  · go_simp
    try with_reducible rfl
  simp only [Act.put, List.setIfInBounds_toArray, List.set_cons_zero, List.set_cons_succ]
  refine pl_take (d := some 31) (v := .bool true) (by rfl) (by go_simp) rfl ?_
  simp only [Act.put, List.setIfInBounds_toArray, List.set_cons_zero, List.set_cons_succ]
  refine pl_take (d := some 32) (v := ?_) (by rfl) ?_ rfl ?_
  rotate_left
  · go_simp
    try with_reducible rfl
  simp only [Act.put, List.setIfInBounds_toArray, List.set_cons_zero, List.set_cons_succ]
  refine pl_take (d := some 33) (v := ?_) (by rfl) ?_ rfl ?_
  rotate_left
  · go_simp
    try with_reducible rfl
  simp only [Act.put, List.setIfInBounds_toArray, List.set_cons_zero, List.set_cons_succ]
  refine pl_call (d := some 34) (by rfl) (by go_simp; first | done | exact ⟨rfl, rfl⟩ | with_reducible rfl) rfl ?_
  refine (lives22_any w5).mono ?_
  rintro _ w6 ⟨rfl, hb6⟩
  refine ⟨_, rfl, ?_⟩
  simp only [Act.put, List.setIfInBounds_toArray, List.set_cons_zero, List.set_cons_succ]
  refine pl_take (d := some 35) (v := ?_) (by rfl) ?_ rfl ?_
  rotate_left
  · go_simp
    try with_reducible rfl
  simp only [Act.put, List.setIfInBounds_toArray, List.set_cons_zero, List.set_cons_succ]
  refine pl_take (d := some 4) (v := ?_) (by rfl) ?_ rfl ?_
  rotate_left
  · go_simp
    try with_reducible rfl
  simp only [Act.put, List.setIfInBounds_toArray, List.set_cons_zero, List.set_cons_succ]
  refine pl_nil ?_
  have HB := hide ((B3.trans (hb5.mono B3.size)).trans (hb6.mono (Nat.le_trans B3.size hb5.size)))
  clear rx3 ry xa3 ya3 cS B3 hb5 hb6
  go_wp2_with fail
  go_ret
  exact ⟨rfl, HB.out⟩
end Go.Proofs.Ytaaifcpanflejaa
