/- the document's reader: changes; messages, read; messages, read: kind 0; messages, read: kind 1; messages, read: kind 2; messages, read: kind 3; messages, read: kind 4 -/
import Derived.Test.YtinndbipomlokaaGreatJB0
import Derived.Test.YtinndbipomlokaaGreatJB9
import Derived.Test.YtinndbipomlokaaGreatJB8
namespace Go.Proofs.YtinndbipomlokaaGreat
open Go.RowKit
open Sha Tal
set_option linter.unusedVariables false
set_option linter.unusedSimpArgs false
def xheS (s : Xst) : Hp × Xst := (⟨(xbaS s).1.1, (xbaS s).1.2, (xceS (xbaS s).2).1.1, (xceS (xbaS s).2).1.2⟩, (xceS (xbaS s).2).2)
def xchS (s : Xst) : Cp × Xst :=
  (⟨(xnuS 1048576 s).1, (xnuS 64 (xnuS 1048576 s).2).1, (xnuS 1099511627776 (xnuS 64 (xnuS 1048576 s).2).2).1, (xlsS 4 xheS (xnuS 1099511627776 (xnuS 64 (xnuS 1048576 s).2).2).2).1⟩, (xlsS 4 xheS (xnuS 1099511627776 (xnuS 64 (xnuS 1048576 s).2).2).2).2)
structure XV (w : World) (X A B n : Nat) (q : List Value) (W : World) : Prop where
  row : W.rangeAt B 0 q
  box : W.there B 0 n
  ans : W.there A 0 n
  gr : w.grownBy W (some X)
  lb : B < W.heap.size
  na : w.heap.size ≤ A
  ab : A < B
  lx : X < w.heap.size
theorem XV.on {w W W' : World} {X A B n : Nat} {q : List Value} (h : XV w X A B n q W) (g : W.grownBy W' (some X)) : XV w X A B n q W' := by
 have h1 := h.na
 have h2 := h.ab
 have h3 := h.lx
 have h4 := h.lb
 exact ⟨range_gbR h.row g h.lb (by omega), there_gbR h.box g h.lb (by omega), there_gbR h.ans g (by omega) (by omega), gb_trans h.gr g, Nat.lt_of_lt_of_le h.lb g.size, h1, h2, h3⟩
theorem XV.set {w W : World} {X A B n : Nat} {q q' : List Value} (h : XV w X A B n q W) (o : Nat) (vs : List Value) (hq : (W.setCells B o vs).rangeAt B 0 q') : XV w X A B n q' (W.setCells B o vs) :=
 ⟨hq, World.there_setCells h.box _ _ _, World.there_setCells h.ans _ _ _, gb_onR h.gr (below_sets (by have := h.na; have := h.ab; omega) vs o _ (Below.refl _ W)) (Nat.le_refl _), by rw [size_sets]; exact h.lb, h.na, h.ab, h.lx⟩
theorem XV.low {w W W' : World} {X A B n m : Nat} {q : List Value} (h : XV w X A B n q W) (hb : Below m W W') (hm : B < m) : XV w X A B n q W' := by
 have h1 := h.na
 have h2 := h.ab
 exact ⟨range_blk h.row (hb.block B hm), there_blk h.box (hb.block B hm), there_blk h.ans (hb.block A (by omega)), gb_onR h.gr hb (by omega), Nat.lt_of_lt_of_le h.lb hb.size, h1, h2, h.lx⟩
theorem XV.part {w W : World} {X A B n : Nat} {q : List Value} (h : XV w X A B n q W) (o m : Nat) (hm : o + m ≤ n) : W.there B o m := there_part1 h.box hm
structure XH (w : World) (D X A B : Nat) (a b c : Int) (t : Xst) (k : Nat) (W : World) : Prop where
  ex : ∃ (v : Value) (ys : List Hd), XV w X A B 4 [.int .i64 a, .int .i64 b, .int .i64 c, v] W ∧ ys.map Hd.pure = (xitG xheS t k).1 ∧ W.ownsRow (B + 1) 134 39 v ys.length (ys.flatMap Hd.cells) ∧ ∀ y ∈ ys, y.vt.ok ∧ y.At W ∧ y.Bk (fun b => B < b ∧ b < W.heap.size ∧ v.ownBlock ≠ some b)
  rs : XR W D X (xitG xheS t k).2
theorem zeroBa (w : World) : (zeroValue 24).run Tryz.prog w = .ok (.agg #[.bool false, .slice none 0 0]) w := by kernel_rfl
theorem own_gb {w w' : World} {B k n g : Nat} {t : TypeId} {v : Value} {xs : List Value} (h : w.ownsRow B t k v n xs) (hg : w.grownBy w' (some g)) (hlt : g < B) : w'.ownsRow B t k v n xs :=
 h.kept hg (by
  cases hv : v.ownBlock with
  | none => exact .inl rfl
  | some q => exact .inr (by have := (h.lt q hv).1; intro q2; injection q2 with q2; omega))
theorem own_cell {w : World} {B k n : Nat} {t : TypeId} {v : Value} {xs : List Value} (h : w.ownsRow B t k v n xs) : v.cells = #[v] ∧ v.oneCell' = true := by
 rcases h.2 with ⟨rfl, _⟩ | ⟨g, cap, cur, rfl, _⟩ <;> exact ⟨rfl, rfl⟩
theorem range_own {w w' : World} {b o : Nat} {v : Value} {cs : List Value} (h : w.rangeAt b o cs) (g : w.grownBy w' v.ownBlock) (hb : b < w.heap.size) (hne : ∀ q, v.ownBlock = some q → q ≠ b) : w'.rangeAt b o cs :=
 range_blk h (g.block b hb (fun e => hne b e.symm rfl))
theorem XH.step {w wr w4 w8 w6 w7 w9 : World} {D X A B k : Nat} {a b c : Int} {t : Xst} {v v9 : Value} {q : Bool} {x : Sl Rq} {vt : Vt} {y : Sl Sg} {ys : List Hd} (hAB : B + 1 ≤ wr.heap.size) (hXB : X < B) (hst : (xitG xheS t k).2.2 = 0)
  (hA : x.At RqE w4) (hB : x.Bk (fun b => wr.heap.size ≤ b ∧ b < w4.heap.size)) (hC : y.At SgE w6) (hD : y.Bk (fun b => w8.heap.size ≤ b ∧ b < w6.heap.size)) (hvt : vt.ok)
  (e1 : Hd.pure ⟨q, x, vt, y⟩ = (xheS (xitG xheS t k).2).1) (g4 : wr.grownBy w4 (some X)) (l8 : Below w4.heap.size w4 w8) (g6 : w8.grownBy w6 (some X)) (hb7 : Below w6.heap.size w6 w7) (g9 : w7.grownBy w9 v.ownBlock) (gb : ∀ g, v9.ownBlock = some g → v.ownBlock = some g ∨ w7.heap.size ≤ g)
  (e2 : ys.map Hd.pure = (xitG xheS t k).1) (HO : wr.ownsRow (B + 1) 134 39 v ys.length (ys.flatMap Hd.cells)) (hys : ∀ y ∈ ys, y.vt.ok ∧ y.At wr ∧ y.Bk (fun b => B < b ∧ b < wr.heap.size ∧ v.ownBlock ≠ some b))
  (o9 : w9.ownsRow (B + 1) 134 39 v9 (ys.length + 1) (ys.flatMap Hd.cells ++ Hd.cells ⟨q, x, vt, y⟩)) (Ve : XV w X A B 4 [.int .i64 a, .int .i64 b, .int .i64 c, v9] (w9.setCells B 3 [v9])) (S9 : XR w9 D X (xheS (xitG xheS t k).2).2) : XH w D X A B a b c t (k + 1) (w9.setCells B 3 [v9]) := by
 have z4 := g4.size
 have z8 := l8.size
 have z6 := g6.size
 have z7 := hb7.size
 have z9 := g9.size
 have hs : xitG xheS t (k + 1) = ((xitG xheS t k).1 ++ [(xheS (xitG xheS t k).2).1], (xheS (xitG xheS t k).2).2) := by
  show (if (xitG xheS t k).2.2 = 0 then _ else _) = _
  rw [if_pos hst]
 have zs : (w9.setCells B 3 [v9]).heap.size = w9.heap.size := size_sets ..
 have b9 : ∀ b, b ≠ B → (w9.setCells B 3 [v9]).heap[b]? = w9.heap[b]? := fun b hb => blk_sets hb
 have bl : ∀ b, b < w6.heap.size → v.ownBlock ≠ some b → w9.heap[b]? = w6.heap[b]? := fun b h1 h2 => (g9.block b (by omega) (fun q => h2 q.symm)).trans (hb7.block b h1)
 have nX : ∀ b : Nat, b ≠ X → some b ≠ some X := fun b hb q => by injection q with q; exact hb q
 have nv : ∀ b, wr.heap.size ≤ b → v.ownBlock ≠ some b := fun b hb q => by have := (HO.lt b q).2; omega
 refine ⟨⟨v9, ys ++ [⟨q, x, vt, y⟩], Ve, ?_, ?_, ?_⟩, by rw [hs]; exact S9.low (below_sets (Nat.le_refl _) [v9] 3 _ (Below.refl _ w9)) hXB⟩
 ·rw [List.map_append, e2, hs]
  show _ = (xitG xheS t k).1 ++ [(xheS (xitG xheS t k).2).1]
  rw [← e1]
  rfl
 ·have o : w9.ownsRow (B + 1) 134 39 v9 (ys ++ [(⟨q, x, vt, y⟩ : Hd)]).length ((ys ++ [(⟨q, x, vt, y⟩ : Hd)]).flatMap Hd.cells) := by
   rw [List.flatMap_append, List.length_append]
   simpa using o9
  exact own_gb o (gb_setsR w9 B [v9] 3) (by omega)
 ·intro u hu
  rcases List.mem_append.1 hu with g | g
  ·obtain ⟨u1, u2, u3⟩ := hys u g
   refine ⟨u1, u2.on (by omega) u3 (fun b hb hlt => ?_), u3.mono (fun b hb => ⟨hb.1, by omega, fun q => ?_⟩)⟩
   ·rw [b9 b (by omega), bl b (by omega) hb.2.2, g6.block b (by omega) (nX b (by omega)), l8.block b (by omega), g4.block b (by omega) (nX b (by omega))]
   ·rcases gb b q with g1 | g1
    ·exact hb.2.2 g1
    ·omega
  ·rw [List.mem_singleton.1 g]
   refine ⟨hvt, ⟨hA.on (by omega) hB (fun b hb hlt => ?_), hC.on (by omega) hD (fun b hb hlt => ?_)⟩, hB.mono (fun b hb => ⟨by omega, by omega, fun q => ?_⟩), hD.mono (fun b hb => ⟨by omega, by omega, fun q => ?_⟩)⟩
   ·rw [b9 b (by omega), bl b (by omega) (nv b hb.1), g6.block b (by omega) (nX b (by omega)), l8.block b (by omega)]
   ·rw [b9 b (by omega), bl b (by omega) (nv b (by omega))]
   ·rcases gb b q with g1 | g1
    ·exact nv b hb.1 g1
    ·omega
   ·rcases gb b q with g1 | g1
    ·exact nv b (by omega) g1
    ·omega
set_option maxRecDepth 100000 in
set_option maxHeartbeats 1000000 in
theorem xchangeS (D X : Nat) (s : Xst) (w : World) (h : XR w D X s) : Calls Tryz.prog 116 #[.pointer (some ⟨X, 0, none⟩)] w fun en w' => ∃ x : Sl Hd, en = .returned (.agg ([.int .i64 (xchS s).1.e, .int .i64 (xchS s).1.l, .int .i64 (xchS s).1.v, x.val] : List Value).toArray) ∧ x.xs.map Hd.pure = (xchS s).1.he ∧ HdsAt w' x ∧ x.Bk (fun b => w.heap.size ≤ b ∧ b < w'.heap.size) ∧ (∀ y ∈ x.xs, y.Bk (fun b => w.heap.size ≤ b ∧ b < w'.heap.size)) ∧ XR w' D X (xchS s).2 ∧ w.grownBy w' (some X) := by
 obtain ⟨zc, hzl, hzr, hzc⟩ : ∃ z : List Value, z.length = 4 ∧ (∀ w : World, (zeroValue 60).run Tryz.prog w = .ok (.agg z.toArray) w) ∧ Hid (z = [.int .i64 0, .int .i64 0, .int .i64 0, .slice none 0 0]) := ⟨_, rfl, zeroChE, hide rfl⟩
 obtain ⟨i1, hi1, hiz, his, hib⟩ := info_parts infoHd
 have hzk := zk_held
 have hXw := h.lx
 unfold xchS xlsS
 have c1 := fun w0 h0 => xnumS D X 1048576 s w0 h0
 have q1 : (xnuS 1048576 s).2.2 = 0 → Bs (xnuS 1048576 s).2.1 := numS_bz h.st.bs
 generalize xnuS 1048576 s = p_ at c1 q1 ⊢
 obtain ⟨v1, s1⟩ := p_
 simp only at c1 q1 ⊢
 have c2 := fun w0 h0 => xnumS D X 64 s1 w0 h0
 have q2 : (xnuS 64 s1).2.2 = 0 → Bs (xnuS 64 s1).2.1 := numS_bz q1
 generalize xnuS 64 s1 = p_ at c2 q2 ⊢
 obtain ⟨v2, s2⟩ := p_
 simp only at c2 q2 ⊢
 have c3 := fun w0 h0 => xnumS D X 1099511627776 s2 w0 h0
 have q3 : (xnuS 1099511627776 s2).2.2 = 0 → Bs (xnuS 1099511627776 s2).2.1 := numS_bz q2
 generalize xnuS 1099511627776 s2 = p_ at c3 q3 ⊢
 obtain ⟨v3, s3⟩ := p_
 simp only at c3 q3 ⊢
 have c4 := fun w0 h0 => xnumS D X 4 s3 w0 h0
 have hx1 : 0 ≤ (xnuS 4 s3).1 ∧ (xnuS 4 s3).1 ≤ 4 := numS_bd (most := 4) q3 (by omega)
 generalize xnuS 4 s3 = p_ at c4 hx1 ⊢
 obtain ⟨n, t⟩ := p_
 simp only at c4 hx1 ⊢
 obtain ⟨N, rfl⟩ : ∃ N : Nat, n = (N : Int) := ⟨n.toNat, by omega⟩
 have hN : N ≤ 4 := by omega
 rw [Int.toNat_natCast]
 clear hx1 q1 q2 q3
 obtain ⟨hB1, hr1, hs1⟩ := boxed_new w zc 60
 have ht1 := there_newN w zc.toArray 60 (n := 4) (by simp [hzl])
 go_enter Tryz.func116, Tryz.ntmps116
 go_upto_region 0 with fail
 try simp only [Act.put]
 refine pl_begin ?_
 refine pl_run (d := some 2) (v := .pointer (some ⟨w.heap.size, 0, none⟩)) (w' := w.alloc (.cells zc.toArray 60)) (by rfl) (ex_alloc rfl (hzr _)) rfl ?_
 simp only [nz]
 refine pl_nil ?_
 obtain ⟨W1, hW1⟩ : ∃ W, w.alloc (.cells zc.toArray 60) = W := ⟨_, rfl⟩
 rw [hW1] at hB1 hr1 hs1 ht1 ⊢
 clear hW1 hr1
 obtain ⟨hB2, hr2, hs2⟩ := boxed_new W1 zc 60
 have ht2 := there_newN W1 zc.toArray 60 (n := 4) (by simp [hzl])
 go_upto_region 1 with fail
 try simp only [Act.put]
 refine pl_begin ?_
 refine pl_run (d := some 3) (v := .pointer (some ⟨W1.heap.size, 0, none⟩)) (w' := W1.alloc (.cells zc.toArray 60)) (by rfl) (ex_alloc rfl (hzr _)) rfl ?_
 simp only [nz]
 refine pl_nil ?_
 obtain ⟨W2, hW2⟩ : ∃ W, W1.alloc (.cells zc.toArray 60) = W := ⟨_, rfl⟩
 rw [hW2] at hB2 hr2 hs2 ht2 ⊢
 clear hW2
 rw [hzc.out] at hr2
 have hBW := hB1.trans (hB2.mono hB1.size)
 have V0 : XV w X w.heap.size W1.heap.size 4 _ W2 := ⟨hr2, ht2, there_belowN ht1 hB2 hs1, gb_below hBW _, hs2, Nat.le_refl _, hs1, hXw⟩
 have S0 := h.below hBW
 clear hr2 ht2 ht1 hzr hzc hzl hB1 hB2 hBW hs2 h
 go_upto_region 2 with fail
 try simp only [Act.put]
 refine pl_begin ?_
 refine pl_t 7 (?_) (by rfl) ?_ rfl ?_
 rotate_left
 ·go_simp
  try with_reducible rfl
 simp only [nz]
 refine pl_call (d := some 8) (by rfl) (by go_simp; first | done | exact ⟨rfl, rfl⟩ | with_reducible rfl) rfl ?_
 refine (c1 W2 S0).mono ?_
 rintro _ wa1 ⟨rfl, Sa1, ga1⟩
 refine ⟨_, rfl, ?_⟩
 simp only [nz]
 refine pl_t 9 (?_) (by rfl) ?_ rfl ?_
 rotate_left
 ·go_simp
  try with_reducible rfl
 simp only [nz]
 have Va1 := V0.on ga1
 have Vb1 := Va1.set 0 [.int .i64 v1] (ch_put Va1.row _).1
 have Sb1 := Sa1.low (below_sets (b := W1.heap.size) (B := W1.heap.size) (Nat.le_refl _) [.int .i64 v1] 0 _ (Below.refl _ wa1)) (by omega)
 refine pl_store (w' := wa1.setCells W1.heap.size 0 [.int .i64 v1]) (by rfl) (ex_put1 (n := 4) rfl rfl rfl Va1.box (by decide) iszI rfl rfl) rfl ?_
 refine pl_nil ?_
 obtain ⟨wb1, hwb1⟩ : ∃ W, wa1.setCells W1.heap.size 0 [.int .i64 v1] = W := ⟨_, rfl⟩
 rw [hwb1] at Vb1 Sb1 ⊢
 clear hwb1
 clear Va1 Sa1 ga1 V0 S0 c1
 go_upto_region 3 with fail
 try simp only [Act.put]
 refine pl_begin ?_
 refine pl_t 10 (?_) (by rfl) ?_ rfl ?_
 rotate_left
 ·go_simp
  try with_reducible rfl
 simp only [nz]
 refine pl_call (d := some 11) (by rfl) (by go_simp; first | done | exact ⟨rfl, rfl⟩ | with_reducible rfl) rfl ?_
 refine (c2 wb1 Sb1).mono ?_
 rintro _ wa2 ⟨rfl, Sa2, ga2⟩
 refine ⟨_, rfl, ?_⟩
 simp only [nz]
 refine pl_t 12 (?_) (by rfl) ?_ rfl ?_
 rotate_left
 ·go_simp
  try with_reducible rfl
 simp only [nz]
 have Va2 := Vb1.on ga2
 have Vb2 := Va2.set 1 [.int .i64 v2] (ch_put Va2.row _).2.1
 have Sb2 := Sa2.low (below_sets (b := W1.heap.size) (B := W1.heap.size) (Nat.le_refl _) [.int .i64 v2] 1 _ (Below.refl _ wa2)) (by omega)
 refine pl_store (w' := wa2.setCells W1.heap.size 1 [.int .i64 v2]) (by rfl) (ex_put1 (n := 4) rfl rfl rfl Va2.box (by decide) iszI rfl rfl) rfl ?_
 refine pl_nil ?_
 obtain ⟨wb2, hwb2⟩ : ∃ W, wa2.setCells W1.heap.size 1 [.int .i64 v2] = W := ⟨_, rfl⟩
 rw [hwb2] at Vb2 Sb2 ⊢
 clear hwb2
 clear Va2 Sa2 ga2 Vb1 Sb1 c2
 go_upto_region 4 with fail
 try simp only [Act.put]
 refine pl_begin ?_
 refine pl_t 13 (?_) (by rfl) ?_ rfl ?_
 rotate_left
 ·go_simp
  try with_reducible rfl
 simp only [nz]
 refine pl_call (d := some 14) (by rfl) (by go_simp; first | done | exact ⟨rfl, rfl⟩ | with_reducible rfl) rfl ?_
 refine (c3 wb2 Sb2).mono ?_
 rintro _ wa3 ⟨rfl, Sa3, ga3⟩
 refine ⟨_, rfl, ?_⟩
 simp only [nz]
 refine pl_t 15 (?_) (by rfl) ?_ rfl ?_
 rotate_left
 ·go_simp
  try with_reducible rfl
 simp only [nz]
 have Va3 := Vb2.on ga3
 have Vb3 := Va3.set 2 [.int .i64 v3] (ch_put Va3.row _).2.2.1
 have Sb3 := Sa3.low (below_sets (b := W1.heap.size) (B := W1.heap.size) (Nat.le_refl _) [.int .i64 v3] 2 _ (Below.refl _ wa3)) (by omega)
 refine pl_store (w' := wa3.setCells W1.heap.size 2 [.int .i64 v3]) (by rfl) (ex_put1 (n := 4) rfl rfl rfl Va3.box (by decide) iszI rfl rfl) rfl ?_
 refine pl_nil ?_
 obtain ⟨wb3, hwb3⟩ : ∃ W, wa3.setCells W1.heap.size 2 [.int .i64 v3] = W := ⟨_, rfl⟩
 rw [hwb3] at Vb3 Sb3 ⊢
 clear hwb3
 clear Va3 Sa3 ga3 Vb2 Sb2 c3
 go_upto_region 5 with fail
 try simp only [Act.put]
 refine pl_begin ?_
 refine pl_t 16 (?_) (by rfl) ?_ rfl ?_
 rotate_left
 ·go_simp
  try with_reducible rfl
 simp only [nz]
 refine pl_call (d := some 17) (by rfl) (by go_simp; first | done | exact ⟨rfl, rfl⟩ | with_reducible rfl) rfl ?_
 refine (c4 wb3 Sb3).mono ?_
 rintro _ w3 ⟨rfl, S3, g3⟩
 refine ⟨_, rfl, ?_⟩
 simp only [nz]
 refine pl_t 4 (?_) (by rfl) ?_ rfl ?_
 rotate_left
 ·go_simp
  try with_reducible rfl
 simp only [nz]
 refine pl_nil ?_
 have V3 := Vb3.on g3
 clear Vb3 Sb3 g3 c4
 have HL0 : Hid (XH w D X w.heap.size W1.heap.size v1 v2 v3 t 0 w3) := hide ⟨⟨_, [], V3, rfl, World.ownsRow_nil _ _ _ _, fun y hy => by cases hy⟩, S3⟩
 clear V3 S3
 go_wp2_with fail
 go_loopw [5] (fun iv wr => ∃ k : Nat, k ≤ N ∧ iv = .int .i64 (k : Int) ∧ Hid (XH w D X w.heap.size W1.heap.size v1 v2 v3 t k wr)) (fun iv _ => N - (intOf iv).toNat)
 case atStart => exact ⟨0, by omega, rfl, HL0⟩
 case round =>
  clear HL0
  obtain ⟨k, hk, rfl, HL⟩ := hrel
  have HX := HL.out
  clear HL
  have hce := HX.rs.st.err
  by_cases hlt : k < N
  ·have k1 : (k : Int) < N := by omega
   by_cases he : (xitG xheS t k).2.2 = 0
   ·have het := he
    obtain ⟨ov, ys, HV, e2, HO, hys⟩ := HX.ex
    have HR := HX.rs
    clear HX
    rw [he] at hce
    clear he
    have he : True := trivial
    have cb := fun w0 h0 => xbatS D X (xitG xheS t k).2 w0 h0
    have cc := fun w0 h0 => xcertS D X (xbaS (xitG xheS t k).2).2 w0 h0
    have ep : (xheS (xitG xheS t k).2).1 = ⟨(xbaS (xitG xheS t k).2).1.1, (xbaS (xitG xheS t k).2).1.2, (xceS (xbaS (xitG xheS t k).2).2).1.1, (xceS (xbaS (xitG xheS t k).2).2).1.2⟩ := rfl
    have es : (xheS (xitG xheS t k).2).2 = (xceS (xbaS (xitG xheS t k).2).2).2 := rfl
    generalize xbaS (xitG xheS t k).2 = p_ at cb cc ep es
    obtain ⟨⟨q, rs⟩, tb⟩ := p_
    simp only at cb cc ep es
    generalize xceS tb = p_ at cc ep es
    obtain ⟨⟨vt, sg⟩, tc⟩ := p_
    simp only at cc ep es
    replace ep := hide ep
    replace es := hide es
    have hBr := HV.lb
    go_upto_region 7 with fail
    try simp only [Act.put]
    refine pl_begin ?_
    refine pl_t 18 (?_) (by rfl) ?_ rfl ?_
    rotate_left
    ·go_simp
     try with_reducible rfl
    simp only [nz]
    refine pl_t 19 (?_) (by rfl) ?_ rfl ?_
    rotate_left
    ·go_simp
     try with_reducible rfl
    simp only [nz]
    refine pl_t 20 (.bool true) (by rfl) (by go_simp <;> (try simp) <;> (try omega)) rfl ?_
    simp only [nz]
    refine pl_t 21 (?_) (by rfl) ?_ rfl ?_
    rotate_left
    ·go_simp
     try with_reducible rfl
    simp only [nz]
    refine pl_t 22 (?_) (by rfl) ?_ rfl ?_
    rotate_left
    ·go_simp
     try with_reducible rfl
    simp only [nz]
    refine pl_t 23 (?_) (by rfl) ?_ rfl ?_
    rotate_left
    ·go_simp
     try with_reducible rfl
    simp only [nz]
    refine pl_t 24 (?_) (by rfl) ?_ rfl ?_
    rotate_left
    ·go_simp
     try with_reducible rfl
    simp only [nz]
    refine pl_t 25 (.int .i64 0) (by rfl) (pl_one rfl rfl hce Tryz.underlying3 rfl) rfl ?_
    simp only [nz]
    refine pl_t 26 (.bool true) (by rfl) (by go_simp <;> (try simp [he])) rfl ?_
    simp only [nz]
    refine pl_t 27 (?_) (by rfl) ?_ rfl ?_
    rotate_left
    ·go_simp
     try with_reducible rfl
    simp only [nz]
    refine pl_nil ?_
    clear hce
    go_upto_region 9 with fail
    try simp only [Act.put]
    refine pl_begin ?_
    refine pl_t 30 (?_) (by rfl) ?_ rfl ?_
    rotate_left
    ·go_simp
     try with_reducible rfl
    simp only [nz]
    refine pl_call (d := some 31) (by rfl) (by go_simp; first | done | exact ⟨rfl, rfl⟩ | with_reducible rfl) rfl ?_
    refine (cb wr HR).mono ?_
    rintro _ w4 ⟨x, rfl, hx, hA, hB, S4, g4⟩
    refine ⟨_, rfl, ?_⟩
    simp only [nz]
    refine pl_run (d := some 6) (v := .pointer (some ⟨w4.heap.size, 0, none⟩)) (w' := w4.alloc (.cells #[.bool false, .slice none 0 0] 24)) (by rfl) (ex_alloc rfl (zeroBa _)) rfl ?_
    simp only [nz]
    refine pl_store (w' := (w4.alloc (.cells #[.bool false, .slice none 0 0] 24)).setCells w4.heap.size 0 [.bool q, x.val]) (by rfl) (ex_put (cs := #[.bool q, x.val]) rfl rfl rfl (there_newN _ _ _ rfl) iszBa (by simp [Value.oneCell', Sl.val])) rfl ?_
    refine pl_nil ?_
    obtain ⟨r5, hl5, hs5, -⟩ := fresh_store w4 #[.bool false, .slice none 0 0] 24 [.bool q, x.val] rfl
    obtain ⟨w5, hw5⟩ : ∃ W, (w4.alloc (.cells #[.bool false, .slice none 0 0] 24)).setCells w4.heap.size 0 [.bool q, x.val] = W := ⟨_, rfl⟩
    rw [hw5] at r5 hl5 hs5 ⊢
    clear hw5
    have z4 := g4.size
    have z5 := hl5.size
    have S5 := S4.below hl5
    go_upto_region 10 with fail
    have hd8 : Below w5.heap.size w5 w5.drew := (Below.refl _ _).drew
    have hS : (fun W' => W'.rangeAt w4.heap.size 0 [.bool q, x.val]) w5.drew := (World.rangeAt_drew _ _ _ _).2 r5
    have V8 := ((HV.on g4).low hl5 (by omega)).low hd8 (by omega)
    have S8 := S5.below hd8
    have z8 : w5.drew.heap.size = w5.heap.size := rfl
    refine hs_begin (S := (fun W' => W'.rangeAt w4.heap.size 0 [.bool q, x.val])) 10 rfl (by kernel_rfl) ?_
    obtain ⟨w8, hw8⟩ : ∃ W, w5.drew = W := ⟨_, rfl⟩
    rw [hw8] at hd8 hS S8 z8 V8 ⊢
    clear hw8 S5 r5
    have gb8 : w4.grownBy w8 (some X) := gb_onR (gb_below hl5 _) hd8 (by omega)
    refine hs_t 0 32 (?_) rfl (by kernel_rfl) (by kernel_rfl) (by kernel_rfl) (by rfl) ?_ hS rfl ?_
    rotate_left
    ·intro w' hw
     go_simp
     try with_reducible rfl
    simp only [nz]
    refine hs_t 2 34 (.agg #[.bool q, x.val]) rfl (by kernel_rfl) (by kernel_rfl) (by kernel_rfl) (by rfl) (fun w' hw => ex_mid rfl rfl hw Tryz.underlying24 rfl iszBa) hS rfl ?_
    simp only [nz]
    refine hs_t 3 35 (?_) rfl (by kernel_rfl) (by kernel_rfl) (by kernel_rfl) (by rfl) ?_ hS rfl ?_
    rotate_left
    ·intro w' hw
     go_simp
     try with_reducible rfl
    simp only [nz]
    refine hs_forkL (l := [1, 4]) (by kernel_rfl) (by simp) ?_
    intro ii hii
    simp only [List.mem_cons, List.not_mem_nil, or_false] at hii
    rcases hii with rfl | rfl
    ·refine st_run (i := 1) (d := some 33) (v := ov) (w' := w8) rfl (by rfl) (pl_one rfl rfl (V8.row 3 _ rfl) Tryz.underlying58 rfl) rfl hS ?_
     simp only [nz]
     refine hs_call (i := 4) (d := some 36) rfl (by kernel_rfl) (by rfl) (by go_simp; first | done | exact ⟨rfl, rfl⟩ | with_reducible rfl) rfl ?_
     refine (cc w8 S8).mono ?_
     rintro _ w6 ⟨y, rfl, hy, hC, hD, hvt, S6, g6⟩
     have hS : (fun W' => W'.rangeAt w4.heap.size 0 [.bool q, x.val]) w6 := range_gbR hS g6 (by omega) (by omega)
     refine ⟨_, rfl, hS, ?_⟩
     simp only [nz]
     have V6 := V8.on g6
     have hvl : (certL vt y).length = 37 := by have := hvt.len; simp [certL]; omega
     have hbs := fun w0 => build_held q x.val (certL vt y) hvl rfl w0
     have hul : (Hd.cells ⟨q, x, vt, y⟩).length = 39 := HdE.len ⟨q, x, vt, y⟩ hvt
     have hone : ∀ v ∈ Hd.cells ⟨q, x, vt, y⟩, v.oneCell' = true := HdE.one ⟨q, x, vt, y⟩
     have hbs : ∀ w0 : World, (Instr.build 134 #[(0, .agg #[.bool q, x.val]), (1, .agg (certL vt y).toArray)]).run Tryz.prog w0 = .ok (.agg (Hd.cells ⟨q, x, vt, y⟩).toArray) w0 := hbs
     obtain ⟨u, hu⟩ : ∃ u, Hid (Hd.cells ⟨q, x, vt, y⟩ = u) := ⟨_, hide rfl⟩
     simp only [hu.out] at hbs hul hone
     have o8 : w8.ownsRow (W1.heap.size + 1) 134 39 ov ys.length (ys.flatMap Hd.cells) := own_gb (own_gb HO g4 (by omega)) gb8 (by omega)
     have o6 : w6.ownsRow (W1.heap.size + 1) 134 39 ov ys.length (ys.flatMap Hd.cells) := own_gb o8 g6 (by omega)
     have z6 := g6.size
     refine hs_t 5 37 (.agg u.toArray) rfl (by kernel_rfl) (by kernel_rfl) (by kernel_rfl) (by rfl) (fun w' hw => ex_build (parts := [(0, .tmp 34), (1, .tmp 36)]) rfl rfl (hbs _)) hS rfl ?_
     simp only [nz]
     have hb7 : Below w6.heap.size w6 (w6.alloc (.cells u.toArray 134)) := (Below.refl _ _).alloc (Nat.le_refl _) _
     have r7 : (w6.alloc (.cells u.toArray 134)).rangeAt w6.heap.size 0 u := by simpa using range_new w6 u.toArray 134
     have o7 := o6.alloc (.cells u.toArray 134)
     have hS7 : (fun W' => W'.rangeAt w4.heap.size 0 [.bool q, x.val]) (w6.alloc (.cells u.toArray 134)) := World.rangeAt_alloc hS _
     refine hs_run (i := 6) (d := some 38) (v := .slice (some ⟨w6.heap.size, 0, none⟩) 1 1) (w' := w6.alloc (.cells u.toArray 134)) rfl (by kernel_rfl) (by rfl) (exec_bs1 rfl rfl (run_bs1 58 134 i1 _ u Tryz.underlying58 hi1 hiz (by rw [his, hul]) (by rw [hul]; decide) (by rw [hul]; decide) _)) rfl hS7 ?_
     simp only [nz]
     obtain ⟨w7, hw7⟩ : ∃ W, w6.alloc (.cells u.toArray 134) = W := ⟨_, rfl⟩
     rw [hw7] at hb7 r7 o7 hS7 ⊢
     clear hw7
     have hS : (fun W' => W'.rangeAt w4.heap.size 0 [.bool q, x.val]) w7 := hS7
     have z7 := hb7.size
     have V7 := V6.low hb7 (by have := V6.lb; omega)
     refine hs_runX (i := 7) (d := some 39) rfl (by kernel_rfl) (by rfl) rfl (ex_app1 rfl rfl rfl Tryz.underlying58 hi1 hiz his (by rw [hib]; decide) rfl o7 (by omega) r7 hul hone (by have := xitG_length xheS t k; have e := congrArg List.length e2; rw [List.length_map] at e; omega) hzk) ?_
     rintro v9 w9 ⟨o9, g9, gb9⟩
     have hob : ∀ g, ov.ownBlock = some g → W1.heap.size + 1 ≤ g := fun g hg => (o7.lt g hg).1
     have hS9 : (fun W' => W'.rangeAt w4.heap.size 0 [.bool q, x.val]) w9 := range_own hS g9 (by omega) (fun g hg => by have := (HO.lt g hg).2; omega)
     refine ⟨hS9, ?_⟩
     have hS : (fun W' => W'.rangeAt w4.heap.size 0 [.bool q, x.val]) w9 := hS9
     simp only [nz]
     refine hs_t 8 40 (?_) rfl (by kernel_rfl) (by kernel_rfl) (by kernel_rfl) (by rfl) ?_ hS rfl ?_
     rotate_left
     ·intro w' hw
      go_simp
      try with_reducible rfl
     simp only [nz]
     have b9 : Below (W1.heap.size + 1) w6 w9 := own_low (B := W1.heap.size + 1) (hb7.mono (by omega)) (by omega) o7 g9
     have V9 := V6.low b9 (by omega)
     have Ve := V9.set 3 [v9] (ch_put V9.row _).2.2.2
     have hSE : (fun W' => W'.rangeAt w4.heap.size 0 [.bool q, x.val]) (w9.setCells W1.heap.size 3 [v9]) := World.rangeAt_setCells_apart hS _ _ _ (.inl (by omega))
     have hv9 : v9.cells = #[v9] ∧ v9.oneCell' = true := own_cell o9
     refine hs_store (i := 9) (w' := w9.setCells W1.heap.size 3 [v9]) rfl (by kernel_rfl) (by rfl) (ex_put1 (n := 4) rfl rfl rfl V9.box (by decide) iszHds hv9.1 hv9.2) rfl hSE ?_
     refine hs_done (by kernel_rfl) ?_
     have l8 : Below w4.heap.size w4 w8 := hl5.trans (hd8.mono (by omega))
     have HL6 : Hid (XH w D X w.heap.size W1.heap.size v1 v2 v3 t (k + 1) (w9.setCells W1.heap.size 3 [v9])) := hide (XH.step (by omega) (by omega) het hA hB hC hD hvt (by rw [ep.out, ← hx, ← hy]; rfl) g4 l8 g6 hb7 g9 gb9 e2 HO hys (by rw [hu.out]; exact o9) Ve (by rw [es.out]; exact S6.low b9 (by omega)))
     clear HV HR HO o6 o7 o8 o9 g9 gb9 b9 S6 g6 hb7 r7 hu hys e2 hA hB hC hD hvt Ve V9 cb cc S8 S4 g4 hl5 hd8 gb8 l8 hS hSE V6 V7 V8
     go_wp2_with fail
     go_roundw
     case rel => exact ⟨k + 1, by omega, by go_num, HL6⟩
     case measure => simp [intOf]; omega
    ·refine st_call (i := 4) (d := some 36) rfl (by rfl) (by go_simp; first | done | exact ⟨rfl, rfl⟩ | with_reducible rfl) rfl ?_
     refine (cc w8 S8).mono ?_
     rintro _ w6 ⟨y, rfl, hy, hC, hD, hvt, S6, g6⟩
     have hS : (fun W' => W'.rangeAt w4.heap.size 0 [.bool q, x.val]) w6 := range_gbR hS g6 (by omega) (by omega)
     refine ⟨_, rfl, hS, ?_⟩
     simp only [nz]
     have V6 := V8.on g6
     have hvl : (certL vt y).length = 37 := by have := hvt.len; simp [certL]; omega
     have hbs := fun w0 => build_held q x.val (certL vt y) hvl rfl w0
     have hul : (Hd.cells ⟨q, x, vt, y⟩).length = 39 := HdE.len ⟨q, x, vt, y⟩ hvt
     have hone : ∀ v ∈ Hd.cells ⟨q, x, vt, y⟩, v.oneCell' = true := HdE.one ⟨q, x, vt, y⟩
     have hbs : ∀ w0 : World, (Instr.build 134 #[(0, .agg #[.bool q, x.val]), (1, .agg (certL vt y).toArray)]).run Tryz.prog w0 = .ok (.agg (Hd.cells ⟨q, x, vt, y⟩).toArray) w0 := hbs
     obtain ⟨u, hu⟩ : ∃ u, Hid (Hd.cells ⟨q, x, vt, y⟩ = u) := ⟨_, hide rfl⟩
     simp only [hu.out] at hbs hul hone
     have o8 : w8.ownsRow (W1.heap.size + 1) 134 39 ov ys.length (ys.flatMap Hd.cells) := own_gb (own_gb HO g4 (by omega)) gb8 (by omega)
     have o6 : w6.ownsRow (W1.heap.size + 1) 134 39 ov ys.length (ys.flatMap Hd.cells) := own_gb o8 g6 (by omega)
     have z6 := g6.size
     refine hs_t 5 37 (.agg u.toArray) rfl (by kernel_rfl) (by kernel_rfl) (by kernel_rfl) (by rfl) (fun w' hw => ex_build (parts := [(0, .tmp 34), (1, .tmp 36)]) rfl rfl (hbs _)) hS rfl ?_
     simp only [nz]
     refine hs_forkL (l := [1, 6]) (by kernel_rfl) (by simp) ?_
     intro ii hii
     simp only [List.mem_cons, List.not_mem_nil, or_false] at hii
     rcases hii with rfl | rfl
     ·refine st_run (i := 1) (d := some 33) (v := ov) (w' := w6) rfl (by rfl) (pl_one rfl rfl (V6.row 3 _ rfl) Tryz.underlying58 rfl) rfl hS ?_
      simp only [nz]
      have hb7 : Below w6.heap.size w6 (w6.alloc (.cells u.toArray 134)) := (Below.refl _ _).alloc (Nat.le_refl _) _
      have r7 : (w6.alloc (.cells u.toArray 134)).rangeAt w6.heap.size 0 u := by simpa using range_new w6 u.toArray 134
      have o7 := o6.alloc (.cells u.toArray 134)
      have hS7 : (fun W' => W'.rangeAt w4.heap.size 0 [.bool q, x.val]) (w6.alloc (.cells u.toArray 134)) := World.rangeAt_alloc hS _
      refine hs_run (i := 6) (d := some 38) (v := .slice (some ⟨w6.heap.size, 0, none⟩) 1 1) (w' := w6.alloc (.cells u.toArray 134)) rfl (by kernel_rfl) (by rfl) (exec_bs1 rfl rfl (run_bs1 58 134 i1 _ u Tryz.underlying58 hi1 hiz (by rw [his, hul]) (by rw [hul]; decide) (by rw [hul]; decide) _)) rfl hS7 ?_
      simp only [nz]
      obtain ⟨w7, hw7⟩ : ∃ W, w6.alloc (.cells u.toArray 134) = W := ⟨_, rfl⟩
      rw [hw7] at hb7 r7 o7 hS7 ⊢
      clear hw7
      have hS : (fun W' => W'.rangeAt w4.heap.size 0 [.bool q, x.val]) w7 := hS7
      have z7 := hb7.size
      have V7 := V6.low hb7 (by have := V6.lb; omega)
      refine hs_runX (i := 7) (d := some 39) rfl (by kernel_rfl) (by rfl) rfl (ex_app1 rfl rfl rfl Tryz.underlying58 hi1 hiz his (by rw [hib]; decide) rfl o7 (by omega) r7 hul hone (by have := xitG_length xheS t k; have e := congrArg List.length e2; rw [List.length_map] at e; omega) hzk) ?_
      rintro v9 w9 ⟨o9, g9, gb9⟩
      have hob : ∀ g, ov.ownBlock = some g → W1.heap.size + 1 ≤ g := fun g hg => (o7.lt g hg).1
      have hS9 : (fun W' => W'.rangeAt w4.heap.size 0 [.bool q, x.val]) w9 := range_own hS g9 (by omega) (fun g hg => by have := (HO.lt g hg).2; omega)
      refine ⟨hS9, ?_⟩
      have hS : (fun W' => W'.rangeAt w4.heap.size 0 [.bool q, x.val]) w9 := hS9
      simp only [nz]
      refine hs_t 8 40 (?_) rfl (by kernel_rfl) (by kernel_rfl) (by kernel_rfl) (by rfl) ?_ hS rfl ?_
      rotate_left
      ·intro w' hw
       go_simp
       try with_reducible rfl
      simp only [nz]
      have b9 : Below (W1.heap.size + 1) w6 w9 := own_low (B := W1.heap.size + 1) (hb7.mono (by omega)) (by omega) o7 g9
      have V9 := V6.low b9 (by omega)
      have Ve := V9.set 3 [v9] (ch_put V9.row _).2.2.2
      have hSE : (fun W' => W'.rangeAt w4.heap.size 0 [.bool q, x.val]) (w9.setCells W1.heap.size 3 [v9]) := World.rangeAt_setCells_apart hS _ _ _ (.inl (by omega))
      have hv9 : v9.cells = #[v9] ∧ v9.oneCell' = true := own_cell o9
      refine hs_store (i := 9) (w' := w9.setCells W1.heap.size 3 [v9]) rfl (by kernel_rfl) (by rfl) (ex_put1 (n := 4) rfl rfl rfl V9.box (by decide) iszHds hv9.1 hv9.2) rfl hSE ?_
      refine hs_done (by kernel_rfl) ?_
      have l8 : Below w4.heap.size w4 w8 := hl5.trans (hd8.mono (by omega))
      have HL6 : Hid (XH w D X w.heap.size W1.heap.size v1 v2 v3 t (k + 1) (w9.setCells W1.heap.size 3 [v9])) := hide (XH.step (by omega) (by omega) het hA hB hC hD hvt (by rw [ep.out, ← hx, ← hy]; rfl) g4 l8 g6 hb7 g9 gb9 e2 HO hys (by rw [hu.out]; exact o9) Ve (by rw [es.out]; exact S6.low b9 (by omega)))
      clear HV HR HO o6 o7 o8 o9 g9 gb9 b9 S6 g6 hb7 r7 hu hys e2 hA hB hC hD hvt Ve V9 cb cc S8 S4 g4 hl5 hd8 gb8 l8 hS hSE V6 V7 V8
      go_wp2_with fail
      go_roundw
      case rel => exact ⟨k + 1, by omega, by go_num, HL6⟩
      case measure => simp [intOf]; omega
     ·have hb7 : Below w6.heap.size w6 (w6.alloc (.cells u.toArray 134)) := (Below.refl _ _).alloc (Nat.le_refl _) _
      have r7 : (w6.alloc (.cells u.toArray 134)).rangeAt w6.heap.size 0 u := by simpa using range_new w6 u.toArray 134
      have o7 := o6.alloc (.cells u.toArray 134)
      have hS7 : (fun W' => W'.rangeAt w4.heap.size 0 [.bool q, x.val]) (w6.alloc (.cells u.toArray 134)) := World.rangeAt_alloc hS _
      refine st_run (i := 6) (d := some 38) (v := .slice (some ⟨w6.heap.size, 0, none⟩) 1 1) (w' := w6.alloc (.cells u.toArray 134)) rfl (by rfl) (exec_bs1 rfl rfl (run_bs1 58 134 i1 _ u Tryz.underlying58 hi1 hiz (by rw [his, hul]) (by rw [hul]; decide) (by rw [hul]; decide) _)) rfl hS7 ?_
      simp only [nz]
      obtain ⟨w7, hw7⟩ : ∃ W, w6.alloc (.cells u.toArray 134) = W := ⟨_, rfl⟩
      rw [hw7] at hb7 r7 o7 hS7 ⊢
      clear hw7
      have hS : (fun W' => W'.rangeAt w4.heap.size 0 [.bool q, x.val]) w7 := hS7
      have z7 := hb7.size
      have V7 := V6.low hb7 (by have := V6.lb; omega)
      refine hs_run (i := 1) (d := some 33) (v := ov) (w' := w7) rfl (by kernel_rfl) (by rfl) (pl_one rfl rfl (V7.row 3 _ rfl) Tryz.underlying58 rfl) rfl hS ?_
      simp only [nz]
      refine hs_runX (i := 7) (d := some 39) rfl (by kernel_rfl) (by rfl) rfl (ex_app1 rfl rfl rfl Tryz.underlying58 hi1 hiz his (by rw [hib]; decide) rfl o7 (by omega) r7 hul hone (by have := xitG_length xheS t k; have e := congrArg List.length e2; rw [List.length_map] at e; omega) hzk) ?_
      rintro v9 w9 ⟨o9, g9, gb9⟩
      have hob : ∀ g, ov.ownBlock = some g → W1.heap.size + 1 ≤ g := fun g hg => (o7.lt g hg).1
      have hS9 : (fun W' => W'.rangeAt w4.heap.size 0 [.bool q, x.val]) w9 := range_own hS g9 (by omega) (fun g hg => by have := (HO.lt g hg).2; omega)
      refine ⟨hS9, ?_⟩
      have hS : (fun W' => W'.rangeAt w4.heap.size 0 [.bool q, x.val]) w9 := hS9
      simp only [nz]
      refine hs_t 8 40 (?_) rfl (by kernel_rfl) (by kernel_rfl) (by kernel_rfl) (by rfl) ?_ hS rfl ?_
      rotate_left
      ·intro w' hw
       go_simp
       try with_reducible rfl
      simp only [nz]
      have b9 : Below (W1.heap.size + 1) w6 w9 := own_low (B := W1.heap.size + 1) (hb7.mono (by omega)) (by omega) o7 g9
      have V9 := V6.low b9 (by omega)
      have Ve := V9.set 3 [v9] (ch_put V9.row _).2.2.2
      have hSE : (fun W' => W'.rangeAt w4.heap.size 0 [.bool q, x.val]) (w9.setCells W1.heap.size 3 [v9]) := World.rangeAt_setCells_apart hS _ _ _ (.inl (by omega))
      have hv9 : v9.cells = #[v9] ∧ v9.oneCell' = true := own_cell o9
      refine hs_store (i := 9) (w' := w9.setCells W1.heap.size 3 [v9]) rfl (by kernel_rfl) (by rfl) (ex_put1 (n := 4) rfl rfl rfl V9.box (by decide) iszHds hv9.1 hv9.2) rfl hSE ?_
      refine hs_done (by kernel_rfl) ?_
      have l8 : Below w4.heap.size w4 w8 := hl5.trans (hd8.mono (by omega))
      have HL6 : Hid (XH w D X w.heap.size W1.heap.size v1 v2 v3 t (k + 1) (w9.setCells W1.heap.size 3 [v9])) := hide (XH.step (by omega) (by omega) het hA hB hC hD hvt (by rw [ep.out, ← hx, ← hy]; rfl) g4 l8 g6 hb7 g9 gb9 e2 HO hys (by rw [hu.out]; exact o9) Ve (by rw [es.out]; exact S6.low b9 (by omega)))
      clear HV HR HO o6 o7 o8 o9 g9 gb9 b9 S6 g6 hb7 r7 hu hys e2 hA hB hC hD hvt Ve V9 cb cc S8 S4 g4 hl5 hd8 gb8 l8 hS hSE V6 V7 V8
      go_wp2_with fail
      go_roundw
      case rel => exact ⟨k + 1, by omega, by go_num, HL6⟩
      case measure => simp [intOf]; omega
   ·have EE := xitG_stop he N hk
    obtain ⟨ee, hee⟩ : ∃ x, (xitG xheS t k).2.2 = x := ⟨_, rfl⟩
    rw [hee] at hce he
    have hee' : (ee == 0) = false := by simpa using he
    obtain ⟨ov, ys, HV, e2, HO, hys⟩ := HX.ex
    have HR := HX.rs
    have e : xitG xheS t N = xitG xheS t k := EE
    have hlk := xitG_length xheS t k
    have hlen : ys.length ≤ N := by have e3 := congrArg List.length e2; rw [List.length_map] at e3; omega
    obtain ⟨x, rfl, hx, hA, hB⟩ := own_rows (E := HdE) (ys := ys) HO (fun y hy => (hys y hy).1) (by unfold maxLen; omega)
    have rpc := HV.row
    have hpl : ([.int .i64 v1, .int .i64 v2, .int .i64 v3, x.val] : List Value).length = 4 := rfl
    have hip : (Tryz.prog.info? 60).map (·.size) = some ([.int .i64 v1, .int .i64 v2, .int .i64 v3, x.val] : List Value).length := iszCh
    have hp1 : ∀ v ∈ ([.int .i64 v1, .int .i64 v2, .int .i64 v3, x.val] : List Value), v.oneCell' = true := by
     intro v hv
     simp only [List.mem_cons, List.not_mem_nil, or_false] at hv
     rcases hv with rfl | rfl | rfl | rfl <;> rfl
    obtain ⟨pc, hpc⟩ : ∃ p, Hid (([.int .i64 v1, .int .i64 v2, .int .i64 v3, x.val] : List Value) = p) := ⟨_, hide rfl⟩
    rw [hpc.out] at hpl hip hp1 rpc
    have hlow : Below w.heap.size wr (wr.setCells w.heap.size 0 pc) := below_sets (Nat.le_refl _) pc 0 _ (Below.refl _ wr)
    have hBk : x.Bk (fun b => w.heap.size < b ∧ b < wr.heap.size) := fun b _ hb => ⟨by have := (hB b hb).1; omega, (hB b hb).2.1⟩
    have hBk2 : ∀ y ∈ x.xs, y.Bk (fun b => w.heap.size < b ∧ b < wr.heap.size) := fun y hy => by rw [hx] at hy; exact (hys y hy).2.2.mono (fun b hb => ⟨by omega, hb.2.1⟩)
    have hrs := run_loadVar_mid (P := Tryz.prog) (wr.setCells w.heap.size 0 pc) w.heap.size 0 60 pc _ (World.rangeAt_setCells_same wr w.heap.size 0 pc (by rw [hpl]; exact HV.ans)) Tryz.underlying60 rfl hip
    have HF : Hid (∃ g : Sl Hd, Ending.returned (.agg pc.toArray) = .returned (.agg ([.int .i64 v1, .int .i64 v2, .int .i64 v3, g.val] : List Value).toArray) ∧ g.xs.map Hd.pure = (xitG xheS t N).1 ∧ HdsAt (wr.setCells w.heap.size 0 pc) g ∧ g.Bk (fun b => w.heap.size ≤ b ∧ b < (wr.setCells w.heap.size 0 pc).heap.size) ∧ (∀ y ∈ g.xs, y.Bk (fun b => w.heap.size ≤ b ∧ b < (wr.setCells w.heap.size 0 pc).heap.size)) ∧ XR (wr.setCells w.heap.size 0 pc) D X (xitG xheS t N).2 ∧ w.grownBy (wr.setCells w.heap.size 0 pc) (some X)) := by
     rw [e]
     refine hide ⟨x, by rw [hpc.out], by rw [hx]; exact e2, HdsAt.put (P := fun b => w.heap.size < b ∧ b < wr.heap.size) ⟨hA, fun y hy => by rw [hx] at hy; exact (hys y hy).2.1⟩ hBk hBk2 (fun b hb => by omega), hBk.mono (fun b hb => ⟨by omega, by rw [size_sets]; exact hb.2⟩), fun y hy => (hBk2 y hy).mono (fun b hb => ⟨by omega, by rw [size_sets]; exact hb.2⟩), HR.low hlow hXw, gb_onR HV.gr hlow (Nat.le_refl _)⟩
    clear hA hB hBk hBk2 hx hys e2 HO hpc hlow HR EE e HX
    go_upto_region 7 with fail
    try simp only [Act.put]
    refine pl_begin ?_
    refine pl_t 18 (?_) (by rfl) ?_ rfl ?_
    rotate_left
    ·go_simp
     try with_reducible rfl
    simp only [nz]
    refine pl_t 19 (?_) (by rfl) ?_ rfl ?_
    rotate_left
    ·go_simp
     try with_reducible rfl
    simp only [nz]
    refine pl_t 20 (.bool true) (by rfl) (by go_simp <;> (try simp) <;> (try omega)) rfl ?_
    simp only [nz]
    refine pl_t 21 (?_) (by rfl) ?_ rfl ?_
    rotate_left
    ·go_simp
     try with_reducible rfl
    simp only [nz]
    refine pl_t 22 (?_) (by rfl) ?_ rfl ?_
    rotate_left
    ·go_simp
     try with_reducible rfl
    simp only [nz]
    refine pl_t 23 (?_) (by rfl) ?_ rfl ?_
    rotate_left
    ·go_simp
     try with_reducible rfl
    simp only [nz]
    refine pl_t 24 (?_) (by rfl) ?_ rfl ?_
    rotate_left
    ·go_simp
     try with_reducible rfl
    simp only [nz]
    refine pl_t 25 (.int .i64 ee) (by rfl) (pl_one rfl rfl hce Tryz.underlying3 rfl) rfl ?_
    simp only [nz]
    refine pl_t 26 (.bool false) (by rfl) (by go_simp <;> (try simp [he])) rfl ?_
    simp only [nz]
    refine pl_t 27 (?_) (by rfl) ?_ rfl ?_
    rotate_left
    ·go_simp
     try with_reducible rfl
    simp only [nz]
    refine pl_nil ?_
    clear hce
    go_upto_region 11 with fail
    try simp only [Act.put]
    refine pl_begin ?_
    refine pl_t 41 (.agg pc.toArray) (by rfl) (ex_mid rfl rfl rpc Tryz.underlying60 rfl hip) rfl ?_
    simp only [nz]
    refine pl_store (w' := wr.setCells w.heap.size 0 pc) (by rfl) (ex_put (cs := pc.toArray) rfl rfl rfl (by simpa [hpl] using HV.ans) (by simpa using hip) (all_one hp1)) rfl ?_
    refine pl_nil ?_
    clear HV rpc
    go_wp2_with fail
    refine bodyPost_ret (v := .agg pc.toArray) ?_ rfl ?_
    ·simp [results, Tryz.results116, Act.put, asAddr, hrs]
    ·exact HF.out
  ·have EE : xitG xheS t N = xitG xheS t k := by rw [show N = k by omega]
   have k2 : ¬ ((k : Int) < N) := by omega
   clear hce
   obtain ⟨ov, ys, HV, e2, HO, hys⟩ := HX.ex
   have HR := HX.rs
   have e : xitG xheS t N = xitG xheS t k := EE
   have hlk := xitG_length xheS t k
   have hlen : ys.length ≤ N := by have e3 := congrArg List.length e2; rw [List.length_map] at e3; omega
   obtain ⟨x, rfl, hx, hA, hB⟩ := own_rows (E := HdE) (ys := ys) HO (fun y hy => (hys y hy).1) (by unfold maxLen; omega)
   have rpc := HV.row
   have hpl : ([.int .i64 v1, .int .i64 v2, .int .i64 v3, x.val] : List Value).length = 4 := rfl
   have hip : (Tryz.prog.info? 60).map (·.size) = some ([.int .i64 v1, .int .i64 v2, .int .i64 v3, x.val] : List Value).length := iszCh
   have hp1 : ∀ v ∈ ([.int .i64 v1, .int .i64 v2, .int .i64 v3, x.val] : List Value), v.oneCell' = true := by
    intro v hv
    simp only [List.mem_cons, List.not_mem_nil, or_false] at hv
    rcases hv with rfl | rfl | rfl | rfl <;> rfl
   obtain ⟨pc, hpc⟩ : ∃ p, Hid (([.int .i64 v1, .int .i64 v2, .int .i64 v3, x.val] : List Value) = p) := ⟨_, hide rfl⟩
   rw [hpc.out] at hpl hip hp1 rpc
   have hlow : Below w.heap.size wr (wr.setCells w.heap.size 0 pc) := below_sets (Nat.le_refl _) pc 0 _ (Below.refl _ wr)
   have hBk : x.Bk (fun b => w.heap.size < b ∧ b < wr.heap.size) := fun b _ hb => ⟨by have := (hB b hb).1; omega, (hB b hb).2.1⟩
   have hBk2 : ∀ y ∈ x.xs, y.Bk (fun b => w.heap.size < b ∧ b < wr.heap.size) := fun y hy => by rw [hx] at hy; exact (hys y hy).2.2.mono (fun b hb => ⟨by omega, hb.2.1⟩)
   have hrs := run_loadVar_mid (P := Tryz.prog) (wr.setCells w.heap.size 0 pc) w.heap.size 0 60 pc _ (World.rangeAt_setCells_same wr w.heap.size 0 pc (by rw [hpl]; exact HV.ans)) Tryz.underlying60 rfl hip
   have HF : Hid (∃ g : Sl Hd, Ending.returned (.agg pc.toArray) = .returned (.agg ([.int .i64 v1, .int .i64 v2, .int .i64 v3, g.val] : List Value).toArray) ∧ g.xs.map Hd.pure = (xitG xheS t N).1 ∧ HdsAt (wr.setCells w.heap.size 0 pc) g ∧ g.Bk (fun b => w.heap.size ≤ b ∧ b < (wr.setCells w.heap.size 0 pc).heap.size) ∧ (∀ y ∈ g.xs, y.Bk (fun b => w.heap.size ≤ b ∧ b < (wr.setCells w.heap.size 0 pc).heap.size)) ∧ XR (wr.setCells w.heap.size 0 pc) D X (xitG xheS t N).2 ∧ w.grownBy (wr.setCells w.heap.size 0 pc) (some X)) := by
    rw [e]
    refine hide ⟨x, by rw [hpc.out], by rw [hx]; exact e2, HdsAt.put (P := fun b => w.heap.size < b ∧ b < wr.heap.size) ⟨hA, fun y hy => by rw [hx] at hy; exact (hys y hy).2.1⟩ hBk hBk2 (fun b hb => by omega), hBk.mono (fun b hb => ⟨by omega, by rw [size_sets]; exact hb.2⟩), fun y hy => (hBk2 y hy).mono (fun b hb => ⟨by omega, by rw [size_sets]; exact hb.2⟩), HR.low hlow hXw, gb_onR HV.gr hlow (Nat.le_refl _)⟩
   clear hA hB hBk hBk2 hx hys e2 HO hpc hlow HR EE e HX
   go_upto_region 7 with fail
   try simp only [Act.put]
   refine pl_begin ?_
   refine pl_t 18 (?_) (by rfl) ?_ rfl ?_
   rotate_left
   ·go_simp
    try with_reducible rfl
   simp only [nz]
   refine pl_t 19 (?_) (by rfl) ?_ rfl ?_
   rotate_left
   ·go_simp
    try with_reducible rfl
   simp only [nz]
   refine pl_t 20 (.bool false) (by rfl) (by go_simp <;> (try simp) <;> (try omega)) rfl ?_
   simp only [nz]
   refine pl_t 21 (?_) (by rfl) ?_ rfl ?_
   rotate_left
   ·go_simp
    try with_reducible rfl
   simp only [nz]
   refine pl_skip (d := some 22) (by rfl) rfl ?_
   simp only [nz]
   refine pl_skip (d := some 23) (by rfl) rfl ?_
   simp only [nz]
   refine pl_skip (d := some 24) (by rfl) rfl ?_
   simp only [nz]
   refine pl_skip (d := some 25) (by rfl) rfl ?_
   simp only [nz]
   refine pl_skip (d := some 26) (by rfl) rfl ?_
   simp only [nz]
   refine pl_t 27 (?_) (by rfl) ?_ rfl ?_
   rotate_left
   ·go_simp
    try with_reducible rfl
   simp only [nz]
   refine pl_nil ?_
   go_upto_region 11 with fail
   try simp only [Act.put]
   refine pl_begin ?_
   refine pl_t 41 (.agg pc.toArray) (by rfl) (ex_mid rfl rfl rpc Tryz.underlying60 rfl hip) rfl ?_
   simp only [nz]
   refine pl_store (w' := wr.setCells w.heap.size 0 pc) (by rfl) (ex_put (cs := pc.toArray) rfl rfl rfl (by simpa [hpl] using HV.ans) (by simpa using hip) (all_one hp1)) rfl ?_
   refine pl_nil ?_
   clear HV rpc
   go_wp2_with fail
   refine bodyPost_ret (v := .agg pc.toArray) ?_ rfl ?_
   ·simp [results, Tryz.results116, Act.put, asAddr, hrs]
   ·exact HF.out
structure Mp where
  k : Int
  e : Int
  l : Int
  v : Int
  s : Int
  q : Bool
  rs : List Rq
  vt : Vt
  ce : Int
  cl : Int
  cv : Int
  he : List Hp
  ne : List Ev
  d : List Int
  ct : Vt
  cs : List Sg
  st : ByteArray
  sg : List Sg
def Mg.pure (m : Mg) : Mp := ⟨m.k, m.e, m.l, m.v, m.s, m.q, m.rs.xs, m.vt, m.ce, m.cl, m.cv, m.he.xs.map Hd.pure, m.ne.xs, m.d, m.ct, m.cs.xs, m.st, m.sg.xs⟩
def mg1 (s : Rst) : Mp × Rst := (⟨1, (nuS 1048576 s).1, 0, 0, (nuS 1099511627776 (nuS 1048576 s).2).1, (baS (nuS 1099511627776 (nuS 1048576 s).2).2).1.1, (baS (nuS 1099511627776 (nuS 1048576 s).2).2).1.2, Vt.zero, 0, 0, 0, [], [], zeros32, Vt.zero, [], ⟨#[]⟩, []⟩, (baS (nuS 1099511627776 (nuS 1048576 s).2).2).2)
def mg2 (s : Rst) : Mp × Rst := (⟨2, 0, 0, 0, 0, false, [], (voS s).1, 0, 0, 0, [], [], zeros32, Vt.zero, [], ⟨#[]⟩, []⟩, (voS s).2)
def mg3 (s : Rst) : Mp × Rst := (⟨3, 0, 0, 0, 0, false, [], Vt.zero, (chS s).1.e, (chS s).1.l, (chS s).1.v, (chS s).1.he, [], zeros32, Vt.zero, [], ⟨#[]⟩, []⟩, (chS s).2)
def mg4 (s : Rst) : Mp × Rst := (⟨4, (nuS 1048576 s).1, (nuS 64 (nuS 1048576 s).2).1, (nuS 1099511627776 (nuS 64 (nuS 1048576 s).2).2).1, 0, false, [], Vt.zero, 0, 0, 0, [], (lsS 64 enS (nuS 1099511627776 (nuS 64 (nuS 1048576 s).2).2).2).1, zeros32, Vt.zero, [], ⟨#[]⟩, []⟩, (lsS 64 enS (nuS 1099511627776 (nuS 64 (nuS 1048576 s).2).2).2).2)
def mg5 (s : Rst) : Mp × Rst := (⟨5, (nuS 1048576 s).1, 0, 0, 0, false, [], Vt.zero, 0, 0, 0, [], [], (dgS (nuS 1048576 s).2).1, Vt.zero, [], ⟨#[]⟩, []⟩, (dgS (nuS 1048576 s).2).2)
def mg6 (s : Rst) : Mp × Rst := (⟨6, (nuS 1048576 s).1, 0, 0, (nuS 1099511627776 (nuS 1048576 s).2).1, false, [], Vt.zero, 0, 0, 0, [], [], zeros32, Vt.zero, [], ⟨#[]⟩, []⟩, (nuS 1099511627776 (nuS 1048576 s).2).2)
def mg7 (s : Rst) : Mp × Rst := (⟨7, 0, 0, 0, 0, (baS s).1.1, (baS s).1.2, Vt.zero, 0, 0, 0, [], [], zeros32, (ceS (baS s).2).1.1, (ceS (baS s).2).1.2, ⟨#[]⟩, []⟩, (ceS (baS s).2).2)
def mg8 (s : Rst) : Mp × Rst := (⟨8, 0, 0, 0, 0, false, [], Vt.zero, 0, 0, 0, [], [], zeros32, Vt.zero, [], (txS 4194304 s).1, (lsS 64 siS (txS 4194304 s).2).1⟩, (lsS 64 siS (txS 4194304 s).2).2)
def mgF (k : Int) (s : Rst) : Mp × Rst := if k = 1 then mg1 s else if k = 2 then mg2 s else if k = 3 then mg3 s else if k = 4 then mg4 s else if k = 5 then mg5 s else if k = 6 then mg6 s else if k = 7 then mg7 s else if k = 8 then mg8 s else (⟨k, 0, 0, 0, 0, false, [], Vt.zero, 0, 0, 0, [], [], zeros32, Vt.zero, [], ⟨#[]⟩, []⟩, s)
def mgS (s : Rst) : Mp × Rst := mgF (kiS 8 s).1 (kiS 8 s).2
theorem iszEvs : (Tryz.prog.info? 61).map (·.size) = some 1 := by kernel_rfl
theorem iszSgs : (Tryz.prog.info? 29).map (·.size) = some 1 := by kernel_rfl
theorem iszStr : (Tryz.prog.info? 9).map (·.size) = some 1 := by kernel_rfl
theorem ms0_ok (k : Int) : (Ms.plain k 0 0 Vt.zero zeros32).ok := Ms.plain_ok k 0 0 Vt.zero_ok zeros32_len zeros32_byte
def Mg.Bk (m : Mg) (P : Nat → Prop) : Prop := m.rs.Bk P ∧ m.he.Bk P ∧ (∀ y ∈ m.he.xs, y.Bk P) ∧ m.ne.Bk P ∧ m.cs.Bk P ∧ m.sg.Bk P
theorem no_bk {α : Type} {P : Nat → Prop} : (⟨none, 0, []⟩ : Sl α).Bk P := fun b h => absurd rfl h
theorem no_bk2 {P : Nat → Prop} : ∀ y ∈ (⟨none, 0, []⟩ : Sl Hd).xs, y.Bk P := fun y h => by cases h
theorem mg0_at {W : World} {m : Mg} (h1 : m.rs.At RqE W) (h2 : HdsAt W m.he) (h3 : m.ne.At EvE W) (h4 : m.cs.At SgE W) (h5 : m.sg.At SgE W) : m.At W := ⟨h1, h2, h3, h4, h5⟩
set_option maxRecDepth 100000 in
set_option maxHeartbeats 1000000 in
theorem rmsgK0 (Q R : Nat) (s : Rst) (w : World) (h : RS w Q R s) (hl : s.1.length ≤ 40000) (n1 : (kiS 8 s).1 ≠ 1) (n2 : (kiS 8 s).1 ≠ 2) (n3 : (kiS 8 s).1 ≠ 3) (n4 : (kiS 8 s).1 ≠ 4) (n5 : (kiS 8 s).1 ≠ 5) (n6 : (kiS 8 s).1 ≠ 6) (n7 : (kiS 8 s).1 ≠ 7) (n8 : (kiS 8 s).1 ≠ 8) : Calls Tryz.prog 112 #[.pointer (some ⟨Q, 0, none⟩)] w fun en w' => ∃ m : Mg, en = .returned (.agg m.ms.cells.toArray) ∧ m.pure = ((⟨(kiS 8 s).1, 0, 0, 0, 0, false, [], Vt.zero, 0, 0, 0, [], [], zeros32, Vt.zero, [], ⟨#[]⟩, []⟩, (kiS 8 s).2) : Mp × Rst).1 ∧ m.ok ∧ m.At w' ∧ m.Bk (fun b => w.heap.size ≤ b) ∧ RS w' Q R ((⟨(kiS 8 s).1, 0, 0, 0, 0, false, [], Vt.zero, 0, 0, 0, [], [], zeros32, Vt.zero, [], ⟨#[]⟩, []⟩, (kiS 8 s).2) : Mp × Rst).2 ∧ Kept w R Q w' := by
 have hRw := h.st.1.1
 have hQw := h.mr.lt
 have ck := fun w0 h0 => kindRS Q R 8 s w0 h0
 have l0 := kiS_len 8 s
 generalize kiS 8 s = p_ at ck l0 n1 n2 n3 n4 n5 n6 n7 n8 ⊢
 obtain ⟨k, s0⟩ := p_
 simp only at ck l0 n1 n2 n3 n4 n5 n6 n7 n8 ⊢
 have b1 : (k == 1) = false := by simpa using n1
 have b2 : (k == 2) = false := by simpa using n2
 have b3 : (k == 3) = false := by simpa using n3
 have b4 : (k == 4) = false := by simpa using n4
 have b5 : (k == 5) = false := by simpa using n5
 have b6 : (k == 6) = false := by simpa using n6
 have b7 : (k == 7) = false := by simpa using n7
 have b8 : (k == 8) = false := by simpa using n8
 clear n1 n2 n3 n4 n5 n6 n7 n8
 obtain ⟨zc, hzl, hzr⟩ : ∃ z : List Value, z.length = 119 ∧ ∀ w : World, (zeroValue 63).run Tryz.prog w = .ok (.agg z.toArray) w := ⟨_, (Ms.plain_ok 0 0 0 Vt.zero_ok zeros32_len zeros32_byte).len, zeroM⟩
 have hbk := build_kind k
 have hql := (ms0_ok k).len
 have hq1 := (ms0_ok k).one
 have hiq : (Tryz.prog.info? 63).map (·.size) = some (Ms.plain k 0 0 Vt.zero zeros32).cells.length := by rw [hql]; exact iszM
 have hk0 : ∀ (w' : World) b, w'.rangeAt b 0 (Ms.plain k 0 0 Vt.zero zeros32).cells → w'.cell? ⟨b, 0, none⟩ = some (.int .i64 k) := fun w' b h => ((ms0_ok k).at h).k
 obtain ⟨qk, hqk⟩ : ∃ q, Hid ((Ms.plain k 0 0 Vt.zero zeros32).cells = q) := ⟨_, hide rfl⟩
 simp only [hqk.out] at hbk hql hq1 hiq hk0
 obtain ⟨hB1, hr1, hs1⟩ := boxed_new w zc 63
 have ht1 := there_newN w zc.toArray 63 (n := 119) (by simp [hzl])
 go_enter Tryz.func112, Tryz.ntmps112
 go_upto_region 0 with fail
 try simp only [Act.put]
 refine pl_begin ?_
 refine pl_run (d := some 2) (v := .pointer (some ⟨w.heap.size, 0, none⟩)) (w' := w.alloc (.cells zc.toArray 63)) (by rfl) (ex_alloc rfl (hzr _)) rfl ?_
 simp only [nz]
 refine pl_nil ?_
 obtain ⟨W1, hW1⟩ : ∃ W, w.alloc (.cells zc.toArray 63) = W := ⟨_, rfl⟩
 rw [hW1] at hB1 hr1 hs1 ht1 ⊢
 clear hW1 hr1
 have S1 := h.below hB1
 go_upto_region 1 with fail
 try simp only [Act.put]
 refine pl_begin ?_
 refine pl_t 4 (?_) (by rfl) ?_ rfl ?_
 rotate_left
 ·go_simp
  try with_reducible rfl
 simp only [nz]
 refine pl_call (d := some 5) (by rfl) (by go_simp; first | done | exact ⟨rfl, rfl⟩ | with_reducible rfl) rfl ?_
 refine (ck W1 S1).mono ?_
 rintro _ w2 ⟨rfl, S2, k2⟩
 refine ⟨_, rfl, ?_⟩
 simp only [nz]
 refine pl_t 6 (.agg qk.toArray) (by rfl) (ex_build (parts := [(0, .tmp 5)]) rfl rfl (hbk _)) rfl ?_
 simp only [nz]
 refine pl_run (d := some 3) (v := .pointer (some ⟨w2.heap.size, 0, none⟩)) (w' := w2.alloc (.cells zc.toArray 63)) (by rfl) (ex_alloc rfl (hzr _)) rfl ?_
 simp only [nz]
 refine pl_store (w' := (w2.alloc (.cells zc.toArray 63)).setCells w2.heap.size 0 qk) (by rfl) (ex_put (cs := qk.toArray) rfl rfl rfl (there_newN _ _ _ (by simp [hzl, hql])) (by simpa using hiq) (all_one hq1)) rfl ?_
 refine pl_nil ?_
 obtain ⟨hF1, hF2, hF3, -⟩ := fresh_store w2 zc.toArray 63 qk (by simp [hzl, hql])
 have hF4 := World.there_setCells (there_newN w2 zc.toArray 63 (n := 119) (by simp [hzl])) w2.heap.size 0 qk
 obtain ⟨w3, hw3⟩ : ∃ W, (w2.alloc (.cells zc.toArray 63)).setCells w2.heap.size 0 qk = W := ⟨_, rfl⟩
 rw [hw3] at hF1 hF2 hF3 hF4 ⊢
 clear hw3
 have hc0 := hk0 _ _ hF1
 have k3 : Kept w R Q w3 := (((Kept.refl w R Q).below hB1).trans k2).below hF2
 have z2 := k2.size
 rw [← hqk.out] at hF1
 have V3 : MV w Q R w.heap.size w2.heap.size 119 (Ms.plain k 0 0 Vt.zero zeros32).cells s0 w3 := ⟨hF1, hF4, there_below (there_blk ht1 (k2.block _ hs1 (by omega) (by omega))) hF2 (by omega), k3, S2.below hF2, by have := hF2.size; omega, by omega, Nat.le_refl _, by have := hB1.size; omega, by omega, hRw, hQw⟩
 have hww : w.heap.size < w2.heap.size := by omega
 clear hF1 hF2 hF4 ht1 hB1 S1 S2 k2 k3 hk0 hbk hql hq1 hiq hqk h ck hzr hzl
 go_upto_region 2 with fail
 try simp only [Act.put]
 refine pl_begin ?_
 refine pl_t 7 (?_) (by rfl) ?_ rfl ?_
 rotate_left
 ·go_simp
  try with_reducible rfl
 simp only [nz]
 refine pl_t 8 (.int .i64 k) (by rfl) (pl_one rfl rfl hc0 Tryz.underlying3 rfl) rfl ?_
 simp only [nz]
 refine pl_nil ?_
 clear hc0
 have Ve := V3
 have rpc := Ve.row
 have hmo : Mg.ok ⟨k, 0, 0, 0, 0, false, ⟨none, 0, []⟩, Vt.zero, 0, 0, 0, ⟨none, 0, []⟩, ⟨none, 0, []⟩, zeros32, Vt.zero, ⟨none, 0, []⟩, ⟨#[]⟩, ⟨none, 0, []⟩⟩ := ⟨Vt.zero_ok, Vt.zero_ok, zeros32_len, zeros32_byte⟩
 have hpl : (Mg.ms ⟨k, 0, 0, 0, 0, false, ⟨none, 0, []⟩, Vt.zero, 0, 0, 0, ⟨none, 0, []⟩, ⟨none, 0, []⟩, zeros32, Vt.zero, ⟨none, 0, []⟩, ⟨#[]⟩, ⟨none, 0, []⟩⟩).cells.length = 119 := hmo.ms.len
 have hp1 := hmo.ms.one
 have hip : (Tryz.prog.info? 63).map (·.size) = some (Mg.ms ⟨k, 0, 0, 0, 0, false, ⟨none, 0, []⟩, Vt.zero, 0, 0, 0, ⟨none, 0, []⟩, ⟨none, 0, []⟩, zeros32, Vt.zero, ⟨none, 0, []⟩, ⟨#[]⟩, ⟨none, 0, []⟩⟩).cells.length := by rw [hpl]; exact iszM
 have rpc : w3.rangeAt w2.heap.size 0 (Mg.ms ⟨k, 0, 0, 0, 0, false, ⟨none, 0, []⟩, Vt.zero, 0, 0, 0, ⟨none, 0, []⟩, ⟨none, 0, []⟩, zeros32, Vt.zero, ⟨none, 0, []⟩, ⟨#[]⟩, ⟨none, 0, []⟩⟩).cells := rpc
 obtain ⟨pc, hpc⟩ : ∃ p, Hid ((Mg.ms ⟨k, 0, 0, 0, 0, false, ⟨none, 0, []⟩, Vt.zero, 0, 0, 0, ⟨none, 0, []⟩, ⟨none, 0, []⟩, zeros32, Vt.zero, ⟨none, 0, []⟩, ⟨#[]⟩, ⟨none, 0, []⟩⟩).cells = p) := ⟨_, hide rfl⟩
 simp only [hpc.out] at hpl hip hp1 rpc
 go_upto_region 22 with fail
 try simp only [Act.put]
 refine pl_begin ?_
 refine pl_t 121 (.agg pc.toArray) (by rfl) (ex_mid rfl rfl rpc Tryz.underlying63 rfl hip) rfl ?_
 simp only [nz]
 refine pl_store (w' := w3.setCells w.heap.size 0 pc) (by rfl) (ex_put (cs := pc.toArray) rfl rfl rfl (by simpa [hpl] using Ve.ans) (by simpa using hip) (all_one hp1)) rfl ?_
 refine pl_nil ?_
 have hlow : Below w.heap.size w3 (w3.setCells w.heap.size 0 pc) := below_sets (Nat.le_refl _) pc 0 _ (Below.refl _ w3)
 have hrs := run_loadVar_mid (P := Tryz.prog) (w3.setCells w.heap.size 0 pc) w.heap.size 0 63 pc _ (World.rangeAt_setCells_same w3 w.heap.size 0 pc (by rw [hpl]; exact Ve.ans)) Tryz.underlying63 rfl hip
 have HF : Hid (∃ m : Mg, Ending.returned (.agg pc.toArray) = .returned (.agg m.ms.cells.toArray) ∧ m.pure = (⟨k, 0, 0, 0, 0, false, [], Vt.zero, 0, 0, 0, [], [], zeros32, Vt.zero, [], ⟨#[]⟩, []⟩ : Mp) ∧ m.ok ∧ m.At (w3.setCells w.heap.size 0 pc) ∧ m.Bk (fun b => w.heap.size ≤ b) ∧ RS (w3.setCells w.heap.size 0 pc) Q R s0 ∧ Kept w R Q (w3.setCells w.heap.size 0 pc)) := hide ⟨⟨k, 0, 0, 0, 0, false, ⟨none, 0, []⟩, Vt.zero, 0, 0, 0, ⟨none, 0, []⟩, ⟨none, 0, []⟩, zeros32, Vt.zero, ⟨none, 0, []⟩, ⟨#[]⟩, ⟨none, 0, []⟩⟩, by rw [hpc.out], rfl, hmo, mg0_at RowsAt.none hds_none RowsAt.none RowsAt.none RowsAt.none, ⟨no_bk, no_bk, no_bk2, no_bk, no_bk, no_bk⟩, Ve.rs.low hlow hQw, Ve.kept.low hlow (Nat.le_refl _)⟩
 clear Ve hlow rpc hpc hmo V3
 go_wp2_with fail
 refine bodyPost_ret (v := .agg pc.toArray) ?_ rfl ?_
 ·simp [results, Tryz.results112, Act.put, asAddr, hrs]
 ·exact HF.out
set_option maxRecDepth 100000 in
set_option maxHeartbeats 1000000 in
theorem rmsgK1 (Q R : Nat) (s : Rst) (w : World) (h : RS w Q R s) (hl : s.1.length ≤ 40000) (hk : (kiS 8 s).1 = 1) : Calls Tryz.prog 112 #[.pointer (some ⟨Q, 0, none⟩)] w fun en w' => ∃ m : Mg, en = .returned (.agg m.ms.cells.toArray) ∧ m.pure = (mg1 (kiS 8 s).2).1 ∧ m.ok ∧ m.At w' ∧ m.Bk (fun b => w.heap.size ≤ b) ∧ RS w' Q R (mg1 (kiS 8 s).2).2 ∧ Kept w R Q w' := by
 have hRw := h.st.1.1
 have hQw := h.mr.lt
 have ck := fun w0 h0 => kindRS Q R 8 s w0 h0
 have l0 := kiS_len 8 s
 unfold mg1
 generalize kiS 8 s = p_ at ck l0 hk ⊢
 obtain ⟨k, s0⟩ := p_
 simp only at ck l0 hk ⊢
 subst hk
 have c_a := fun w0 h0 => numRS Q R 1048576 s0 w0 h0
 have l_a : (nuS 1048576 s0).2.1.length ≤ s0.1.length := nuS_len _ _
 generalize nuS 1048576 s0 = p_ at c_a l_a ⊢
 obtain ⟨v_a, s_a⟩ := p_
 simp only at c_a l_a ⊢
 have c_b := fun w0 h0 => numRS Q R 1099511627776 s_a w0 h0
 have l_b : (nuS 1099511627776 s_a).2.1.length ≤ s_a.1.length := nuS_len _ _
 generalize nuS 1099511627776 s_a = p_ at c_b l_b ⊢
 obtain ⟨v_b, s_b⟩ := p_
 simp only at c_b l_b ⊢
 have c_c := fun w0 h0 => bgetS Q R s_b w0 h0 (by omega)
 have l_c : (baS s_b).2.1.length ≤ s_b.1.length := baS_len _
 generalize baS s_b = p_ at c_c l_c ⊢
 obtain ⟨⟨q_c, rs_c⟩, s_c⟩ := p_
 simp only at c_c l_c ⊢
 obtain ⟨zc, hzl, hzr⟩ : ∃ z : List Value, z.length = 119 ∧ ∀ w : World, (zeroValue 63).run Tryz.prog w = .ok (.agg z.toArray) w := ⟨_, (Ms.plain_ok 0 0 0 Vt.zero_ok zeros32_len zeros32_byte).len, zeroM⟩
 have hbk := build_kind 1
 have hql := (ms0_ok 1).len
 have hq1 := (ms0_ok 1).one
 have hiq : (Tryz.prog.info? 63).map (·.size) = some (Ms.plain 1 0 0 Vt.zero zeros32).cells.length := by rw [hql]; exact iszM
 have hk0 : ∀ (w' : World) b, w'.rangeAt b 0 (Ms.plain 1 0 0 Vt.zero zeros32).cells → w'.cell? ⟨b, 0, none⟩ = some (.int .i64 1) := fun w' b h => ((ms0_ok 1).at h).k
 obtain ⟨qk, hqk⟩ : ∃ q, Hid ((Ms.plain 1 0 0 Vt.zero zeros32).cells = q) := ⟨_, hide rfl⟩
 simp only [hqk.out] at hbk hql hq1 hiq hk0
 obtain ⟨hB1, hr1, hs1⟩ := boxed_new w zc 63
 have ht1 := there_newN w zc.toArray 63 (n := 119) (by simp [hzl])
 go_enter Tryz.func112, Tryz.ntmps112
 go_upto_region 0 with fail
 try simp only [Act.put]
 refine pl_begin ?_
 refine pl_run (d := some 2) (v := .pointer (some ⟨w.heap.size, 0, none⟩)) (w' := w.alloc (.cells zc.toArray 63)) (by rfl) (ex_alloc rfl (hzr _)) rfl ?_
 simp only [nz]
 refine pl_nil ?_
 obtain ⟨W1, hW1⟩ : ∃ W, w.alloc (.cells zc.toArray 63) = W := ⟨_, rfl⟩
 rw [hW1] at hB1 hr1 hs1 ht1 ⊢
 clear hW1 hr1
 have S1 := h.below hB1
 go_upto_region 1 with fail
 try simp only [Act.put]
 refine pl_begin ?_
 refine pl_t 4 (?_) (by rfl) ?_ rfl ?_
 rotate_left
 ·go_simp
  try with_reducible rfl
 simp only [nz]
 refine pl_call (d := some 5) (by rfl) (by go_simp; first | done | exact ⟨rfl, rfl⟩ | with_reducible rfl) rfl ?_
 refine (ck W1 S1).mono ?_
 rintro _ w2 ⟨rfl, S2, k2⟩
 refine ⟨_, rfl, ?_⟩
 simp only [nz]
 refine pl_t 6 (.agg qk.toArray) (by rfl) (ex_build (parts := [(0, .tmp 5)]) rfl rfl (hbk _)) rfl ?_
 simp only [nz]
 refine pl_run (d := some 3) (v := .pointer (some ⟨w2.heap.size, 0, none⟩)) (w' := w2.alloc (.cells zc.toArray 63)) (by rfl) (ex_alloc rfl (hzr _)) rfl ?_
 simp only [nz]
 refine pl_store (w' := (w2.alloc (.cells zc.toArray 63)).setCells w2.heap.size 0 qk) (by rfl) (ex_put (cs := qk.toArray) rfl rfl rfl (there_newN _ _ _ (by simp [hzl, hql])) (by simpa using hiq) (all_one hq1)) rfl ?_
 refine pl_nil ?_
 obtain ⟨hF1, hF2, hF3, -⟩ := fresh_store w2 zc.toArray 63 qk (by simp [hzl, hql])
 have hF4 := World.there_setCells (there_newN w2 zc.toArray 63 (n := 119) (by simp [hzl])) w2.heap.size 0 qk
 obtain ⟨w3, hw3⟩ : ∃ W, (w2.alloc (.cells zc.toArray 63)).setCells w2.heap.size 0 qk = W := ⟨_, rfl⟩
 rw [hw3] at hF1 hF2 hF3 hF4 ⊢
 clear hw3
 have hc0 := hk0 _ _ hF1
 have k3 : Kept w R Q w3 := (((Kept.refl w R Q).below hB1).trans k2).below hF2
 have z2 := k2.size
 rw [← hqk.out] at hF1
 have V3 : MV w Q R w.heap.size w2.heap.size 119 (Ms.plain 1 0 0 Vt.zero zeros32).cells s0 w3 := ⟨hF1, hF4, there_below (there_blk ht1 (k2.block _ hs1 (by omega) (by omega))) hF2 (by omega), k3, S2.below hF2, by have := hF2.size; omega, by omega, Nat.le_refl _, by have := hB1.size; omega, by omega, hRw, hQw⟩
 have hww : w.heap.size < w2.heap.size := by omega
 clear hF1 hF2 hF4 ht1 hB1 S1 S2 k2 k3 hk0 hbk hql hq1 hiq hqk h ck hzr hzl
 go_upto_region 2 with fail
 try simp only [Act.put]
 refine pl_begin ?_
 refine pl_t 7 (?_) (by rfl) ?_ rfl ?_
 rotate_left
 ·go_simp
  try with_reducible rfl
 simp only [nz]
 refine pl_t 8 (.int .i64 1) (by rfl) (pl_one rfl rfl hc0 Tryz.underlying3 rfl) rfl ?_
 simp only [nz]
 refine pl_nil ?_
 clear hc0
 go_upto_region 4 with fail
 have V8 := V3.drew
 refine hs_begin (S := (fun W' => W'.cell? ⟨Q, 0, none⟩ = some (.pointer (some ⟨R, 0, none⟩)))) 14 rfl (by kernel_rfl) ?_
 obtain ⟨w8, hw8⟩ : ∃ W, w3.drew = W := ⟨_, rfl⟩
 rw [hw8] at V8 ⊢
 clear hw8 V3
 have hS : (fun W' => W'.cell? ⟨Q, 0, none⟩ = some (.pointer (some ⟨R, 0, none⟩))) w8 := V8.rs.mr.c0
 refine hs_t 0 11 (?_) rfl (by kernel_rfl) (by kernel_rfl) (by kernel_rfl) (by rfl) ?_ hS rfl ?_
 rotate_left
 ·intro w' hw
  go_simp
  try with_reducible rfl
 simp only [nz]
 refine hs_t 1 12 (?_) rfl (by kernel_rfl) (by kernel_rfl) (by kernel_rfl) (by rfl) ?_ hS rfl ?_
 rotate_left
 ·intro w' hw
  go_simp
  try with_reducible rfl
 simp only [nz]
 refine hs_t 2 13 (?_) rfl (by kernel_rfl) (by kernel_rfl) (by kernel_rfl) (by rfl) ?_ hS rfl ?_
 rotate_left
 ·intro w' hw
  go_simp
  try with_reducible rfl
 simp only [nz]
 refine hs_t 3 14 (.pointer (some ⟨R, 0, none⟩)) rfl (by kernel_rfl) (by kernel_rfl) (by kernel_rfl) (by rfl) (fun w' hw => pl_one rfl rfl hw Tryz.underlying72 rfl) hS rfl ?_
 simp only [nz]
 refine hs_t 5 16 (?_) rfl (by kernel_rfl) (by kernel_rfl) (by kernel_rfl) (by rfl) ?_ hS rfl ?_
 rotate_left
 ·intro w' hw
  go_simp
  try with_reducible rfl
 simp only [nz]
 refine hs_t 6 17 (?_) rfl (by kernel_rfl) (by kernel_rfl) (by kernel_rfl) (by rfl) ?_ hS rfl ?_
 rotate_left
 ·intro w' hw
  go_simp
  try with_reducible rfl
 simp only [nz]
 refine hs_t 7 18 (?_) rfl (by kernel_rfl) (by kernel_rfl) (by kernel_rfl) (by rfl) ?_ hS rfl ?_
 rotate_left
 ·intro w' hw
  go_simp
  try with_reducible rfl
 simp only [nz]
 refine hs_t 8 19 (.pointer (some ⟨R, 0, none⟩)) rfl (by kernel_rfl) (by kernel_rfl) (by kernel_rfl) (by rfl) (fun w' hw => pl_one rfl rfl hw Tryz.underlying72 rfl) hS rfl ?_
 simp only [nz]
 refine hs_call (i := 4) (d := some 15) rfl (by kernel_rfl) (by rfl) (by go_simp; first | done | exact ⟨rfl, rfl⟩ | with_reducible rfl) rfl ?_
 refine (c_a w8 V8.rs).mono ?_
 rintro _ w5 ⟨rfl, S5, k5⟩
 have hS : (fun W' => W'.cell? ⟨Q, 0, none⟩ = some (.pointer (some ⟨R, 0, none⟩))) w5 := S5.mr.c0
 refine ⟨_, rfl, hS, ?_⟩
 simp only [nz]
 refine hs_t 10 21 (?_) rfl (by kernel_rfl) (by kernel_rfl) (by kernel_rfl) (by rfl) ?_ hS rfl ?_
 rotate_left
 ·intro w' hw
  go_simp
  try with_reducible rfl
 simp only [nz]
 refine hs_call (i := 9) (d := some 20) rfl (by kernel_rfl) (by rfl) (by go_simp; first | done | exact ⟨rfl, rfl⟩ | with_reducible rfl) rfl ?_
 refine (c_b w5 S5).mono ?_
 rintro _ w6 ⟨rfl, S6, k6⟩
 have hS : (fun W' => W'.cell? ⟨Q, 0, none⟩ = some (.pointer (some ⟨R, 0, none⟩))) w6 := S6.mr.c0
 refine ⟨_, rfl, hS, ?_⟩
 simp only [nz]
 have V_0 := ((V8.on k5 S5).on k6 S6)
 have V_1 := V_0.set 1 [.int .i64 v_a] (put_e v_a V_0.row (V_0.part 1 1 (by decide)))
 refine hs_store (i := 11) (w' := w6.setCells w2.heap.size 1 [.int .i64 v_a]) rfl (by kernel_rfl) (by rfl) (ex_put1 (n := 119) rfl rfl rfl V_0.box (by decide) iszI rfl rfl) rfl V_1.rs.mr.c0 ?_
 obtain ⟨w_11, hw_11⟩ : ∃ W, w6.setCells w2.heap.size 1 [.int .i64 v_a] = W := ⟨_, rfl⟩
 rw [hw_11] at V_1 ⊢
 clear hw_11
 have hS : (fun W' => W'.cell? ⟨Q, 0, none⟩ = some (.pointer (some ⟨R, 0, none⟩))) w_11 := V_1.rs.mr.c0
 refine hs_t 12 22 (?_) rfl (by kernel_rfl) (by kernel_rfl) (by kernel_rfl) (by rfl) ?_ hS rfl ?_
 rotate_left
 ·intro w' hw
  go_simp
  try with_reducible rfl
 simp only [nz]
 have V_2 := V_1.set 4 [.int .i64 v_b] (put_s v_b V_1.row (V_1.part 4 1 (by decide)))
 refine hs_store (i := 13) (w' := w_11.setCells w2.heap.size 4 [.int .i64 v_b]) rfl (by kernel_rfl) (by rfl) (ex_put1 (n := 119) rfl rfl rfl V_1.box (by decide) iszI rfl rfl) rfl V_2.rs.mr.c0 ?_
 obtain ⟨w_13, hw_13⟩ : ∃ W, w_11.setCells w2.heap.size 4 [.int .i64 v_b] = W := ⟨_, rfl⟩
 rw [hw_13] at V_2 ⊢
 clear hw_13
 have hS : (fun W' => W'.cell? ⟨Q, 0, none⟩ = some (.pointer (some ⟨R, 0, none⟩))) w_13 := V_2.rs.mr.c0
 refine hs_done (by kernel_rfl) ?_
 clear hS V8 S5 k5 S6 k6 V_0 V_1 c_a c_b
 go_upto_region 5 with fail
 try simp only [Act.put]
 refine pl_begin ?_
 refine pl_t 23 (?_) (by rfl) ?_ rfl ?_
 rotate_left
 ·go_simp
  try with_reducible rfl
 simp only [nz]
 refine pl_t 24 (?_) (by rfl) ?_ rfl ?_
 rotate_left
 ·go_simp
  try with_reducible rfl
 simp only [nz]
 refine pl_t 25 (?_) (by rfl) ?_ rfl ?_
 rotate_left
 ·go_simp
  try with_reducible rfl
 simp only [nz]
 refine pl_t 26 (.pointer (some ⟨R, 0, none⟩)) (by rfl) (pl_one rfl rfl V_2.rs.mr.c0 Tryz.underlying72 rfl) rfl ?_
 simp only [nz]
 refine pl_call (d := some 27) (by rfl) (by go_simp; first | done | exact ⟨rfl, rfl⟩ | with_reducible rfl) rfl ?_
 refine (c_c w_13 V_2.rs).mono ?_
 rintro _ wd ⟨x, rfl, hx, hA, hB, Sd, kd⟩
 refine ⟨_, rfl, ?_⟩
 simp only [nz]
 refine pl_t 28 (?_) (by rfl) ?_ rfl ?_
 rotate_left
 ·go_simp
  try with_reducible rfl
 simp only [nz]
 have Vd := V_2.on kd Sd
 have Ve := Vd.set 5 [.bool q_c, x.val] (put_b q_c x.val Vd.row (Vd.part 5 2 (by decide)))
 have lb := V_2.lb
 have la := V_2.la
 have na := V_2.kept.size
 refine pl_store (w' := wd.setCells w2.heap.size 5 [.bool q_c, x.val]) (by rfl) (ex_put (cs := #[.bool q_c, x.val]) rfl rfl rfl (Vd.part 5 2 (by decide)) iszBa (by simp [Value.oneCell', Sl.val])) rfl ?_
 refine pl_nil ?_
 have hA1 := hA.put (B := w2.heap.size) (o := 5) (vs := [.bool q_c, x.val]) hB (fun b hb => by omega)
 obtain ⟨we, hwe⟩ : ∃ W, wd.setCells w2.heap.size 5 [.bool q_c, x.val] = W := ⟨_, rfl⟩
 rw [hwe] at Ve hA1 ⊢
 clear hwe
 clear Vd Sd kd V_2 hA
 have rpc := Ve.row
 have hmo : Mg.ok ⟨1, v_a, 0, 0, v_b, q_c, x, Vt.zero, 0, 0, 0, ⟨none, 0, []⟩, ⟨none, 0, []⟩, zeros32, Vt.zero, ⟨none, 0, []⟩, ⟨#[]⟩, ⟨none, 0, []⟩⟩ := ⟨Vt.zero_ok, Vt.zero_ok, zeros32_len, zeros32_byte⟩
 have hpl : (Mg.ms ⟨1, v_a, 0, 0, v_b, q_c, x, Vt.zero, 0, 0, 0, ⟨none, 0, []⟩, ⟨none, 0, []⟩, zeros32, Vt.zero, ⟨none, 0, []⟩, ⟨#[]⟩, ⟨none, 0, []⟩⟩).cells.length = 119 := hmo.ms.len
 have hp1 := hmo.ms.one
 have hip : (Tryz.prog.info? 63).map (·.size) = some (Mg.ms ⟨1, v_a, 0, 0, v_b, q_c, x, Vt.zero, 0, 0, 0, ⟨none, 0, []⟩, ⟨none, 0, []⟩, zeros32, Vt.zero, ⟨none, 0, []⟩, ⟨#[]⟩, ⟨none, 0, []⟩⟩).cells.length := by rw [hpl]; exact iszM
 have rpc : we.rangeAt w2.heap.size 0 (Mg.ms ⟨1, v_a, 0, 0, v_b, q_c, x, Vt.zero, 0, 0, 0, ⟨none, 0, []⟩, ⟨none, 0, []⟩, zeros32, Vt.zero, ⟨none, 0, []⟩, ⟨#[]⟩, ⟨none, 0, []⟩⟩).cells := rpc
 obtain ⟨pc, hpc⟩ : ∃ p, Hid ((Mg.ms ⟨1, v_a, 0, 0, v_b, q_c, x, Vt.zero, 0, 0, 0, ⟨none, 0, []⟩, ⟨none, 0, []⟩, zeros32, Vt.zero, ⟨none, 0, []⟩, ⟨#[]⟩, ⟨none, 0, []⟩⟩).cells = p) := ⟨_, hide rfl⟩
 simp only [hpc.out] at hpl hip hp1 rpc
 go_upto_region 22 with fail
 try simp only [Act.put]
 refine pl_begin ?_
 refine pl_t 121 (.agg pc.toArray) (by rfl) (ex_mid rfl rfl rpc Tryz.underlying63 rfl hip) rfl ?_
 simp only [nz]
 refine pl_store (w' := we.setCells w.heap.size 0 pc) (by rfl) (ex_put (cs := pc.toArray) rfl rfl rfl (by simpa [hpl] using Ve.ans) (by simpa using hip) (all_one hp1)) rfl ?_
 refine pl_nil ?_
 have hlow : Below w.heap.size we (we.setCells w.heap.size 0 pc) := below_sets (Nat.le_refl _) pc 0 _ (Below.refl _ we)
 have hrs := run_loadVar_mid (P := Tryz.prog) (we.setCells w.heap.size 0 pc) w.heap.size 0 63 pc _ (World.rangeAt_setCells_same we w.heap.size 0 pc (by rw [hpl]; exact Ve.ans)) Tryz.underlying63 rfl hip
 have HF : Hid (∃ m : Mg, Ending.returned (.agg pc.toArray) = .returned (.agg m.ms.cells.toArray) ∧ m.pure = (⟨1, v_a, 0, 0, v_b, q_c, rs_c, Vt.zero, 0, 0, 0, [], [], zeros32, Vt.zero, [], ⟨#[]⟩, []⟩ : Mp) ∧ m.ok ∧ m.At (we.setCells w.heap.size 0 pc) ∧ m.Bk (fun b => w.heap.size ≤ b) ∧ RS (we.setCells w.heap.size 0 pc) Q R s_c ∧ Kept w R Q (we.setCells w.heap.size 0 pc)) := hide ⟨⟨1, v_a, 0, 0, v_b, q_c, x, Vt.zero, 0, 0, 0, ⟨none, 0, []⟩, ⟨none, 0, []⟩, zeros32, Vt.zero, ⟨none, 0, []⟩, ⟨#[]⟩, ⟨none, 0, []⟩⟩, by rw [hpc.out], by rw [← hx]; rfl, hmo, mg0_at (hA1.put hB (fun b hb => by omega)) hds_none RowsAt.none RowsAt.none RowsAt.none, ⟨hB.mono (fun b hb => by omega), no_bk, no_bk2, no_bk, no_bk, no_bk⟩, Ve.rs.low hlow hQw, Ve.kept.low hlow (Nat.le_refl _)⟩
 clear Ve hlow rpc hpc hmo hA1 hB hx
 go_wp2_with fail
 refine bodyPost_ret (v := .agg pc.toArray) ?_ rfl ?_
 ·simp [results, Tryz.results112, Act.put, asAddr, hrs]
 ·exact HF.out
set_option maxRecDepth 100000 in
set_option maxHeartbeats 1000000 in
theorem rmsgK2 (Q R : Nat) (s : Rst) (w : World) (h : RS w Q R s) (hl : s.1.length ≤ 40000) (hk : (kiS 8 s).1 = 2) : Calls Tryz.prog 112 #[.pointer (some ⟨Q, 0, none⟩)] w fun en w' => ∃ m : Mg, en = .returned (.agg m.ms.cells.toArray) ∧ m.pure = (mg2 (kiS 8 s).2).1 ∧ m.ok ∧ m.At w' ∧ m.Bk (fun b => w.heap.size ≤ b) ∧ RS w' Q R (mg2 (kiS 8 s).2).2 ∧ Kept w R Q w' := by
 have hRw := h.st.1.1
 have hQw := h.mr.lt
 have ck := fun w0 h0 => kindRS Q R 8 s w0 h0
 have l0 := kiS_len 8 s
 unfold mg2
 generalize kiS 8 s = p_ at ck l0 hk ⊢
 obtain ⟨k, s0⟩ := p_
 simp only at ck l0 hk ⊢
 subst hk
 have c_a := fun w0 h0 => rvoteS Q R s0 w0 h0 (by omega)
 have l_a : (voS s0).2.1.length ≤ s0.1.length := voS_len _
 have ok_a := fun hb => voS_ok s0 hb
 generalize voS s0 = p_ at c_a l_a ok_a ⊢
 obtain ⟨v_a, s_a⟩ := p_
 simp only at c_a l_a ok_a ⊢
 obtain ⟨zc, hzl, hzr⟩ : ∃ z : List Value, z.length = 119 ∧ ∀ w : World, (zeroValue 63).run Tryz.prog w = .ok (.agg z.toArray) w := ⟨_, (Ms.plain_ok 0 0 0 Vt.zero_ok zeros32_len zeros32_byte).len, zeroM⟩
 have hbk := build_kind 2
 have hql := (ms0_ok 2).len
 have hq1 := (ms0_ok 2).one
 have hiq : (Tryz.prog.info? 63).map (·.size) = some (Ms.plain 2 0 0 Vt.zero zeros32).cells.length := by rw [hql]; exact iszM
 have hk0 : ∀ (w' : World) b, w'.rangeAt b 0 (Ms.plain 2 0 0 Vt.zero zeros32).cells → w'.cell? ⟨b, 0, none⟩ = some (.int .i64 2) := fun w' b h => ((ms0_ok 2).at h).k
 obtain ⟨qk, hqk⟩ : ∃ q, Hid ((Ms.plain 2 0 0 Vt.zero zeros32).cells = q) := ⟨_, hide rfl⟩
 simp only [hqk.out] at hbk hql hq1 hiq hk0
 obtain ⟨hB1, hr1, hs1⟩ := boxed_new w zc 63
 have ht1 := there_newN w zc.toArray 63 (n := 119) (by simp [hzl])
 go_enter Tryz.func112, Tryz.ntmps112
 go_upto_region 0 with fail
 try simp only [Act.put]
 refine pl_begin ?_
 refine pl_run (d := some 2) (v := .pointer (some ⟨w.heap.size, 0, none⟩)) (w' := w.alloc (.cells zc.toArray 63)) (by rfl) (ex_alloc rfl (hzr _)) rfl ?_
 simp only [nz]
 refine pl_nil ?_
 obtain ⟨W1, hW1⟩ : ∃ W, w.alloc (.cells zc.toArray 63) = W := ⟨_, rfl⟩
 rw [hW1] at hB1 hr1 hs1 ht1 ⊢
 clear hW1 hr1
 have S1 := h.below hB1
 go_upto_region 1 with fail
 try simp only [Act.put]
 refine pl_begin ?_
 refine pl_t 4 (?_) (by rfl) ?_ rfl ?_
 rotate_left
 ·go_simp
  try with_reducible rfl
 simp only [nz]
 refine pl_call (d := some 5) (by rfl) (by go_simp; first | done | exact ⟨rfl, rfl⟩ | with_reducible rfl) rfl ?_
 refine (ck W1 S1).mono ?_
 rintro _ w2 ⟨rfl, S2, k2⟩
 refine ⟨_, rfl, ?_⟩
 simp only [nz]
 refine pl_t 6 (.agg qk.toArray) (by rfl) (ex_build (parts := [(0, .tmp 5)]) rfl rfl (hbk _)) rfl ?_
 simp only [nz]
 refine pl_run (d := some 3) (v := .pointer (some ⟨w2.heap.size, 0, none⟩)) (w' := w2.alloc (.cells zc.toArray 63)) (by rfl) (ex_alloc rfl (hzr _)) rfl ?_
 simp only [nz]
 refine pl_store (w' := (w2.alloc (.cells zc.toArray 63)).setCells w2.heap.size 0 qk) (by rfl) (ex_put (cs := qk.toArray) rfl rfl rfl (there_newN _ _ _ (by simp [hzl, hql])) (by simpa using hiq) (all_one hq1)) rfl ?_
 refine pl_nil ?_
 obtain ⟨hF1, hF2, hF3, -⟩ := fresh_store w2 zc.toArray 63 qk (by simp [hzl, hql])
 have hF4 := World.there_setCells (there_newN w2 zc.toArray 63 (n := 119) (by simp [hzl])) w2.heap.size 0 qk
 obtain ⟨w3, hw3⟩ : ∃ W, (w2.alloc (.cells zc.toArray 63)).setCells w2.heap.size 0 qk = W := ⟨_, rfl⟩
 rw [hw3] at hF1 hF2 hF3 hF4 ⊢
 clear hw3
 have hc0 := hk0 _ _ hF1
 have k3 : Kept w R Q w3 := (((Kept.refl w R Q).below hB1).trans k2).below hF2
 have z2 := k2.size
 rw [← hqk.out] at hF1
 have V3 : MV w Q R w.heap.size w2.heap.size 119 (Ms.plain 2 0 0 Vt.zero zeros32).cells s0 w3 := ⟨hF1, hF4, there_below (there_blk ht1 (k2.block _ hs1 (by omega) (by omega))) hF2 (by omega), k3, S2.below hF2, by have := hF2.size; omega, by omega, Nat.le_refl _, by have := hB1.size; omega, by omega, hRw, hQw⟩
 have hww : w.heap.size < w2.heap.size := by omega
 clear hF1 hF2 hF4 ht1 hB1 S1 S2 k2 k3 hk0 hbk hql hq1 hiq hqk h ck hzr hzl
 go_upto_region 2 with fail
 try simp only [Act.put]
 refine pl_begin ?_
 refine pl_t 7 (?_) (by rfl) ?_ rfl ?_
 rotate_left
 ·go_simp
  try with_reducible rfl
 simp only [nz]
 refine pl_t 8 (.int .i64 2) (by rfl) (pl_one rfl rfl hc0 Tryz.underlying3 rfl) rfl ?_
 simp only [nz]
 refine pl_nil ?_
 clear hc0
 go_upto_region 7 with fail
 try simp only [Act.put]
 refine pl_begin ?_
 refine pl_t 31 (?_) (by rfl) ?_ rfl ?_
 rotate_left
 ·go_simp
  try with_reducible rfl
 simp only [nz]
 refine pl_call (d := some 32) (by rfl) (by go_simp; first | done | exact ⟨rfl, rfl⟩ | with_reducible rfl) rfl ?_
 refine (c_a w3 V3.rs).mono ?_
 rintro _ wd ⟨rfl, Sd, kd⟩
 refine ⟨_, rfl, ?_⟩
 simp only [nz]
 refine pl_t 33 (?_) (by rfl) ?_ rfl ?_
 rotate_left
 ·go_simp
  try with_reducible rfl
 simp only [nz]
 have hv := ok_a V3.rs.st.bs
 have Vd := V3.on kd Sd
 have Ve := Vd.set 7 v_a.cells (put_vt v_a hv Vt.zero_ok Vd.row (Vd.part 7 36 (by decide)))
 have hvl := hv.len
 refine pl_store (w' := wd.setCells w2.heap.size 7 v_a.cells) (by rfl) (ex_put (cs := v_a.cells.toArray) rfl rfl rfl (by simpa [hvl] using Vd.part 7 36 (by decide)) (by simpa [hvl] using iszVo) (all_one (Vt.one v_a))) rfl ?_
 refine pl_nil ?_
 obtain ⟨we, hwe⟩ : ∃ W, wd.setCells w2.heap.size 7 v_a.cells = W := ⟨_, rfl⟩
 rw [hwe] at Ve ⊢
 clear hwe
 clear Vd Sd kd V3
 have rpc := Ve.row
 have hmo : Mg.ok ⟨2, 0, 0, 0, 0, false, ⟨none, 0, []⟩, v_a, 0, 0, 0, ⟨none, 0, []⟩, ⟨none, 0, []⟩, zeros32, Vt.zero, ⟨none, 0, []⟩, ⟨#[]⟩, ⟨none, 0, []⟩⟩ := ⟨hv, Vt.zero_ok, zeros32_len, zeros32_byte⟩
 have hpl : (Mg.ms ⟨2, 0, 0, 0, 0, false, ⟨none, 0, []⟩, v_a, 0, 0, 0, ⟨none, 0, []⟩, ⟨none, 0, []⟩, zeros32, Vt.zero, ⟨none, 0, []⟩, ⟨#[]⟩, ⟨none, 0, []⟩⟩).cells.length = 119 := hmo.ms.len
 have hp1 := hmo.ms.one
 have hip : (Tryz.prog.info? 63).map (·.size) = some (Mg.ms ⟨2, 0, 0, 0, 0, false, ⟨none, 0, []⟩, v_a, 0, 0, 0, ⟨none, 0, []⟩, ⟨none, 0, []⟩, zeros32, Vt.zero, ⟨none, 0, []⟩, ⟨#[]⟩, ⟨none, 0, []⟩⟩).cells.length := by rw [hpl]; exact iszM
 have rpc : we.rangeAt w2.heap.size 0 (Mg.ms ⟨2, 0, 0, 0, 0, false, ⟨none, 0, []⟩, v_a, 0, 0, 0, ⟨none, 0, []⟩, ⟨none, 0, []⟩, zeros32, Vt.zero, ⟨none, 0, []⟩, ⟨#[]⟩, ⟨none, 0, []⟩⟩).cells := rpc
 obtain ⟨pc, hpc⟩ : ∃ p, Hid ((Mg.ms ⟨2, 0, 0, 0, 0, false, ⟨none, 0, []⟩, v_a, 0, 0, 0, ⟨none, 0, []⟩, ⟨none, 0, []⟩, zeros32, Vt.zero, ⟨none, 0, []⟩, ⟨#[]⟩, ⟨none, 0, []⟩⟩).cells = p) := ⟨_, hide rfl⟩
 simp only [hpc.out] at hpl hip hp1 rpc
 go_upto_region 22 with fail
 try simp only [Act.put]
 refine pl_begin ?_
 refine pl_t 121 (.agg pc.toArray) (by rfl) (ex_mid rfl rfl rpc Tryz.underlying63 rfl hip) rfl ?_
 simp only [nz]
 refine pl_store (w' := we.setCells w.heap.size 0 pc) (by rfl) (ex_put (cs := pc.toArray) rfl rfl rfl (by simpa [hpl] using Ve.ans) (by simpa using hip) (all_one hp1)) rfl ?_
 refine pl_nil ?_
 have hlow : Below w.heap.size we (we.setCells w.heap.size 0 pc) := below_sets (Nat.le_refl _) pc 0 _ (Below.refl _ we)
 have hrs := run_loadVar_mid (P := Tryz.prog) (we.setCells w.heap.size 0 pc) w.heap.size 0 63 pc _ (World.rangeAt_setCells_same we w.heap.size 0 pc (by rw [hpl]; exact Ve.ans)) Tryz.underlying63 rfl hip
 have HF : Hid (∃ m : Mg, Ending.returned (.agg pc.toArray) = .returned (.agg m.ms.cells.toArray) ∧ m.pure = (⟨2, 0, 0, 0, 0, false, [], v_a, 0, 0, 0, [], [], zeros32, Vt.zero, [], ⟨#[]⟩, []⟩ : Mp) ∧ m.ok ∧ m.At (we.setCells w.heap.size 0 pc) ∧ m.Bk (fun b => w.heap.size ≤ b) ∧ RS (we.setCells w.heap.size 0 pc) Q R s_a ∧ Kept w R Q (we.setCells w.heap.size 0 pc)) := hide ⟨⟨2, 0, 0, 0, 0, false, ⟨none, 0, []⟩, v_a, 0, 0, 0, ⟨none, 0, []⟩, ⟨none, 0, []⟩, zeros32, Vt.zero, ⟨none, 0, []⟩, ⟨#[]⟩, ⟨none, 0, []⟩⟩, by rw [hpc.out], rfl, hmo, mg0_at RowsAt.none hds_none RowsAt.none RowsAt.none RowsAt.none, ⟨no_bk, no_bk, no_bk2, no_bk, no_bk, no_bk⟩, Ve.rs.low hlow hQw, Ve.kept.low hlow (Nat.le_refl _)⟩
 clear Ve hlow rpc hpc hmo 
 go_wp2_with fail
 refine bodyPost_ret (v := .agg pc.toArray) ?_ rfl ?_
 ·simp [results, Tryz.results112, Act.put, asAddr, hrs]
 ·exact HF.out
set_option maxRecDepth 100000 in
set_option maxHeartbeats 1000000 in
theorem rmsgK3 (Q R : Nat) (s : Rst) (w : World) (h : RS w Q R s) (hl : s.1.length ≤ 40000) (hk : (kiS 8 s).1 = 3) : Calls Tryz.prog 112 #[.pointer (some ⟨Q, 0, none⟩)] w fun en w' => ∃ m : Mg, en = .returned (.agg m.ms.cells.toArray) ∧ m.pure = (mg3 (kiS 8 s).2).1 ∧ m.ok ∧ m.At w' ∧ m.Bk (fun b => w.heap.size ≤ b) ∧ RS w' Q R (mg3 (kiS 8 s).2).2 ∧ Kept w R Q w' := by
 have hRw := h.st.1.1
 have hQw := h.mr.lt
 have ck := fun w0 h0 => kindRS Q R 8 s w0 h0
 have l0 := kiS_len 8 s
 unfold mg3
 generalize kiS 8 s = p_ at ck l0 hk ⊢
 obtain ⟨k, s0⟩ := p_
 simp only at ck l0 hk ⊢
 subst hk
 have c_a := fun w0 h0 => rchangeS Q R s0 w0 h0 (by omega)
 have l_a : (chS s0).2.1.length ≤ s0.1.length := chS_len _
 generalize chS s0 = p_ at c_a l_a ⊢
 obtain ⟨⟨e_a, m_a, n_a, he_a⟩, s_a⟩ := p_
 simp only at c_a l_a ⊢
 obtain ⟨zc, hzl, hzr⟩ : ∃ z : List Value, z.length = 119 ∧ ∀ w : World, (zeroValue 63).run Tryz.prog w = .ok (.agg z.toArray) w := ⟨_, (Ms.plain_ok 0 0 0 Vt.zero_ok zeros32_len zeros32_byte).len, zeroM⟩
 have hbk := build_kind 3
 have hql := (ms0_ok 3).len
 have hq1 := (ms0_ok 3).one
 have hiq : (Tryz.prog.info? 63).map (·.size) = some (Ms.plain 3 0 0 Vt.zero zeros32).cells.length := by rw [hql]; exact iszM
 have hk0 : ∀ (w' : World) b, w'.rangeAt b 0 (Ms.plain 3 0 0 Vt.zero zeros32).cells → w'.cell? ⟨b, 0, none⟩ = some (.int .i64 3) := fun w' b h => ((ms0_ok 3).at h).k
 obtain ⟨qk, hqk⟩ : ∃ q, Hid ((Ms.plain 3 0 0 Vt.zero zeros32).cells = q) := ⟨_, hide rfl⟩
 simp only [hqk.out] at hbk hql hq1 hiq hk0
 obtain ⟨hB1, hr1, hs1⟩ := boxed_new w zc 63
 have ht1 := there_newN w zc.toArray 63 (n := 119) (by simp [hzl])
 go_enter Tryz.func112, Tryz.ntmps112
 go_upto_region 0 with fail
 try simp only [Act.put]
 refine pl_begin ?_
 refine pl_run (d := some 2) (v := .pointer (some ⟨w.heap.size, 0, none⟩)) (w' := w.alloc (.cells zc.toArray 63)) (by rfl) (ex_alloc rfl (hzr _)) rfl ?_
 simp only [nz]
 refine pl_nil ?_
 obtain ⟨W1, hW1⟩ : ∃ W, w.alloc (.cells zc.toArray 63) = W := ⟨_, rfl⟩
 rw [hW1] at hB1 hr1 hs1 ht1 ⊢
 clear hW1 hr1
 have S1 := h.below hB1
 go_upto_region 1 with fail
 try simp only [Act.put]
 refine pl_begin ?_
 refine pl_t 4 (?_) (by rfl) ?_ rfl ?_
 rotate_left
 ·go_simp
  try with_reducible rfl
 simp only [nz]
 refine pl_call (d := some 5) (by rfl) (by go_simp; first | done | exact ⟨rfl, rfl⟩ | with_reducible rfl) rfl ?_
 refine (ck W1 S1).mono ?_
 rintro _ w2 ⟨rfl, S2, k2⟩
 refine ⟨_, rfl, ?_⟩
 simp only [nz]
 refine pl_t 6 (.agg qk.toArray) (by rfl) (ex_build (parts := [(0, .tmp 5)]) rfl rfl (hbk _)) rfl ?_
 simp only [nz]
 refine pl_run (d := some 3) (v := .pointer (some ⟨w2.heap.size, 0, none⟩)) (w' := w2.alloc (.cells zc.toArray 63)) (by rfl) (ex_alloc rfl (hzr _)) rfl ?_
 simp only [nz]
 refine pl_store (w' := (w2.alloc (.cells zc.toArray 63)).setCells w2.heap.size 0 qk) (by rfl) (ex_put (cs := qk.toArray) rfl rfl rfl (there_newN _ _ _ (by simp [hzl, hql])) (by simpa using hiq) (all_one hq1)) rfl ?_
 refine pl_nil ?_
 obtain ⟨hF1, hF2, hF3, -⟩ := fresh_store w2 zc.toArray 63 qk (by simp [hzl, hql])
 have hF4 := World.there_setCells (there_newN w2 zc.toArray 63 (n := 119) (by simp [hzl])) w2.heap.size 0 qk
 obtain ⟨w3, hw3⟩ : ∃ W, (w2.alloc (.cells zc.toArray 63)).setCells w2.heap.size 0 qk = W := ⟨_, rfl⟩
 rw [hw3] at hF1 hF2 hF3 hF4 ⊢
 clear hw3
 have hc0 := hk0 _ _ hF1
 have k3 : Kept w R Q w3 := (((Kept.refl w R Q).below hB1).trans k2).below hF2
 have z2 := k2.size
 rw [← hqk.out] at hF1
 have V3 : MV w Q R w.heap.size w2.heap.size 119 (Ms.plain 3 0 0 Vt.zero zeros32).cells s0 w3 := ⟨hF1, hF4, there_below (there_blk ht1 (k2.block _ hs1 (by omega) (by omega))) hF2 (by omega), k3, S2.below hF2, by have := hF2.size; omega, by omega, Nat.le_refl _, by have := hB1.size; omega, by omega, hRw, hQw⟩
 have hww : w.heap.size < w2.heap.size := by omega
 clear hF1 hF2 hF4 ht1 hB1 S1 S2 k2 k3 hk0 hbk hql hq1 hiq hqk h ck hzr hzl
 go_upto_region 2 with fail
 try simp only [Act.put]
 refine pl_begin ?_
 refine pl_t 7 (?_) (by rfl) ?_ rfl ?_
 rotate_left
 ·go_simp
  try with_reducible rfl
 simp only [nz]
 refine pl_t 8 (.int .i64 3) (by rfl) (pl_one rfl rfl hc0 Tryz.underlying3 rfl) rfl ?_
 simp only [nz]
 refine pl_nil ?_
 clear hc0
 go_upto_region 9 with fail
 try simp only [Act.put]
 refine pl_begin ?_
 refine pl_t 36 (?_) (by rfl) ?_ rfl ?_
 rotate_left
 ·go_simp
  try with_reducible rfl
 simp only [nz]
 refine pl_call (d := some 37) (by rfl) (by go_simp; first | done | exact ⟨rfl, rfl⟩ | with_reducible rfl) rfl ?_
 refine (c_a w3 V3.rs).mono ?_
 rintro _ wd ⟨x, rfl, hx, hA, hB, hB2, Sd, kd⟩
 refine ⟨_, rfl, ?_⟩
 simp only [nz]
 refine pl_t 38 (?_) (by rfl) ?_ rfl ?_
 rotate_left
 ·go_simp
  try with_reducible rfl
 simp only [nz]
 have Vd := V3.on kd Sd
 have Ve := Vd.set 43 [.int .i64 e_a, .int .i64 m_a, .int .i64 n_a, x.val] (put_ch e_a m_a n_a x.val Vt.zero_ok Vd.row (Vd.part 43 4 (by decide)))
 have lb := V3.lb
 have la := V3.la
 have na := V3.kept.size
 refine pl_store (w' := wd.setCells w2.heap.size 43 [.int .i64 e_a, .int .i64 m_a, .int .i64 n_a, x.val]) (by rfl) (ex_put (cs := #[.int .i64 e_a, .int .i64 m_a, .int .i64 n_a, x.val]) rfl rfl rfl (Vd.part 43 4 (by decide)) iszCh (by simp [Value.oneCell', Sl.val])) rfl ?_
 refine pl_nil ?_
 have hA1 := hA.put (B := w2.heap.size) (o := 43) (vs := [.int .i64 e_a, .int .i64 m_a, .int .i64 n_a, x.val]) hB hB2 (fun b hb => by omega)
 obtain ⟨we, hwe⟩ : ∃ W, wd.setCells w2.heap.size 43 [.int .i64 e_a, .int .i64 m_a, .int .i64 n_a, x.val] = W := ⟨_, rfl⟩
 rw [hwe] at Ve hA1 ⊢
 clear hwe
 clear Vd Sd kd V3 hA
 have rpc := Ve.row
 have hmo : Mg.ok ⟨3, 0, 0, 0, 0, false, ⟨none, 0, []⟩, Vt.zero, e_a, m_a, n_a, x, ⟨none, 0, []⟩, zeros32, Vt.zero, ⟨none, 0, []⟩, ⟨#[]⟩, ⟨none, 0, []⟩⟩ := ⟨Vt.zero_ok, Vt.zero_ok, zeros32_len, zeros32_byte⟩
 have hpl : (Mg.ms ⟨3, 0, 0, 0, 0, false, ⟨none, 0, []⟩, Vt.zero, e_a, m_a, n_a, x, ⟨none, 0, []⟩, zeros32, Vt.zero, ⟨none, 0, []⟩, ⟨#[]⟩, ⟨none, 0, []⟩⟩).cells.length = 119 := hmo.ms.len
 have hp1 := hmo.ms.one
 have hip : (Tryz.prog.info? 63).map (·.size) = some (Mg.ms ⟨3, 0, 0, 0, 0, false, ⟨none, 0, []⟩, Vt.zero, e_a, m_a, n_a, x, ⟨none, 0, []⟩, zeros32, Vt.zero, ⟨none, 0, []⟩, ⟨#[]⟩, ⟨none, 0, []⟩⟩).cells.length := by rw [hpl]; exact iszM
 have rpc : we.rangeAt w2.heap.size 0 (Mg.ms ⟨3, 0, 0, 0, 0, false, ⟨none, 0, []⟩, Vt.zero, e_a, m_a, n_a, x, ⟨none, 0, []⟩, zeros32, Vt.zero, ⟨none, 0, []⟩, ⟨#[]⟩, ⟨none, 0, []⟩⟩).cells := rpc
 obtain ⟨pc, hpc⟩ : ∃ p, Hid ((Mg.ms ⟨3, 0, 0, 0, 0, false, ⟨none, 0, []⟩, Vt.zero, e_a, m_a, n_a, x, ⟨none, 0, []⟩, zeros32, Vt.zero, ⟨none, 0, []⟩, ⟨#[]⟩, ⟨none, 0, []⟩⟩).cells = p) := ⟨_, hide rfl⟩
 simp only [hpc.out] at hpl hip hp1 rpc
 go_upto_region 22 with fail
 try simp only [Act.put]
 refine pl_begin ?_
 refine pl_t 121 (.agg pc.toArray) (by rfl) (ex_mid rfl rfl rpc Tryz.underlying63 rfl hip) rfl ?_
 simp only [nz]
 refine pl_store (w' := we.setCells w.heap.size 0 pc) (by rfl) (ex_put (cs := pc.toArray) rfl rfl rfl (by simpa [hpl] using Ve.ans) (by simpa using hip) (all_one hp1)) rfl ?_
 refine pl_nil ?_
 have hlow : Below w.heap.size we (we.setCells w.heap.size 0 pc) := below_sets (Nat.le_refl _) pc 0 _ (Below.refl _ we)
 have hrs := run_loadVar_mid (P := Tryz.prog) (we.setCells w.heap.size 0 pc) w.heap.size 0 63 pc _ (World.rangeAt_setCells_same we w.heap.size 0 pc (by rw [hpl]; exact Ve.ans)) Tryz.underlying63 rfl hip
 have HF : Hid (∃ m : Mg, Ending.returned (.agg pc.toArray) = .returned (.agg m.ms.cells.toArray) ∧ m.pure = (⟨3, 0, 0, 0, 0, false, [], Vt.zero, e_a, m_a, n_a, he_a, [], zeros32, Vt.zero, [], ⟨#[]⟩, []⟩ : Mp) ∧ m.ok ∧ m.At (we.setCells w.heap.size 0 pc) ∧ m.Bk (fun b => w.heap.size ≤ b) ∧ RS (we.setCells w.heap.size 0 pc) Q R s_a ∧ Kept w R Q (we.setCells w.heap.size 0 pc)) := hide ⟨⟨3, 0, 0, 0, 0, false, ⟨none, 0, []⟩, Vt.zero, e_a, m_a, n_a, x, ⟨none, 0, []⟩, zeros32, Vt.zero, ⟨none, 0, []⟩, ⟨#[]⟩, ⟨none, 0, []⟩⟩, by rw [hpc.out], by rw [← hx]; rfl, hmo, mg0_at RowsAt.none (hA1.put hB hB2 (fun b hb => by omega)) RowsAt.none RowsAt.none RowsAt.none, ⟨no_bk, hB.mono (fun b hb => by omega), fun y hy => (hB2 y hy).mono (fun b hb => by omega), no_bk, no_bk, no_bk⟩, Ve.rs.low hlow hQw, Ve.kept.low hlow (Nat.le_refl _)⟩
 clear Ve hlow rpc hpc hmo hA1 hB hB2 hx
 go_wp2_with fail
 refine bodyPost_ret (v := .agg pc.toArray) ?_ rfl ?_
 ·simp [results, Tryz.results112, Act.put, asAddr, hrs]
 ·exact HF.out
set_option maxRecDepth 100000 in
set_option maxHeartbeats 1000000 in
theorem rmsgK4 (Q R : Nat) (s : Rst) (w : World) (h : RS w Q R s) (hl : s.1.length ≤ 40000) (hk : (kiS 8 s).1 = 4) : Calls Tryz.prog 112 #[.pointer (some ⟨Q, 0, none⟩)] w fun en w' => ∃ m : Mg, en = .returned (.agg m.ms.cells.toArray) ∧ m.pure = (mg4 (kiS 8 s).2).1 ∧ m.ok ∧ m.At w' ∧ m.Bk (fun b => w.heap.size ≤ b) ∧ RS w' Q R (mg4 (kiS 8 s).2).2 ∧ Kept w R Q w' := by
 have hRw := h.st.1.1
 have hQw := h.mr.lt
 have ck := fun w0 h0 => kindRS Q R 8 s w0 h0
 have l0 := kiS_len 8 s
 unfold mg4
 generalize kiS 8 s = p_ at ck l0 hk ⊢
 obtain ⟨k, s0⟩ := p_
 simp only at ck l0 hk ⊢
 subst hk
 have c_a := fun w0 h0 => numRS Q R 1048576 s0 w0 h0
 have l_a : (nuS 1048576 s0).2.1.length ≤ s0.1.length := nuS_len _ _
 generalize nuS 1048576 s0 = p_ at c_a l_a ⊢
 obtain ⟨v_a, s_a⟩ := p_
 simp only at c_a l_a ⊢
 have c_b := fun w0 h0 => numRS Q R 64 s_a w0 h0
 have l_b : (nuS 64 s_a).2.1.length ≤ s_a.1.length := nuS_len _ _
 generalize nuS 64 s_a = p_ at c_b l_b ⊢
 obtain ⟨v_b, s_b⟩ := p_
 simp only at c_b l_b ⊢
 have c_c := fun w0 h0 => numRS Q R 1099511627776 s_b w0 h0
 have l_c : (nuS 1099511627776 s_b).2.1.length ≤ s_b.1.length := nuS_len _ _
 generalize nuS 1099511627776 s_b = p_ at c_c l_c ⊢
 obtain ⟨v_c, s_c⟩ := p_
 simp only at c_c l_c ⊢
 have c_d := fun w0 h0 => rlistE_any Q R s_c w0 h0 (by omega)
 have l_d : (lsS 64 enS s_c).2.1.length ≤ s_c.1.length := lsS_len enS_len _ _
 generalize lsS 64 enS s_c = p_ at c_d l_d ⊢
 obtain ⟨v_d, s_d⟩ := p_
 simp only at c_d l_d ⊢
 obtain ⟨zc, hzl, hzr⟩ : ∃ z : List Value, z.length = 119 ∧ ∀ w : World, (zeroValue 63).run Tryz.prog w = .ok (.agg z.toArray) w := ⟨_, (Ms.plain_ok 0 0 0 Vt.zero_ok zeros32_len zeros32_byte).len, zeroM⟩
 have hbk := build_kind 4
 have hql := (ms0_ok 4).len
 have hq1 := (ms0_ok 4).one
 have hiq : (Tryz.prog.info? 63).map (·.size) = some (Ms.plain 4 0 0 Vt.zero zeros32).cells.length := by rw [hql]; exact iszM
 have hk0 : ∀ (w' : World) b, w'.rangeAt b 0 (Ms.plain 4 0 0 Vt.zero zeros32).cells → w'.cell? ⟨b, 0, none⟩ = some (.int .i64 4) := fun w' b h => ((ms0_ok 4).at h).k
 obtain ⟨qk, hqk⟩ : ∃ q, Hid ((Ms.plain 4 0 0 Vt.zero zeros32).cells = q) := ⟨_, hide rfl⟩
 simp only [hqk.out] at hbk hql hq1 hiq hk0
 obtain ⟨hB1, hr1, hs1⟩ := boxed_new w zc 63
 have ht1 := there_newN w zc.toArray 63 (n := 119) (by simp [hzl])
 go_enter Tryz.func112, Tryz.ntmps112
 go_upto_region 0 with fail
 try simp only [Act.put]
 refine pl_begin ?_
 refine pl_run (d := some 2) (v := .pointer (some ⟨w.heap.size, 0, none⟩)) (w' := w.alloc (.cells zc.toArray 63)) (by rfl) (ex_alloc rfl (hzr _)) rfl ?_
 simp only [nz]
 refine pl_nil ?_
 obtain ⟨W1, hW1⟩ : ∃ W, w.alloc (.cells zc.toArray 63) = W := ⟨_, rfl⟩
 rw [hW1] at hB1 hr1 hs1 ht1 ⊢
 clear hW1 hr1
 have S1 := h.below hB1
 go_upto_region 1 with fail
 try simp only [Act.put]
 refine pl_begin ?_
 refine pl_t 4 (?_) (by rfl) ?_ rfl ?_
 rotate_left
 ·go_simp
  try with_reducible rfl
 simp only [nz]
 refine pl_call (d := some 5) (by rfl) (by go_simp; first | done | exact ⟨rfl, rfl⟩ | with_reducible rfl) rfl ?_
 refine (ck W1 S1).mono ?_
 rintro _ w2 ⟨rfl, S2, k2⟩
 refine ⟨_, rfl, ?_⟩
 simp only [nz]
 refine pl_t 6 (.agg qk.toArray) (by rfl) (ex_build (parts := [(0, .tmp 5)]) rfl rfl (hbk _)) rfl ?_
 simp only [nz]
 refine pl_run (d := some 3) (v := .pointer (some ⟨w2.heap.size, 0, none⟩)) (w' := w2.alloc (.cells zc.toArray 63)) (by rfl) (ex_alloc rfl (hzr _)) rfl ?_
 simp only [nz]
 refine pl_store (w' := (w2.alloc (.cells zc.toArray 63)).setCells w2.heap.size 0 qk) (by rfl) (ex_put (cs := qk.toArray) rfl rfl rfl (there_newN _ _ _ (by simp [hzl, hql])) (by simpa using hiq) (all_one hq1)) rfl ?_
 refine pl_nil ?_
 obtain ⟨hF1, hF2, hF3, -⟩ := fresh_store w2 zc.toArray 63 qk (by simp [hzl, hql])
 have hF4 := World.there_setCells (there_newN w2 zc.toArray 63 (n := 119) (by simp [hzl])) w2.heap.size 0 qk
 obtain ⟨w3, hw3⟩ : ∃ W, (w2.alloc (.cells zc.toArray 63)).setCells w2.heap.size 0 qk = W := ⟨_, rfl⟩
 rw [hw3] at hF1 hF2 hF3 hF4 ⊢
 clear hw3
 have hc0 := hk0 _ _ hF1
 have k3 : Kept w R Q w3 := (((Kept.refl w R Q).below hB1).trans k2).below hF2
 have z2 := k2.size
 rw [← hqk.out] at hF1
 have V3 : MV w Q R w.heap.size w2.heap.size 119 (Ms.plain 4 0 0 Vt.zero zeros32).cells s0 w3 := ⟨hF1, hF4, there_below (there_blk ht1 (k2.block _ hs1 (by omega) (by omega))) hF2 (by omega), k3, S2.below hF2, by have := hF2.size; omega, by omega, Nat.le_refl _, by have := hB1.size; omega, by omega, hRw, hQw⟩
 have hww : w.heap.size < w2.heap.size := by omega
 clear hF1 hF2 hF4 ht1 hB1 S1 S2 k2 k3 hk0 hbk hql hq1 hiq hqk h ck hzr hzl
 go_upto_region 2 with fail
 try simp only [Act.put]
 refine pl_begin ?_
 refine pl_t 7 (?_) (by rfl) ?_ rfl ?_
 rotate_left
 ·go_simp
  try with_reducible rfl
 simp only [nz]
 refine pl_t 8 (.int .i64 4) (by rfl) (pl_one rfl rfl hc0 Tryz.underlying3 rfl) rfl ?_
 simp only [nz]
 refine pl_nil ?_
 clear hc0
 go_upto_region 11 with fail
 have V8 := V3.drew
 refine hs_begin (S := (fun W' => W'.cell? ⟨Q, 0, none⟩ = some (.pointer (some ⟨R, 0, none⟩)))) 21 rfl (by kernel_rfl) ?_
 obtain ⟨w8, hw8⟩ : ∃ W, w3.drew = W := ⟨_, rfl⟩
 rw [hw8] at V8 ⊢
 clear hw8 V3
 have hS : (fun W' => W'.cell? ⟨Q, 0, none⟩ = some (.pointer (some ⟨R, 0, none⟩))) w8 := V8.rs.mr.c0
 refine hs_t 0 41 (?_) rfl (by kernel_rfl) (by kernel_rfl) (by kernel_rfl) (by rfl) ?_ hS rfl ?_
 rotate_left
 ·intro w' hw
  go_simp
  try with_reducible rfl
 simp only [nz]
 refine hs_t 1 42 (?_) rfl (by kernel_rfl) (by kernel_rfl) (by kernel_rfl) (by rfl) ?_ hS rfl ?_
 rotate_left
 ·intro w' hw
  go_simp
  try with_reducible rfl
 simp only [nz]
 refine hs_t 2 43 (?_) rfl (by kernel_rfl) (by kernel_rfl) (by kernel_rfl) (by rfl) ?_ hS rfl ?_
 rotate_left
 ·intro w' hw
  go_simp
  try with_reducible rfl
 simp only [nz]
 refine hs_t 3 44 (.pointer (some ⟨R, 0, none⟩)) rfl (by kernel_rfl) (by kernel_rfl) (by kernel_rfl) (by rfl) (fun w' hw => pl_one rfl rfl hw Tryz.underlying72 rfl) hS rfl ?_
 simp only [nz]
 refine hs_t 5 46 (?_) rfl (by kernel_rfl) (by kernel_rfl) (by kernel_rfl) (by rfl) ?_ hS rfl ?_
 rotate_left
 ·intro w' hw
  go_simp
  try with_reducible rfl
 simp only [nz]
 refine hs_t 6 47 (?_) rfl (by kernel_rfl) (by kernel_rfl) (by kernel_rfl) (by rfl) ?_ hS rfl ?_
 rotate_left
 ·intro w' hw
  go_simp
  try with_reducible rfl
 simp only [nz]
 refine hs_t 7 48 (?_) rfl (by kernel_rfl) (by kernel_rfl) (by kernel_rfl) (by rfl) ?_ hS rfl ?_
 rotate_left
 ·intro w' hw
  go_simp
  try with_reducible rfl
 simp only [nz]
 refine hs_t 8 49 (.pointer (some ⟨R, 0, none⟩)) rfl (by kernel_rfl) (by kernel_rfl) (by kernel_rfl) (by rfl) (fun w' hw => pl_one rfl rfl hw Tryz.underlying72 rfl) hS rfl ?_
 simp only [nz]
 refine hs_t 10 51 (?_) rfl (by kernel_rfl) (by kernel_rfl) (by kernel_rfl) (by rfl) ?_ hS rfl ?_
 rotate_left
 ·intro w' hw
  go_simp
  try with_reducible rfl
 simp only [nz]
 refine hs_t 11 52 (?_) rfl (by kernel_rfl) (by kernel_rfl) (by kernel_rfl) (by rfl) ?_ hS rfl ?_
 rotate_left
 ·intro w' hw
  go_simp
  try with_reducible rfl
 simp only [nz]
 refine hs_t 12 53 (?_) rfl (by kernel_rfl) (by kernel_rfl) (by kernel_rfl) (by rfl) ?_ hS rfl ?_
 rotate_left
 ·intro w' hw
  go_simp
  try with_reducible rfl
 simp only [nz]
 refine hs_t 13 54 (.pointer (some ⟨R, 0, none⟩)) rfl (by kernel_rfl) (by kernel_rfl) (by kernel_rfl) (by rfl) (fun w' hw => pl_one rfl rfl hw Tryz.underlying72 rfl) hS rfl ?_
 simp only [nz]
 refine hs_call (i := 4) (d := some 45) rfl (by kernel_rfl) (by rfl) (by go_simp; first | done | exact ⟨rfl, rfl⟩ | with_reducible rfl) rfl ?_
 refine (c_a w8 V8.rs).mono ?_
 rintro _ w5 ⟨rfl, S5, k5⟩
 have hS : (fun W' => W'.cell? ⟨Q, 0, none⟩ = some (.pointer (some ⟨R, 0, none⟩))) w5 := S5.mr.c0
 refine ⟨_, rfl, hS, ?_⟩
 simp only [nz]
 refine hs_t 15 56 (?_) rfl (by kernel_rfl) (by kernel_rfl) (by kernel_rfl) (by rfl) ?_ hS rfl ?_
 rotate_left
 ·intro w' hw
  go_simp
  try with_reducible rfl
 simp only [nz]
 refine hs_call (i := 9) (d := some 50) rfl (by kernel_rfl) (by rfl) (by go_simp; first | done | exact ⟨rfl, rfl⟩ | with_reducible rfl) rfl ?_
 refine (c_b w5 S5).mono ?_
 rintro _ w6 ⟨rfl, S6, k6⟩
 have hS : (fun W' => W'.cell? ⟨Q, 0, none⟩ = some (.pointer (some ⟨R, 0, none⟩))) w6 := S6.mr.c0
 refine ⟨_, rfl, hS, ?_⟩
 simp only [nz]
 refine hs_call (i := 14) (d := some 55) rfl (by kernel_rfl) (by rfl) (by go_simp; first | done | exact ⟨rfl, rfl⟩ | with_reducible rfl) rfl ?_
 refine (c_c w6 S6).mono ?_
 rintro _ w7 ⟨rfl, S7, k7⟩
 have hS : (fun W' => W'.cell? ⟨Q, 0, none⟩ = some (.pointer (some ⟨R, 0, none⟩))) w7 := S7.mr.c0
 refine ⟨_, rfl, hS, ?_⟩
 simp only [nz]
 have V_0 := (((V8.on k5 S5).on k6 S6).on k7 S7)
 have V_1 := V_0.set 1 [.int .i64 v_a] (put_e v_a V_0.row (V_0.part 1 1 (by decide)))
 refine hs_store (i := 16) (w' := w7.setCells w2.heap.size 1 [.int .i64 v_a]) rfl (by kernel_rfl) (by rfl) (ex_put1 (n := 119) rfl rfl rfl V_0.box (by decide) iszI rfl rfl) rfl V_1.rs.mr.c0 ?_
 obtain ⟨w_16, hw_16⟩ : ∃ W, w7.setCells w2.heap.size 1 [.int .i64 v_a] = W := ⟨_, rfl⟩
 rw [hw_16] at V_1 ⊢
 clear hw_16
 have hS : (fun W' => W'.cell? ⟨Q, 0, none⟩ = some (.pointer (some ⟨R, 0, none⟩))) w_16 := V_1.rs.mr.c0
 refine hs_t 17 57 (?_) rfl (by kernel_rfl) (by kernel_rfl) (by kernel_rfl) (by rfl) ?_ hS rfl ?_
 rotate_left
 ·intro w' hw
  go_simp
  try with_reducible rfl
 simp only [nz]
 have V_2 := V_1.set 2 [.int .i64 v_b] (put_l v_b V_1.row (V_1.part 2 1 (by decide)))
 refine hs_store (i := 18) (w' := w_16.setCells w2.heap.size 2 [.int .i64 v_b]) rfl (by kernel_rfl) (by rfl) (ex_put1 (n := 119) rfl rfl rfl V_1.box (by decide) iszI rfl rfl) rfl V_2.rs.mr.c0 ?_
 obtain ⟨w_18, hw_18⟩ : ∃ W, w_16.setCells w2.heap.size 2 [.int .i64 v_b] = W := ⟨_, rfl⟩
 rw [hw_18] at V_2 ⊢
 clear hw_18
 have hS : (fun W' => W'.cell? ⟨Q, 0, none⟩ = some (.pointer (some ⟨R, 0, none⟩))) w_18 := V_2.rs.mr.c0
 refine hs_t 19 58 (?_) rfl (by kernel_rfl) (by kernel_rfl) (by kernel_rfl) (by rfl) ?_ hS rfl ?_
 rotate_left
 ·intro w' hw
  go_simp
  try with_reducible rfl
 simp only [nz]
 have V_3 := V_2.set 3 [.int .i64 v_c] (put_v v_c V_2.row (V_2.part 3 1 (by decide)))
 refine hs_store (i := 20) (w' := w_18.setCells w2.heap.size 3 [.int .i64 v_c]) rfl (by kernel_rfl) (by rfl) (ex_put1 (n := 119) rfl rfl rfl V_2.box (by decide) iszI rfl rfl) rfl V_3.rs.mr.c0 ?_
 obtain ⟨w_20, hw_20⟩ : ∃ W, w_18.setCells w2.heap.size 3 [.int .i64 v_c] = W := ⟨_, rfl⟩
 rw [hw_20] at V_3 ⊢
 clear hw_20
 have hS : (fun W' => W'.cell? ⟨Q, 0, none⟩ = some (.pointer (some ⟨R, 0, none⟩))) w_20 := V_3.rs.mr.c0
 refine hs_done (by kernel_rfl) ?_
 clear hS V8 S5 k5 S6 k6 S7 k7 V_0 V_1 V_2 c_a c_b c_c
 go_upto_region 12 with fail
 try simp only [Act.put]
 refine pl_begin ?_
 refine pl_t 59 (?_) (by rfl) ?_ rfl ?_
 rotate_left
 ·go_simp
  try with_reducible rfl
 simp only [nz]
 refine pl_t 60 (?_) (by rfl) ?_ rfl ?_
 rotate_left
 ·go_simp
  try with_reducible rfl
 simp only [nz]
 refine pl_t 61 (?_) (by rfl) ?_ rfl ?_
 rotate_left
 ·go_simp
  try with_reducible rfl
 simp only [nz]
 refine pl_t 62 (.pointer (some ⟨R, 0, none⟩)) (by rfl) (pl_one rfl rfl V_3.rs.mr.c0 Tryz.underlying72 rfl) rfl ?_
 simp only [nz]
 refine pl_t 63 (?_) (by rfl) ?_ rfl ?_
 rotate_left
 ·go_simp
  try with_reducible rfl
 simp only [nz]
 refine pl_t 64 (?_) (by rfl) ?_ rfl ?_
 rotate_left
 ·go_simp
  try with_reducible rfl
 simp only [nz]
 refine pl_t 65 (?_) (by rfl) ?_ rfl ?_
 rotate_left
 ·go_simp
  try with_reducible rfl
 simp only [nz]
 refine pl_call (d := some 66) (by rfl) (by go_simp; first | done | exact ⟨rfl, rfl⟩ | with_reducible rfl) rfl ?_
 refine (c_d w_20 V_3.rs).mono ?_
 rintro _ wd ⟨x, rfl, hx, hA, hB, Sd, kd⟩
 refine ⟨_, rfl, ?_⟩
 simp only [nz]
 refine pl_t 67 (?_) (by rfl) ?_ rfl ?_
 rotate_left
 ·go_simp
  try with_reducible rfl
 simp only [nz]
 have Vd := V_3.on kd Sd
 have Ve := Vd.set 47 [x.val] (put_ne x.val Vt.zero_ok Vd.row (Vd.part 47 1 (by decide)))
 have lb := V_3.lb
 have la := V_3.la
 have na := V_3.kept.size
 refine pl_store (w' := wd.setCells w2.heap.size 47 [x.val]) (by rfl) (ex_put1 (n := 119) rfl rfl rfl Vd.box (by decide) iszEvs rfl rfl) rfl ?_
 refine pl_nil ?_
 have hA1 := hA.put (B := w2.heap.size) (o := 47) (vs := [x.val]) hB (fun b hb => by omega)
 obtain ⟨we, hwe⟩ : ∃ W, wd.setCells w2.heap.size 47 [x.val] = W := ⟨_, rfl⟩
 rw [hwe] at Ve hA1 ⊢
 clear hwe
 clear Vd Sd kd V_3 hA
 have rpc := Ve.row
 have hmo : Mg.ok ⟨4, v_a, v_b, v_c, 0, false, ⟨none, 0, []⟩, Vt.zero, 0, 0, 0, ⟨none, 0, []⟩, x, zeros32, Vt.zero, ⟨none, 0, []⟩, ⟨#[]⟩, ⟨none, 0, []⟩⟩ := ⟨Vt.zero_ok, Vt.zero_ok, zeros32_len, zeros32_byte⟩
 have hpl : (Mg.ms ⟨4, v_a, v_b, v_c, 0, false, ⟨none, 0, []⟩, Vt.zero, 0, 0, 0, ⟨none, 0, []⟩, x, zeros32, Vt.zero, ⟨none, 0, []⟩, ⟨#[]⟩, ⟨none, 0, []⟩⟩).cells.length = 119 := hmo.ms.len
 have hp1 := hmo.ms.one
 have hip : (Tryz.prog.info? 63).map (·.size) = some (Mg.ms ⟨4, v_a, v_b, v_c, 0, false, ⟨none, 0, []⟩, Vt.zero, 0, 0, 0, ⟨none, 0, []⟩, x, zeros32, Vt.zero, ⟨none, 0, []⟩, ⟨#[]⟩, ⟨none, 0, []⟩⟩).cells.length := by rw [hpl]; exact iszM
 have rpc : we.rangeAt w2.heap.size 0 (Mg.ms ⟨4, v_a, v_b, v_c, 0, false, ⟨none, 0, []⟩, Vt.zero, 0, 0, 0, ⟨none, 0, []⟩, x, zeros32, Vt.zero, ⟨none, 0, []⟩, ⟨#[]⟩, ⟨none, 0, []⟩⟩).cells := rpc
 obtain ⟨pc, hpc⟩ : ∃ p, Hid ((Mg.ms ⟨4, v_a, v_b, v_c, 0, false, ⟨none, 0, []⟩, Vt.zero, 0, 0, 0, ⟨none, 0, []⟩, x, zeros32, Vt.zero, ⟨none, 0, []⟩, ⟨#[]⟩, ⟨none, 0, []⟩⟩).cells = p) := ⟨_, hide rfl⟩
 simp only [hpc.out] at hpl hip hp1 rpc
 go_upto_region 22 with fail
 try simp only [Act.put]
 refine pl_begin ?_
 refine pl_t 121 (.agg pc.toArray) (by rfl) (ex_mid rfl rfl rpc Tryz.underlying63 rfl hip) rfl ?_
 simp only [nz]
 refine pl_store (w' := we.setCells w.heap.size 0 pc) (by rfl) (ex_put (cs := pc.toArray) rfl rfl rfl (by simpa [hpl] using Ve.ans) (by simpa using hip) (all_one hp1)) rfl ?_
 refine pl_nil ?_
 have hlow : Below w.heap.size we (we.setCells w.heap.size 0 pc) := below_sets (Nat.le_refl _) pc 0 _ (Below.refl _ we)
 have hrs := run_loadVar_mid (P := Tryz.prog) (we.setCells w.heap.size 0 pc) w.heap.size 0 63 pc _ (World.rangeAt_setCells_same we w.heap.size 0 pc (by rw [hpl]; exact Ve.ans)) Tryz.underlying63 rfl hip
 have HF : Hid (∃ m : Mg, Ending.returned (.agg pc.toArray) = .returned (.agg m.ms.cells.toArray) ∧ m.pure = (⟨4, v_a, v_b, v_c, 0, false, [], Vt.zero, 0, 0, 0, [], v_d, zeros32, Vt.zero, [], ⟨#[]⟩, []⟩ : Mp) ∧ m.ok ∧ m.At (we.setCells w.heap.size 0 pc) ∧ m.Bk (fun b => w.heap.size ≤ b) ∧ RS (we.setCells w.heap.size 0 pc) Q R s_d ∧ Kept w R Q (we.setCells w.heap.size 0 pc)) := hide ⟨⟨4, v_a, v_b, v_c, 0, false, ⟨none, 0, []⟩, Vt.zero, 0, 0, 0, ⟨none, 0, []⟩, x, zeros32, Vt.zero, ⟨none, 0, []⟩, ⟨#[]⟩, ⟨none, 0, []⟩⟩, by rw [hpc.out], by rw [← hx]; rfl, hmo, mg0_at RowsAt.none hds_none (hA1.put hB (fun b hb => by omega)) RowsAt.none RowsAt.none, ⟨no_bk, no_bk, no_bk2, hB.mono (fun b hb => by omega), no_bk, no_bk⟩, Ve.rs.low hlow hQw, Ve.kept.low hlow (Nat.le_refl _)⟩
 clear Ve hlow rpc hpc hmo hA1 hB hx
 go_wp2_with fail
 refine bodyPost_ret (v := .agg pc.toArray) ?_ rfl ?_
 ·simp [results, Tryz.results112, Act.put, asAddr, hrs]
 ·exact HF.out
end Go.Proofs.YtinndbipomlokaaGreat
