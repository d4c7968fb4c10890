/- records: the document's Decode -/
import Derived.Test.YtinndbipomlokaaGreatJB0
import Derived.Test.YtinndbipomlokaaGreatJB14
import Derived.Test.YtinndbipomlokaaGreatJB12
namespace Go.Proofs.YtinndbipomlokaaGreat
open Go.RowKit
open Sha Tal
set_option linter.unusedVariables false
set_option linter.unusedSimpArgs false
structure KX (D : Nat) (w : World) (R X : Nat) (c : Rc) (s : Xst) (W : World) : Prop where
  own : W.rangeAt X 0 c.cells
  thX : W.there X 0 45
  st : XR W D R s
  gb : w.grownBy W (some R)
  lx : X < W.heap.size
  xw : w.heap.size ≤ X
  rx : R < w.heap.size
  ok : c.ct.ok
theorem KX.on {w W W' : World} {D R X : Nat} {c : Rc} {s : Xst} (h : KX D w R X c s W) (s' : Xst) (hs : XR W' D R s') (hg : W.grownBy W' (some R)) : KX D w R X c s' W' := by
 have h1 := h.xw
 have h2 := h.rx
 have hb := hg.block X h.lx (by intro q; injection q with q; omega)
 exact ⟨range_blk h.own hb, there_blk h.thX hb, hs, gb_trans h.gb hg, Nat.lt_of_lt_of_le h.lx hg.size, h1, h2, h.ok⟩
theorem KX.put {w W : World} {D R X : Nat} {c c' : Rc} {s : Xst} (h : KX D w R X c s W) (hc : c'.ct.ok) (pre mid vs post : List Value) (e1 : c.cells = pre ++ (mid ++ post)) (e2 : c'.cells = pre ++ (vs ++ post)) (o : Nat) (ho : pre.length = o) (hl : vs.length = mid.length) (hn : o + vs.length ≤ 45) : KX D w R X c' s (W.setCells X o vs) := by
 have h1 := h.xw
 have h2 := h.rx
 have hb : Below w.heap.size W (W.setCells X o vs) := below_sets h1 vs o _ (Below.refl _ _)
 exact ⟨by rw [e2]; exact range_put (by rw [← e1]; exact h.own) o ho (there_part1 h.thX hn) hl, World.there_setCells h.thX X o vs, h.st.low hb h2, ⟨hb.os.trans h.gb.os, hb.tape.trans h.gb.tape, hb.output.trans h.gb.output, Nat.le_trans h.gb.size hb.size, fun i hi hne => (hb.block i hi).trans (h.gb.block i hi hne)⟩, by rw [size_sets]; exact h.lx, h1, h2, hc⟩
theorem KX.k {w W : World} {D R X : Nat} {c : Rc} {s : Xst} (h : KX D w R X c s W) (x : Int) : KX D w R X { c with k := x } s (W.setCells X 0 [.int .i64 x]) :=
 h.put (c' := { c with k := x }) h.ok [] [.int .i64 c.k] [.int .i64 x] _ rfl rfl 0 rfl rfl (by simp)
theorem KX.l {w W : World} {D R X : Nat} {c : Rc} {s : Xst} (h : KX D w R X c s W) (x : Int) : KX D w R X { c with l := x } s (W.setCells X 1 [.int .i64 x]) :=
 h.put (c' := { c with l := x }) h.ok [.int .i64 c.k] [.int .i64 c.l] [.int .i64 x] _ rfl rfl 1 rfl rfl (by simp)
theorem KX.v {w W : World} {D R X : Nat} {c : Rc} {s : Xst} (h : KX D w R X c s W) (x : Int) : KX D w R X { c with v := x } s (W.setCells X 2 [.int .i64 x]) :=
 h.put (c' := { c with v := x }) h.ok [.int .i64 c.k, .int .i64 c.l] [.int .i64 c.v] [.int .i64 x] _ rfl rfl 2 rfl rfl (by simp)
theorem KX.s {w W : World} {D R X : Nat} {c : Rc} {s : Xst} (h : KX D w R X c s W) (x : Int) : KX D w R X { c with s := x } s (W.setCells X 3 [.int .i64 x]) :=
 h.put (c' := { c with s := x }) h.ok [.int .i64 c.k, .int .i64 c.l, .int .i64 c.v] [.int .i64 c.s] [.int .i64 x] _ rfl rfl 3 rfl rfl (by simp)
theorem KX.b {w W : World} {D R X : Nat} {c : Rc} {s : Xst} (h : KX D w R X c s W) (q : Bool) (x : Sl Rq) : KX D w R X { c with q := q, rs := x } s (W.setCells X 4 [.bool q, x.val]) :=
 h.put (c' := { c with q := q, rs := x }) h.ok [.int .i64 c.k, .int .i64 c.l, .int .i64 c.v, .int .i64 c.s] [.bool c.q, c.rs.val] [.bool q, x.val] _ rfl rfl 4 rfl rfl (by simp)
theorem KX.c {D : Nat} {w W : World} {R X : Nat} {c : Rc} {s : Xst} (h : KX D w R X c s W) (y : Vt) (hy : y.ok) (x : Sl Sg) : KX D w R X { c with ct := y, cs := x } s (W.setCells X 6 (certL y x)) :=
 h.put (c' := { c with ct := y, cs := x }) hy [.int .i64 c.k, .int .i64 c.l, .int .i64 c.v, .int .i64 c.s, .bool c.q, c.rs.val] (certL c.ct c.cs) (certL y x) _ rfl rfl 6 rfl (by rw [cert_len h.ok, cert_len hy]) (by rw [cert_len hy]; decide)
theorem KX.t {D : Nat} {w W : World} {R X : Nat} {c : Rc} {s : Xst} (h : KX D w R X c s W) (x : ByteArray) : KX D w R X { c with st := x } s (W.setCells X 43 [.string x]) :=
 h.put (c' := { c with st := x }) h.ok ([.int .i64 c.k, .int .i64 c.l, .int .i64 c.v, .int .i64 c.s, .bool c.q, c.rs.val] ++ certL c.ct c.cs) [.string c.st] [.string x] [c.sg.val] (by simp [Rc.cells]) (by simp [Rc.cells]) 43 (by rw [List.length_append, cert_len h.ok]; rfl) rfl (by simp)
theorem KX.g {D : Nat} {w W : World} {R X : Nat} {c : Rc} {s : Xst} (h : KX D w R X c s W) (x : Sl Sg) : KX D w R X { c with sg := x } s (W.setCells X 44 [x.val]) :=
 h.put (c' := { c with sg := x }) h.ok ([.int .i64 c.k, .int .i64 c.l, .int .i64 c.v, .int .i64 c.s, .bool c.q, c.rs.val] ++ (certL c.ct c.cs ++ [.string c.st])) [c.sg.val] [x.val] [] (by simp [Rc.cells]) (by simp [Rc.cells]) 44 (by simp [cert_len h.ok]) rfl (by simp)
theorem KX.below {D : Nat} {w W W' : World} {R X : Nat} {c : Rc} {s : Xst} (h : KX D w R X c s W) (hb : Below W.heap.size W W') : KX D w R X c s W' :=
 ⟨range_below h.own hb h.lx, there_below h.thX hb h.lx, h.st.below hb, gb_trans h.gb ⟨hb.os, hb.tape, hb.output, hb.size, fun i hi _ => hb.block i hi⟩, Nat.lt_of_lt_of_le h.lx hb.size, h.xw, h.rx, h.ok⟩
theorem kx_low {n R : Nat} {w W2 W : World} (hB : Below n w W2) (g : W2.grownBy W (some R)) (hR : n ≤ R) (hn : n ≤ W2.heap.size) : Below n w W :=
 ⟨g.os.trans hB.os, g.tape.trans hB.tape, g.output.trans hB.output, Nat.le_trans hB.size g.size, fun i hi => (g.block i (Nat.lt_of_lt_of_le hi hn) (by intro q; injection q with q; omega)).trans (hB.block i hi)⟩
def kfin (p : (Rp × ByteArray) × Xst) : Rp × Int := if doneE p.2.1 p.2.2 ≠ 0 then (Rp.zero 0, doneE p.2.1 p.2.2) else if p.1.1.k = 1 ∨ p.1.1.k = 3 then (p.1.1, 0) else ofT p.1.1.k (strL p.1.2)
theorem kdec_fin (zs : List Int) : kdec zs = kfin (krS (zs, 0)) := rfl
theorem kfin_bad {r : Rp} {t : ByteArray} {s : Xst} {d : Int} (hd : doneE s.1 s.2 = d) (h : d ≠ 0) : kfin ((r, t), s) = (Rp.zero 0, d) := by
 unfold kfin
 simp only [hd]
 rw [if_pos h]
theorem kfin_own {r : Rp} {t : ByteArray} {s : Xst} (hd : doneE s.1 s.2 = 0) (h : r.k = 1 ∨ r.k = 3) : kfin ((r, t), s) = (r, 0) := by
 unfold kfin
 simp only [hd]
 rw [if_neg (by decide), if_pos h]
theorem kfin_of {r : Rp} {t : ByteArray} {s : Xst} (hd : doneE s.1 s.2 = 0) (h : ¬ (r.k = 1 ∨ r.k = 3)) : kfin ((r, t), s) = ofT r.k (strL t) := by
 unfold kfin
 simp only [hd]
 rw [if_neg (by decide), if_neg h]
theorem ofT_0 : ofT 0 (strL ⟨#[]⟩) = (Rp.zero 0, 240) := by
 unfold ofT
 rw [if_neg]
 intro h
 have h1 : (decS []).2 ≠ 0 := by decide
 exact h1 h.1
set_option maxRecDepth 100000 in
set_option maxHeartbeats 4000000 in
theorem xkdecode_any (a : Option Addr) (cap : Nat) (zs : List Int) (w : World) (h : RowAt w a zs) (hl : zs.length ≤ 40000) : Calls Tryz.prog 16 #[.slice a zs.length cap] w fun en w' => DecK w (kdec zs) en w' := by
 obtain ⟨zc, hz0, hzl, hz1, hzr, hbn⟩ : ∃ z : List Value, Hid (z = (Rc.zero 0).cells) ∧ z.length = 45 ∧ (∀ v ∈ z, v.oneCell' = true) ∧ (∀ w : World, (zeroValue 33).run Tryz.prog w = .ok (.agg z.toArray) w) ∧ (∀ w : World, (Instr.build 33 #[]).run Tryz.prog w = .ok (.agg z.toArray) w) := ⟨_, hide rfl, Rc.len Vt.zero_ok, Rc.one (Rc.zero 0), zeroRc, build_rn⟩
 obtain ⟨zm, hzml, hzmr⟩ : ∃ z : List Value, z.length = 119 ∧ ∀ w : World, (zeroValue 63).run Tryz.prog w = .ok (.agg z.toArray) w := ⟨_, (Ms.plain_ok 0 0 0 Vt.zero_ok zeros32_len zeros32_byte).len, zeroM⟩
 have cR := fun w0 h0 => refRead_any a cap zs w0 h0 hl
 have cN := fun D R most s w0 h0 => xnumS D R most s w0 h0
 have c1 := fun D R w0 h0 => xnumS D R 5 (zs, 0) w0 h0
 have l1 : (xnuS 5 (zs, 0)).2.1.length ≤ 40000 := Nat.le_trans (xnuS_len 5 (zs, 0)) hl
 have hkb : (xnuS 5 (zs, 0)).1 = 0 ∨ (xnuS 5 (zs, 0)).1 = 1 ∨ (xnuS 5 (zs, 0)).1 = 3 ∨ (xnuS 5 (zs, 0)).1 = 2 ∨ (xnuS 5 (zs, 0)).1 = 4 ∨ (xnuS 5 (zs, 0)).1 = 5 := by
  have hb : (0 : Int) = 0 → Bs zs := fun _ z hz => h.2.1 z hz
  have := numS_bd (most := 5) hb (by decide)
  show (numS zs 0 5).1 = 0 ∨ (numS zs 0 5).1 = 1 ∨ (numS zs 0 5).1 = 3 ∨ (numS zs 0 5).1 = 2 ∨ (numS zs 0 5).1 = 4 ∨ (numS zs 0 5).1 = 5
  omega
 rw [kdec_fin]
 unfold krS
 generalize xnuS 5 (zs, 0) = p at c1 l1 hkb ⊢
 obtain ⟨k, s1⟩ := p
 simp only at c1 l1 hkb ⊢
 obtain ⟨PP, HP0⟩ : ∃ P, Hid (P = kfin (if k = 1 then krA s1 else if k = 3 then krV s1 else if k = 2 ∨ k = 4 ∨ k = 5 then krT k s1 else ((Rp.zero k, ⟨#[]⟩), s1))) := ⟨_, hide rfl⟩
 rw [← HP0.out]
 have hbk := build_rk k
 have hkl : (Rc.zero k).cells.length = 45 := Rc.len Vt.zero_ok
 have hk1' := Rc.one (Rc.zero k)
 obtain ⟨hB1, -, hs1⟩ := boxed_new w zc 33
 have ht1 := there_newN w zc.toArray 33 (n := 45) (by simp [hzl])
 have h1 := h.below hB1
 obtain ⟨A, hA⟩ : ∃ X, w.heap.size = X := ⟨_, rfl⟩
 have HAw : Hid (A = w.heap.size) := hide hA.symm
 clear h
 go_enter Tryz.func16, Tryz.ntmps16
 go_upto_region 0 with fail
 try simp only [Act.put]
 refine pl_begin ?_
 refine pl_run (d := some 2) (v := .pointer (some ⟨w.heap.size, 0, none⟩)) (w' := w.alloc (.cells zc.toArray 33)) (by rfl) (ex_alloc rfl (hzr _)) rfl ?_
 simp only [nz]
 refine pl_t 3 (?_) (by rfl) ?_ rfl ?_
 rotate_left
 ·go_simp
  try with_reducible rfl
 simp only [nz]
 refine pl_nil ?_
 obtain ⟨W1, hW1⟩ : ∃ W, w.alloc (.cells zc.toArray 33) = W := ⟨_, rfl⟩
 rw [hW1] at hB1 hs1 ht1 h1 ⊢
 rw [hA] at hs1 ht1
 simp only [hA]
 clear hW1
 go_upto_region 1 with fail
 try simp only [Act.put]
 refine pl_begin ?_
 refine pl_t 10 (?_) (by rfl) ?_ rfl ?_
 rotate_left
 ·go_simp
  try with_reducible rfl
 simp only [nz]
 refine pl_call (d := some 11) (by rfl) (by go_simp; first | done | exact ⟨rfl, rfl⟩ | with_reducible rfl) rfl ?_
 refine (cR W1 h1).mono ?_
 rintro _ W2 ⟨R, rfl, hRw0, S2, hb2⟩
 refine ⟨_, rfl, ?_⟩
 simp only [nz]
 refine pl_t 4 (?_) (by rfl) ?_ rfl ?_
 rotate_left
 ·go_simp
  try with_reducible rfl
 simp only [nz]
 refine pl_nil ?_
 have hTA := there_below ht1 hb2 hs1
 have hB2 : Below w.heap.size w W2 := hB1.trans (hb2.mono hB1.size)
 have hA2 := Nat.lt_of_lt_of_le hs1 hb2.size
 have hRA : A < R := by omega
 have hAR : (some A : Option Nat) ≠ some R := by intro q; injection q with q; omega
 have hRw : w.heap.size ≤ R := by omega
 have hw2 : w.heap.size ≤ W2.heap.size := hB2.size
 obtain ⟨D, hD⟩ : ∃ D, W1.heap.size = D := ⟨_, rfl⟩
 rw [hD] at S2 hRw0
 have XS : XR W2 D R (zs, 0) := ⟨S2, RSt.lt S2, hRw0⟩
 have hRl := XS.lx
 clear h1 cR S2 hD hb2 hB1 hs1 ht1 hRw0 hA hl
 go_upto_region 2 with fail
 try simp only [Act.put]
 refine pl_begin ?_
 refine pl_t 12 (?_) (by rfl) ?_ rfl ?_
 rotate_left
 ·go_simp
  try with_reducible rfl
 simp only [nz]
 refine pl_call (d := some 13) (by rfl) (by go_simp; first | done | exact ⟨rfl, rfl⟩ | with_reducible rfl) rfl ?_
 refine (c1 D R W2 XS).mono ?_
 rintro _ w3 ⟨rfl, hs9, hg9⟩
 refine ⟨_, rfl, ?_⟩
 simp only [nz]
 refine pl_t 14 (.agg (Rc.zero k).cells.toArray) (by rfl) (ex_build (parts := [(0, .tmp 13)]) rfl rfl (hbk _)) rfl ?_
 simp only [nz]
 refine pl_run (d := some 5) (v := .pointer (some ⟨w3.heap.size, 0, none⟩)) (w' := w3.alloc (.cells zc.toArray 33)) (by rfl) (ex_alloc rfl (hzr _)) rfl ?_
 simp only [nz]
 refine pl_store (w' := (w3.alloc (.cells zc.toArray 33)).setCells w3.heap.size 0 (Rc.zero k).cells) (by rfl) (ex_put (cs := (Rc.zero k).cells.toArray) rfl rfl rfl (there_newN _ _ _ (by simp [hzl, hkl])) (by simpa [hkl] using iszRc) (all_one hk1')) rfl ?_
 refine pl_nil ?_
 obtain ⟨r4, hF2, hF3, -⟩ := fresh_store w3 zc.toArray 33 (Rc.zero k).cells (by simp [hzl, hkl])
 have hT4 := World.there_setCells (there_newN w3 zc.toArray 33 (n := 45) (by simp [hzl])) w3.heap.size 0 (Rc.zero k).cells
 have on : KX D W2 R w3.heap.size (Rc.zero k) s1 ((w3.alloc (.cells zc.toArray 33)).setCells w3.heap.size 0 (Rc.zero k).cells) := ⟨r4, hT4, hs9.below hF2, gb_trans hg9 ⟨hF2.os, hF2.tape, hF2.output, hF2.size, fun i hi _ => hF2.block i hi⟩, by rw [hF3]; exact Nat.lt_succ_self _, hg9.size, hRl, Vt.zero_ok⟩
 obtain ⟨X, hX⟩ : ∃ X, w3.heap.size = X := ⟨_, rfl⟩
 have hAX : A < X := by have := hg9.size; omega
 simp only [hX] at on ⊢
 obtain ⟨w4, hw4⟩ : ∃ W, (w3.alloc (.cells zc.toArray 33)).setCells X 0 (Rc.zero k).cells = W := ⟨_, rfl⟩
 simp only [hw4] at on ⊢
 clear r4 hF2 hF3 hT4 hs9 hg9 hX hw4 XS hRl c1 hbk hkl hk1' hzr
 go_upto_region 3 with fail
 try simp only [Act.put]
 refine pl_begin ?_
 refine pl_t 6 (?_) (by rfl) ?_ rfl ?_
 rotate_left
 ·go_simp
  try with_reducible rfl
 simp only [nz]
 refine pl_nil ?_
 have k4 : w4.cell? ⟨X, 0, none⟩ = some (.int .i64 k) := on.own 0 _ rfl
 go_upto_region 4 with fail
 try simp only [Act.put]
 refine pl_begin ?_
 refine pl_t 15 (?_) (by rfl) ?_ rfl ?_
 rotate_left
 ·go_simp
  try with_reducible rfl
 simp only [nz]
 refine pl_t 16 (.int .i64 k) (by rfl) (pl_one rfl rfl k4 Tryz.underlying3 rfl) rfl ?_
 simp only [nz]
 refine pl_nil ?_
 clear k4
 rcases hkb with hk | hk | hk | hk | hk | hk
 ·have HPP : Hid (PP = kfin ((Rp.zero k, ⟨#[]⟩), s1)) := hide (by rw [HP0.out, if_neg (by omega), if_neg (by omega), if_neg (by omega)])
  clear HP0 cN
  subst hk
  go_upto_region 5 with fail
  try simp only [Act.put]
  refine pl_begin ?_
  refine pl_t 18 (.bool false) (by rfl) (by go_simp <;> (try simp [*])) rfl ?_
  simp only [nz]
  refine pl_t 17 (?_) (by rfl) ?_ rfl ?_
  rotate_left
  ·go_simp
   try with_reducible rfl
  simp only [nz]
  refine pl_nil ?_
  go_upto_region 9 with fail
  try simp only [Act.put]
  refine pl_begin ?_
  refine pl_t 29 (.bool false) (by rfl) (by go_simp <;> (try simp [*])) rfl ?_
  simp only [nz]
  refine pl_t 28 (?_) (by rfl) ?_ rfl ?_
  rotate_left
  ·go_simp
   try with_reducible rfl
  simp only [nz]
  refine pl_nil ?_
  go_upto_region 12 with fail
  try simp only [Act.put]
  refine pl_begin ?_
  refine pl_t 37 (.bool false) (by rfl) (by go_simp <;> (try simp [*])) rfl ?_
  simp only [nz]
  refine pl_t 36 (?_) (by rfl) ?_ rfl ?_
  rotate_left
  ·go_simp
   try with_reducible rfl
  simp only [nz]
  refine pl_nil ?_
  go_upto_region 13 with fail
  try simp only [Act.put]
  refine pl_begin ?_
  refine pl_t 38 (.bool false) (by rfl) (by go_simp <;> (try simp [*])) rfl ?_
  simp only [nz]
  refine pl_t 36 (?_) (by rfl) ?_ rfl ?_
  rotate_left
  ·go_simp
   try with_reducible rfl
  simp only [nz]
  refine pl_nil ?_
  go_upto_region 14 with fail
  try simp only [Act.put]
  refine pl_begin ?_
  refine pl_t 39 (.bool false) (by rfl) (by go_simp <;> (try simp [*])) rfl ?_
  simp only [nz]
  refine pl_t 36 (?_) (by rfl) ?_ rfl ?_
  rotate_left
  ·go_simp
   try with_reducible rfl
  simp only [nz]
  refine pl_nil ?_
  obtain ⟨d, hd⟩ : ∃ d, doneE s1.1 s1.2 = d := ⟨_, rfl⟩
  have cD := xdoneS D R s1 w4 on.st
  rw [hd] at cD
  go_upto_region 16 with fail
  try simp only [Act.put]
  refine pl_begin ?_
  refine pl_t 42 (?_) (by rfl) ?_ rfl ?_
  rotate_left
  ·go_simp
   try with_reducible rfl
  simp only [nz]
  refine pl_call (d := some 43) (by rfl) (by go_simp; first | done | exact ⟨rfl, rfl⟩ | with_reducible rfl) rfl ?_
  refine (cD).mono ?_
  rintro _ w5 ⟨rfl, hb5⟩
  refine ⟨_, rfl, ?_⟩
  simp only [nz]
  refine pl_t 7 (?_) (by rfl) ?_ rfl ?_
  rotate_left
  ·go_simp
   try with_reducible rfl
  simp only [nz]
  refine pl_nil ?_
  replace on := on.below hb5
  clear cD hb5
  go_upto_region 17 with fail
  by_cases hd0 : d = 0
  rotate_left
  ·have hdb : (d != 0) = true := by simpa using hd0
   have HP : Hid (PP = (Rp.zero 0, d)) := hide (by rw [HPP.out]; exact kfin_bad hd hd0)
   clear HPP hd hd0
   try simp only [Act.put]
   refine pl_begin ?_
   refine pl_t 44 (?_) (by rfl) ?_ rfl ?_
   rotate_left
   ·go_simp
    try with_reducible rfl
   simp only [nz]
   refine pl_t 45 (.bool true) (by rfl) (by go_simp <;> (try simp [*])) rfl ?_
   simp only [nz]
   refine pl_nil ?_
   have hTZ : w5.there A 0 45 := there_blk hTA (on.gb.block A hA2 hAR)
   have hBZ : Below w.heap.size w w5 := kx_low hB2 on.gb hRw hw2
   go_upto_region 18 with fail
   try simp only [Act.put]
   refine pl_begin ?_
   refine pl_t 46 (.agg zc.toArray) (by rfl) (ex_build (parts := []) rfl rfl (hbn _)) rfl ?_
   simp only [nz]
   refine pl_t 47 (?_) (by rfl) ?_ rfl ?_
   rotate_left
   ·go_simp
    try with_reducible rfl
   simp only [nz]
   refine pl_store (w' := w5.setCells A 0 zc) (by rfl) (ex_put (cs := zc.toArray) rfl rfl rfl (by simpa [hzl] using hTZ) (by simpa [hzl] using iszRc) (all_one hz1)) rfl ?_
   refine pl_t 3 (?_) (by rfl) ?_ rfl ?_
   rotate_left
   ·go_simp
    try with_reducible rfl
   simp only [nz]
   refine pl_nil ?_
   have hrs := run_loadVar_mid (P := Tryz.prog) (w5.setCells A 0 zc) A 0 33 zc _ (World.rangeAt_setCells_same w5 A 0 zc (by rw [hzl]; exact hTZ)) Tryz.underlying33 rfl (by rw [hzl]; exact iszRc)
   have HF : Hid (DecK w PP (.returned (.tuple #[.agg zc.toArray, .int .i64 d])) (w5.setCells A 0 zc)) := hide (by
    rw [HP.out]
    exact deck_out (c := Rc.zero 0) hz0.out.symm HAw.out hBZ rfl rfl Vt.zero_ok (Rc.zero_at _ _) ⟨nil_bk, nil_bk, nil_bk⟩)
   clear hBZ hTZ on
   go_wp2_with fail
   refine bodyPost_ret (results_ct rfl _ _ _ rfl hrs) rfl ?_
   exact HF.out
  subst hd0
  try simp only [Act.put]
  refine pl_begin ?_
  refine pl_t 44 (?_) (by rfl) ?_ rfl ?_
  rotate_left
  ·go_simp
   try with_reducible rfl
  simp only [nz]
  refine pl_t 45 (.bool false) (by rfl) (by go_simp) rfl ?_
  simp only [nz]
  refine pl_nil ?_
  have HP : Hid (PP = (Rp.zero 0, 240)) := hide (by rw [HPP.out, kfin_of hd (by decide)]; exact ofT_0)
  clear HPP hd
  have hCk : (Rc.zero 0).k = 0 := rfl
  have k5 : w5.cell? ⟨X, 0, none⟩ = some (.int .i64 0) := by rw [← hCk]; exact on.own 0 _ rfl
  go_upto_region 19 with fail
  try simp only [Act.put]
  refine pl_begin ?_
  refine pl_t 48 (?_) (by rfl) ?_ rfl ?_
  rotate_left
  ·go_simp
   try with_reducible rfl
  simp only [nz]
  refine pl_t 49 (.int .i64 0) (by rfl) (pl_one rfl rfl k5 Tryz.underlying3 rfl) rfl ?_
  simp only [nz]
  refine pl_t 50 (.bool true) (by rfl) (by go_simp <;> (try simp [*])) rfl ?_
  simp only [nz]
  refine pl_nil ?_
  clear k5
  have hTZ : w5.there A 0 45 := there_blk hTA (on.gb.block A hA2 hAR)
  have hBZ : Below w.heap.size w w5 := kx_low hB2 on.gb hRw hw2
  go_upto_region 20 with fail
  try simp only [Act.put]
  refine pl_begin ?_
  refine pl_t 51 (.agg zc.toArray) (by rfl) (ex_build (parts := []) rfl rfl (hbn _)) rfl ?_
  simp only [nz]
  refine pl_store (w' := w5.setCells A 0 zc) (by rfl) (ex_put (cs := zc.toArray) rfl rfl rfl (by simpa [hzl] using hTZ) (by simpa [hzl] using iszRc) (all_one hz1)) rfl ?_
  refine pl_t 3 (?_) (by rfl) ?_ rfl ?_
  rotate_left
  ·go_simp
   try with_reducible rfl
  simp only [nz]
  refine pl_nil ?_
  have hrs := run_loadVar_mid (P := Tryz.prog) (w5.setCells A 0 zc) A 0 33 zc _ (World.rangeAt_setCells_same w5 A 0 zc (by rw [hzl]; exact hTZ)) Tryz.underlying33 rfl (by rw [hzl]; exact iszRc)
  have HF : Hid (DecK w PP (.returned (.tuple #[.agg zc.toArray, .int .i64 240])) (w5.setCells A 0 zc)) := hide (by
   rw [HP.out]
   exact deck_out (c := Rc.zero 0) hz0.out.symm HAw.out hBZ rfl rfl Vt.zero_ok (Rc.zero_at _ _) ⟨nil_bk, nil_bk, nil_bk⟩)
  clear hBZ hTZ on
  go_wp2_with fail
  refine bodyPost_ret (results_ct rfl _ _ _ rfl hrs) rfl ?_
  exact HF.out
 ·have HP : PP = kfin (krA s1) := by rw [HP0.out, if_pos hk]
  clear HP0
  subst hk
  unfold krA at HP
  have c2 := fun w0 h0 => cN D R 1099511627776 s1 w0 h0
  generalize xnuS 1099511627776 s1 = p at c2 HP
  obtain ⟨x2, s2⟩ := p
  simp only at c2 HP
  have c3 := fun w0 h0 => cN D R 1099511627776 s2 w0 h0
  generalize xnuS 1099511627776 s2 = p at c3 HP
  obtain ⟨x3, s3⟩ := p
  simp only at c3 HP
  have c4 := fun w0 h0 => xbatS D R s3 w0 h0
  generalize xbaS s3 = p at c4 HP
  obtain ⟨⟨q4, rs4⟩, s4⟩ := p
  simp only at c4 HP
  have HPP := hide HP
  clear HP cN
  go_upto_region 5 with fail
  try simp only [Act.put]
  refine pl_begin ?_
  refine pl_t 18 (.bool true) (by rfl) (by go_simp <;> (try simp [*])) rfl ?_
  simp only [nz]
  refine pl_t 17 (?_) (by rfl) ?_ rfl ?_
  rotate_left
  ·go_simp
   try with_reducible rfl
  simp only [nz]
  refine pl_nil ?_
  go_upto_region 6 with fail
  try simp only [Act.put]
  refine pl_begin ?_
  refine pl_t 19 (?_) (by rfl) ?_ rfl ?_
  rotate_left
  ·go_simp
   try with_reducible rfl
  simp only [nz]
  refine pl_call (d := some 20) (by rfl) (by go_simp; first | done | exact ⟨rfl, rfl⟩ | with_reducible rfl) rfl ?_
  refine (c2 w4 on.st).mono ?_
  rintro _ o2W ⟨rfl, hs9, hg9⟩
  have o2 := on.on _ hs9 hg9
  clear hs9 hg9
  refine ⟨_, rfl, ?_⟩
  simp only [nz]
  refine pl_t 21 (?_) (by rfl) ?_ rfl ?_
  rotate_left
  ·go_simp
   try with_reducible rfl
  simp only [nz]
  refine pl_store (w' := o2W.setCells X 3 [.int .i64 x2]) (by rfl) (ex_put1 (n := 45) rfl rfl rfl o2.thX (by decide) iszI rfl rfl) rfl ?_
  refine pl_nil ?_
  have o2' := o2.s x2
  obtain ⟨o2V, ho2⟩ : ∃ W, o2W.setCells X 3 [.int .i64 x2] = W := ⟨_, rfl⟩
  rw [ho2] at o2' ⊢
  clear ho2 o2 on
  go_upto_region 7 with fail
  try simp only [Act.put]
  refine pl_begin ?_
  refine pl_t 22 (?_) (by rfl) ?_ rfl ?_
  rotate_left
  ·go_simp
   try with_reducible rfl
  simp only [nz]
  refine pl_call (d := some 23) (by rfl) (by go_simp; first | done | exact ⟨rfl, rfl⟩ | with_reducible rfl) rfl ?_
  refine (c3 o2V o2'.st).mono ?_
  rintro _ o3W ⟨rfl, hs9, hg9⟩
  have o3 := o2'.on _ hs9 hg9
  clear hs9 hg9
  refine ⟨_, rfl, ?_⟩
  simp only [nz]
  refine pl_t 24 (?_) (by rfl) ?_ rfl ?_
  rotate_left
  ·go_simp
   try with_reducible rfl
  simp only [nz]
  refine pl_store (w' := o3W.setCells X 2 [.int .i64 x3]) (by rfl) (ex_put1 (n := 45) rfl rfl rfl o3.thX (by decide) iszI rfl rfl) rfl ?_
  refine pl_nil ?_
  have o3' := o3.v x3
  obtain ⟨o3V, ho3⟩ : ∃ W, o3W.setCells X 2 [.int .i64 x3] = W := ⟨_, rfl⟩
  rw [ho3] at o3' ⊢
  clear ho3 o3 o2'
  clear c2 c3
  go_upto_region 8 with fail
  try simp only [Act.put]
  refine pl_begin ?_
  refine pl_t 25 (?_) (by rfl) ?_ rfl ?_
  rotate_left
  ·go_simp
   try with_reducible rfl
  simp only [nz]
  refine pl_call (d := some 26) (by rfl) (by go_simp; first | done | exact ⟨rfl, rfl⟩ | with_reducible rfl) rfl ?_
  refine (c4 o3V o3'.st).mono ?_
  rintro _ o4W ⟨x, rfl, hxx, hxa, hxb, hs9, hg9⟩
  have lX := o3'.lx
  have o4 := o3'.on _ hs9 hg9
  clear hs9 hg9
  refine ⟨_, rfl, ?_⟩
  simp only [nz]
  refine pl_t 27 (?_) (by rfl) ?_ rfl ?_
  rotate_left
  ·go_simp
   try with_reducible rfl
  simp only [nz]
  refine pl_store (w' := o4W.setCells X 4 [.bool q4, x.val]) (by rfl) (ex_put (cs := #[.bool q4, x.val]) rfl rfl rfl (there_part1 o4.thX (by simp)) iszBa (bat_all _ _)) rfl ?_
  refine pl_nil ?_
  have o5 := o4.b q4 x
  have hx5 : x.At RqE (o4W.setCells X 4 [.bool q4, x.val]) := hxa.put hxb (fun b hb => by omega)
  obtain ⟨o5V, ho5⟩ : ∃ W, o4W.setCells X 4 [.bool q4, x.val] = W := ⟨_, rfl⟩
  rw [ho5] at o5 hx5 ⊢
  clear ho5 o4 o3' c4
  obtain ⟨C, hC⟩ : ∃ C : Rc, C = ⟨1, 0, x3, x2, q4, x, Vt.zero, ⟨none, 0, []⟩, ⟨#[]⟩, ⟨none, 0, []⟩⟩ := ⟨_, rfl⟩
  have HC : Hid (C.pure = { Rp.zero 1 with s := x2, v := x3, q := q4, rs := rs4 } ∧ C.At o5V ∧ C.Bk (fun b => w.heap.size < b)) := hide (by rw [hC]; exact ⟨by rw [← hxx]; rfl, ⟨hx5, RowsAt.none, RowsAt.none⟩, ⟨hxb.mono (fun b hb => by have := HAw.out; omega), nil_bk, nil_bk⟩⟩)
  have on : KX D W2 R X C s4 o5V := by rw [hC]; exact o5
  have hCk : C.k = 1 := by rw [hC]
  clear o5 hC hx5 hxa hxb hxx lX
  obtain ⟨d, hd⟩ : ∃ d, doneE s4.1 s4.2 = d := ⟨_, rfl⟩
  have cD := xdoneS D R s4 o5V on.st
  rw [hd] at cD
  go_upto_region 16 with fail
  try simp only [Act.put]
  refine pl_begin ?_
  refine pl_t 42 (?_) (by rfl) ?_ rfl ?_
  rotate_left
  ·go_simp
   try with_reducible rfl
  simp only [nz]
  refine pl_call (d := some 43) (by rfl) (by go_simp; first | done | exact ⟨rfl, rfl⟩ | with_reducible rfl) rfl ?_
  refine (cD).mono ?_
  rintro _ w5 ⟨rfl, hb5⟩
  refine ⟨_, rfl, ?_⟩
  simp only [nz]
  refine pl_t 7 (?_) (by rfl) ?_ rfl ?_
  rotate_left
  ·go_simp
   try with_reducible rfl
  simp only [nz]
  refine pl_nil ?_
  replace on := on.below hb5
  replace HC : Hid (C.pure = { Rp.zero 1 with s := x2, v := x3, q := q4, rs := rs4 } ∧ C.At w5 ∧ C.Bk (fun b => w.heap.size < b)) := hide ⟨HC.out.1, ⟨HC.out.2.1.rs.below hb5, HC.out.2.1.cs.below hb5, HC.out.2.1.sg.below hb5⟩, HC.out.2.2⟩
  clear cD hb5
  go_upto_region 17 with fail
  by_cases hd0 : d = 0
  rotate_left
  ·have hdb : (d != 0) = true := by simpa using hd0
   have HP : Hid (PP = (Rp.zero 0, d)) := hide (by rw [HPP.out]; exact kfin_bad hd hd0)
   clear HPP hd hd0
   try simp only [Act.put]
   refine pl_begin ?_
   refine pl_t 44 (?_) (by rfl) ?_ rfl ?_
   rotate_left
   ·go_simp
    try with_reducible rfl
   simp only [nz]
   refine pl_t 45 (.bool true) (by rfl) (by go_simp <;> (try simp [*])) rfl ?_
   simp only [nz]
   refine pl_nil ?_
   have hTZ : w5.there A 0 45 := there_blk hTA (on.gb.block A hA2 hAR)
   have hBZ : Below w.heap.size w w5 := kx_low hB2 on.gb hRw hw2
   go_upto_region 18 with fail
   try simp only [Act.put]
   refine pl_begin ?_
   refine pl_t 46 (.agg zc.toArray) (by rfl) (ex_build (parts := []) rfl rfl (hbn _)) rfl ?_
   simp only [nz]
   refine pl_t 47 (?_) (by rfl) ?_ rfl ?_
   rotate_left
   ·go_simp
    try with_reducible rfl
   simp only [nz]
   refine pl_store (w' := w5.setCells A 0 zc) (by rfl) (ex_put (cs := zc.toArray) rfl rfl rfl (by simpa [hzl] using hTZ) (by simpa [hzl] using iszRc) (all_one hz1)) rfl ?_
   refine pl_t 3 (?_) (by rfl) ?_ rfl ?_
   rotate_left
   ·go_simp
    try with_reducible rfl
   simp only [nz]
   refine pl_nil ?_
   have hrs := run_loadVar_mid (P := Tryz.prog) (w5.setCells A 0 zc) A 0 33 zc _ (World.rangeAt_setCells_same w5 A 0 zc (by rw [hzl]; exact hTZ)) Tryz.underlying33 rfl (by rw [hzl]; exact iszRc)
   have HF : Hid (DecK w PP (.returned (.tuple #[.agg zc.toArray, .int .i64 d])) (w5.setCells A 0 zc)) := hide (by
    rw [HP.out]
    exact deck_out (c := Rc.zero 0) hz0.out.symm HAw.out hBZ rfl rfl Vt.zero_ok (Rc.zero_at _ _) ⟨nil_bk, nil_bk, nil_bk⟩)
   clear hBZ hTZ on
   go_wp2_with fail
   refine bodyPost_ret (results_ct rfl _ _ _ rfl hrs) rfl ?_
   exact HF.out
  subst hd0
  try simp only [Act.put]
  refine pl_begin ?_
  refine pl_t 44 (?_) (by rfl) ?_ rfl ?_
  rotate_left
  ·go_simp
   try with_reducible rfl
  simp only [nz]
  refine pl_t 45 (.bool false) (by rfl) (by go_simp) rfl ?_
  simp only [nz]
  refine pl_nil ?_
  have HP : Hid (PP = (C.pure, 0)) := hide (by rw [HPP.out, kfin_own hd (by first | exact .inl rfl | exact .inr rfl), HC.out.1])
  clear HPP hd
  have k5 : w5.cell? ⟨X, 0, none⟩ = some (.int .i64 1) := by rw [← hCk]; exact on.own 0 _ rfl
  go_upto_region 19 with fail
  try simp only [Act.put]
  refine pl_begin ?_
  refine pl_t 48 (?_) (by rfl) ?_ rfl ?_
  rotate_left
  ·go_simp
   try with_reducible rfl
  simp only [nz]
  refine pl_t 49 (.int .i64 1) (by rfl) (pl_one rfl rfl k5 Tryz.underlying3 rfl) rfl ?_
  simp only [nz]
  refine pl_t 50 (.bool false) (by rfl) (by go_simp <;> (try simp [*])) rfl ?_
  simp only [nz]
  refine pl_nil ?_
  go_upto_region 21 with fail
  try simp only [Act.put]
  refine pl_begin ?_
  refine pl_t 52 (?_) (by rfl) ?_ rfl ?_
  rotate_left
  ·go_simp
   try with_reducible rfl
  simp only [nz]
  refine pl_t 53 (.int .i64 1) (by rfl) (pl_one rfl rfl k5 Tryz.underlying3 rfl) rfl ?_
  simp only [nz]
  refine pl_t 54 (.bool true) (by rfl) (by go_simp <;> (try simp [*])) rfl ?_
  simp only [nz]
  refine pl_t 55 (?_) (by rfl) ?_ rfl ?_
  rotate_left
  ·go_simp
   try with_reducible rfl
  simp only [nz]
  refine pl_skip (d := some 56) (by rfl) rfl ?_
  simp only [nz]
  refine pl_skip (d := some 57) (by rfl) rfl ?_
  simp only [nz]
  refine pl_skip (d := some 58) (by rfl) rfl ?_
  simp only [nz]
  refine pl_t 59 (?_) (by rfl) ?_ rfl ?_
  rotate_left
  ·go_simp
   try with_reducible rfl
  simp only [nz]
  refine pl_nil ?_
  have hTZ : w5.there A 0 45 := there_blk hTA (on.gb.block A hA2 hAR)
  have hBZ : Below w.heap.size w w5 := kx_low hB2 on.gb hRw hw2
  obtain ⟨qc, hqc⟩ : ∃ q, Hid (C.cells = q) := ⟨_, hide rfl⟩
  have hql : C.cells.length = 45 := Rc.len on.ok
  have hq1 := Rc.one C
  have ho := on.own
  have hco := on.ok
  simp only [hqc.out] at hql hq1 ho
  have hiq : (Tryz.prog.info? 33).map (·.size) = some qc.length := by rw [hql]; exact iszRc
  go_upto_region 22 with fail
  try simp only [Act.put]
  refine pl_begin ?_
  refine pl_t 60 (.agg qc.toArray) (by rfl) (ex_mid rfl rfl ho Tryz.underlying33 rfl hiq) rfl ?_
  simp only [nz]
  refine pl_store (w' := w5.setCells A 0 qc) (by rfl) (ex_put (cs := qc.toArray) rfl rfl rfl (by simpa [hql] using hTZ) (by simpa using hiq) (all_one hq1)) rfl ?_
  refine pl_t 3 (?_) (by rfl) ?_ rfl ?_
  rotate_left
  ·go_simp
   try with_reducible rfl
  simp only [nz]
  refine pl_nil ?_
  have hrs := run_loadVar_mid (P := Tryz.prog) (w5.setCells A 0 qc) A 0 33 qc _ (World.rangeAt_setCells_same w5 A 0 qc (by rw [hql]; exact hTZ)) Tryz.underlying33 rfl (by rw [hql]; exact iszRc)
  have HF : Hid (DecK w PP (.returned (.tuple #[.agg qc.toArray, .int .i64 0])) (w5.setCells A 0 qc)) := hide (by
   rw [HP.out]
   exact deck_out (c := C) hqc.out HAw.out hBZ rfl rfl hco HC.out.2.1 HC.out.2.2)
  clear hBZ hTZ on ho k5
  go_wp2_with fail
  refine bodyPost_ret (results_ct rfl _ _ _ rfl hrs) rfl ?_
  exact HF.out
 ·have HP : PP = kfin (krV s1) := by rw [HP0.out, if_neg (by omega), if_pos hk]
  clear HP0
  subst hk
  unfold krV at HP
  have c2 := fun w0 h0 => cN D R 64 s1 w0 h0
  generalize xnuS 64 s1 = p at c2 HP
  obtain ⟨x2, s2⟩ := p
  simp only at c2 HP
  have c3 := fun w0 h0 => cN D R 1099511627776 s2 w0 h0
  generalize xnuS 1099511627776 s2 = p at c3 HP
  obtain ⟨x3, s3⟩ := p
  simp only at c3 HP
  have HPP := hide HP
  clear HP cN
  go_upto_region 5 with fail
  try simp only [Act.put]
  refine pl_begin ?_
  refine pl_t 18 (.bool false) (by rfl) (by go_simp <;> (try simp [*])) rfl ?_
  simp only [nz]
  refine pl_t 17 (?_) (by rfl) ?_ rfl ?_
  rotate_left
  ·go_simp
   try with_reducible rfl
  simp only [nz]
  refine pl_nil ?_
  go_upto_region 9 with fail
  try simp only [Act.put]
  refine pl_begin ?_
  refine pl_t 29 (.bool true) (by rfl) (by go_simp <;> (try simp [*])) rfl ?_
  simp only [nz]
  refine pl_t 28 (?_) (by rfl) ?_ rfl ?_
  rotate_left
  ·go_simp
   try with_reducible rfl
  simp only [nz]
  refine pl_nil ?_
  go_upto_region 10 with fail
  try simp only [Act.put]
  refine pl_begin ?_
  refine pl_t 30 (?_) (by rfl) ?_ rfl ?_
  rotate_left
  ·go_simp
   try with_reducible rfl
  simp only [nz]
  refine pl_call (d := some 31) (by rfl) (by go_simp; first | done | exact ⟨rfl, rfl⟩ | with_reducible rfl) rfl ?_
  refine (c2 w4 on.st).mono ?_
  rintro _ o2W ⟨rfl, hs9, hg9⟩
  have o2 := on.on _ hs9 hg9
  clear hs9 hg9
  refine ⟨_, rfl, ?_⟩
  simp only [nz]
  refine pl_t 32 (?_) (by rfl) ?_ rfl ?_
  rotate_left
  ·go_simp
   try with_reducible rfl
  simp only [nz]
  refine pl_store (w' := o2W.setCells X 1 [.int .i64 x2]) (by rfl) (ex_put1 (n := 45) rfl rfl rfl o2.thX (by decide) iszI rfl rfl) rfl ?_
  refine pl_nil ?_
  have o2' := o2.l x2
  obtain ⟨o2V, ho2⟩ : ∃ W, o2W.setCells X 1 [.int .i64 x2] = W := ⟨_, rfl⟩
  rw [ho2] at o2' ⊢
  clear ho2 o2 on
  go_upto_region 11 with fail
  try simp only [Act.put]
  refine pl_begin ?_
  refine pl_t 33 (?_) (by rfl) ?_ rfl ?_
  rotate_left
  ·go_simp
   try with_reducible rfl
  simp only [nz]
  refine pl_call (d := some 34) (by rfl) (by go_simp; first | done | exact ⟨rfl, rfl⟩ | with_reducible rfl) rfl ?_
  refine (c3 o2V o2'.st).mono ?_
  rintro _ o3W ⟨rfl, hs9, hg9⟩
  have o3 := o2'.on _ hs9 hg9
  clear hs9 hg9
  refine ⟨_, rfl, ?_⟩
  simp only [nz]
  refine pl_t 35 (?_) (by rfl) ?_ rfl ?_
  rotate_left
  ·go_simp
   try with_reducible rfl
  simp only [nz]
  refine pl_store (w' := o3W.setCells X 2 [.int .i64 x3]) (by rfl) (ex_put1 (n := 45) rfl rfl rfl o3.thX (by decide) iszI rfl rfl) rfl ?_
  refine pl_nil ?_
  have o3' := o3.v x3
  obtain ⟨o3V, ho3⟩ : ∃ W, o3W.setCells X 2 [.int .i64 x3] = W := ⟨_, rfl⟩
  rw [ho3] at o3' ⊢
  clear ho3 o3 o2'
  clear c2 c3
  obtain ⟨C, hC⟩ : ∃ C : Rc, C = ⟨3, x2, x3, 0, false, ⟨none, 0, []⟩, Vt.zero, ⟨none, 0, []⟩, ⟨#[]⟩, ⟨none, 0, []⟩⟩ := ⟨_, rfl⟩
  have HC : Hid (C.pure = { Rp.zero 3 with l := x2, v := x3 } ∧ C.At o3V ∧ C.Bk (fun b => w.heap.size < b)) := hide (by rw [hC]; exact ⟨rfl, ⟨RowsAt.none, RowsAt.none, RowsAt.none⟩, ⟨nil_bk, nil_bk, nil_bk⟩⟩)
  have on : KX D W2 R X C s3 o3V := by rw [hC]; exact o3'
  have hCk : C.k = 3 := by rw [hC]
  clear o3' hC
  obtain ⟨d, hd⟩ : ∃ d, doneE s3.1 s3.2 = d := ⟨_, rfl⟩
  have cD := xdoneS D R s3 o3V on.st
  rw [hd] at cD
  go_upto_region 16 with fail
  try simp only [Act.put]
  refine pl_begin ?_
  refine pl_t 42 (?_) (by rfl) ?_ rfl ?_
  rotate_left
  ·go_simp
   try with_reducible rfl
  simp only [nz]
  refine pl_call (d := some 43) (by rfl) (by go_simp; first | done | exact ⟨rfl, rfl⟩ | with_reducible rfl) rfl ?_
  refine (cD).mono ?_
  rintro _ w5 ⟨rfl, hb5⟩
  refine ⟨_, rfl, ?_⟩
  simp only [nz]
  refine pl_t 7 (?_) (by rfl) ?_ rfl ?_
  rotate_left
  ·go_simp
   try with_reducible rfl
  simp only [nz]
  refine pl_nil ?_
  replace on := on.below hb5
  replace HC : Hid (C.pure = { Rp.zero 3 with l := x2, v := x3 } ∧ C.At w5 ∧ C.Bk (fun b => w.heap.size < b)) := hide ⟨HC.out.1, ⟨HC.out.2.1.rs.below hb5, HC.out.2.1.cs.below hb5, HC.out.2.1.sg.below hb5⟩, HC.out.2.2⟩
  clear cD hb5
  go_upto_region 17 with fail
  by_cases hd0 : d = 0
  rotate_left
  ·have hdb : (d != 0) = true := by simpa using hd0
   have HP : Hid (PP = (Rp.zero 0, d)) := hide (by rw [HPP.out]; exact kfin_bad hd hd0)
   clear HPP hd hd0
   try simp only [Act.put]
   refine pl_begin ?_
   refine pl_t 44 (?_) (by rfl) ?_ rfl ?_
   rotate_left
   ·go_simp
    try with_reducible rfl
   simp only [nz]
   refine pl_t 45 (.bool true) (by rfl) (by go_simp <;> (try simp [*])) rfl ?_
   simp only [nz]
   refine pl_nil ?_
   have hTZ : w5.there A 0 45 := there_blk hTA (on.gb.block A hA2 hAR)
   have hBZ : Below w.heap.size w w5 := kx_low hB2 on.gb hRw hw2
   go_upto_region 18 with fail
   try simp only [Act.put]
   refine pl_begin ?_
   refine pl_t 46 (.agg zc.toArray) (by rfl) (ex_build (parts := []) rfl rfl (hbn _)) rfl ?_
   simp only [nz]
   refine pl_t 47 (?_) (by rfl) ?_ rfl ?_
   rotate_left
   ·go_simp
    try with_reducible rfl
   simp only [nz]
   refine pl_store (w' := w5.setCells A 0 zc) (by rfl) (ex_put (cs := zc.toArray) rfl rfl rfl (by simpa [hzl] using hTZ) (by simpa [hzl] using iszRc) (all_one hz1)) rfl ?_
   refine pl_t 3 (?_) (by rfl) ?_ rfl ?_
   rotate_left
   ·go_simp
    try with_reducible rfl
   simp only [nz]
   refine pl_nil ?_
   have hrs := run_loadVar_mid (P := Tryz.prog) (w5.setCells A 0 zc) A 0 33 zc _ (World.rangeAt_setCells_same w5 A 0 zc (by rw [hzl]; exact hTZ)) Tryz.underlying33 rfl (by rw [hzl]; exact iszRc)
   have HF : Hid (DecK w PP (.returned (.tuple #[.agg zc.toArray, .int .i64 d])) (w5.setCells A 0 zc)) := hide (by
    rw [HP.out]
    exact deck_out (c := Rc.zero 0) hz0.out.symm HAw.out hBZ rfl rfl Vt.zero_ok (Rc.zero_at _ _) ⟨nil_bk, nil_bk, nil_bk⟩)
   clear hBZ hTZ on
   go_wp2_with fail
   refine bodyPost_ret (results_ct rfl _ _ _ rfl hrs) rfl ?_
   exact HF.out
  subst hd0
  try simp only [Act.put]
  refine pl_begin ?_
  refine pl_t 44 (?_) (by rfl) ?_ rfl ?_
  rotate_left
  ·go_simp
   try with_reducible rfl
  simp only [nz]
  refine pl_t 45 (.bool false) (by rfl) (by go_simp) rfl ?_
  simp only [nz]
  refine pl_nil ?_
  have HP : Hid (PP = (C.pure, 0)) := hide (by rw [HPP.out, kfin_own hd (by first | exact .inl rfl | exact .inr rfl), HC.out.1])
  clear HPP hd
  have k5 : w5.cell? ⟨X, 0, none⟩ = some (.int .i64 3) := by rw [← hCk]; exact on.own 0 _ rfl
  go_upto_region 19 with fail
  try simp only [Act.put]
  refine pl_begin ?_
  refine pl_t 48 (?_) (by rfl) ?_ rfl ?_
  rotate_left
  ·go_simp
   try with_reducible rfl
  simp only [nz]
  refine pl_t 49 (.int .i64 3) (by rfl) (pl_one rfl rfl k5 Tryz.underlying3 rfl) rfl ?_
  simp only [nz]
  refine pl_t 50 (.bool false) (by rfl) (by go_simp <;> (try simp [*])) rfl ?_
  simp only [nz]
  refine pl_nil ?_
  go_upto_region 21 with fail
  try simp only [Act.put]
  refine pl_begin ?_
  refine pl_t 52 (?_) (by rfl) ?_ rfl ?_
  rotate_left
  ·go_simp
   try with_reducible rfl
  simp only [nz]
  refine pl_t 53 (.int .i64 3) (by rfl) (pl_one rfl rfl k5 Tryz.underlying3 rfl) rfl ?_
  simp only [nz]
  refine pl_t 54 (.bool false) (by rfl) (by go_simp <;> (try simp [*])) rfl ?_
  simp only [nz]
  refine pl_t 55 (?_) (by rfl) ?_ rfl ?_
  rotate_left
  ·go_simp
   try with_reducible rfl
  simp only [nz]
  refine pl_t 56 (?_) (by rfl) ?_ rfl ?_
  rotate_left
  ·go_simp
   try with_reducible rfl
  simp only [nz]
  refine pl_t 57 (.int .i64 3) (by rfl) (pl_one rfl rfl k5 Tryz.underlying3 rfl) rfl ?_
  simp only [nz]
  refine pl_t 58 (.bool true) (by rfl) (by go_simp <;> (try simp [*])) rfl ?_
  simp only [nz]
  refine pl_t 59 (?_) (by rfl) ?_ rfl ?_
  rotate_left
  ·go_simp
   try with_reducible rfl
  simp only [nz]
  refine pl_nil ?_
  have hTZ : w5.there A 0 45 := there_blk hTA (on.gb.block A hA2 hAR)
  have hBZ : Below w.heap.size w w5 := kx_low hB2 on.gb hRw hw2
  obtain ⟨qc, hqc⟩ : ∃ q, Hid (C.cells = q) := ⟨_, hide rfl⟩
  have hql : C.cells.length = 45 := Rc.len on.ok
  have hq1 := Rc.one C
  have ho := on.own
  have hco := on.ok
  simp only [hqc.out] at hql hq1 ho
  have hiq : (Tryz.prog.info? 33).map (·.size) = some qc.length := by rw [hql]; exact iszRc
  go_upto_region 22 with fail
  try simp only [Act.put]
  refine pl_begin ?_
  refine pl_t 60 (.agg qc.toArray) (by rfl) (ex_mid rfl rfl ho Tryz.underlying33 rfl hiq) rfl ?_
  simp only [nz]
  refine pl_store (w' := w5.setCells A 0 qc) (by rfl) (ex_put (cs := qc.toArray) rfl rfl rfl (by simpa [hql] using hTZ) (by simpa using hiq) (all_one hq1)) rfl ?_
  refine pl_t 3 (?_) (by rfl) ?_ rfl ?_
  rotate_left
  ·go_simp
   try with_reducible rfl
  simp only [nz]
  refine pl_nil ?_
  have hrs := run_loadVar_mid (P := Tryz.prog) (w5.setCells A 0 qc) A 0 33 qc _ (World.rangeAt_setCells_same w5 A 0 qc (by rw [hql]; exact hTZ)) Tryz.underlying33 rfl (by rw [hql]; exact iszRc)
  have HF : Hid (DecK w PP (.returned (.tuple #[.agg qc.toArray, .int .i64 0])) (w5.setCells A 0 qc)) := hide (by
   rw [HP.out]
   exact deck_out (c := C) hqc.out HAw.out hBZ rfl rfl hco HC.out.2.1 HC.out.2.2)
  clear hBZ hTZ on ho k5
  go_wp2_with fail
  refine bodyPost_ret (results_ct rfl _ _ _ rfl hrs) rfl ?_
  exact HF.out
 ·have HP : PP = kfin (krT k s1) := by rw [HP0.out, if_neg (by omega), if_neg (by omega), if_pos (by omega)]
  clear HP0 cN
  unfold krT at HP
  have c2 := fun w0 h0 => xtextS D R 4194304 s1 w0 h0
  have htx : (xtxS 4194304 s1).1.size ≤ 40000 := by
   show (strOf (textS s1.1 s1.2 4194304).1).size ≤ _
   rw [strOf_size]
   exact Nat.le_trans (textS_tl _ _ _) l1
  generalize xtxS 4194304 s1 = p at c2 HP htx
  obtain ⟨tx, SS⟩ := p
  simp only at c2 HP htx
  have HPP := hide HP
  clear HP
  have m1 : (k == 1) = false := by rw [beq_eq_false_iff_ne]; omega
  have m3 : (k == 3) = false := by rw [beq_eq_false_iff_ne]; omega
  have m2 : (k == 2) = true := by first | (rw [beq_eq_false_iff_ne]; omega) | (rw [beq_iff_eq]; omega)
  have m4 : (k == 4) = false := by first | (rw [beq_eq_false_iff_ne]; omega) | (rw [beq_iff_eq]; omega)
  have m5 : (k == 5) = false := by first | (rw [beq_eq_false_iff_ne]; omega) | (rw [beq_iff_eq]; omega)
  go_upto_region 5 with fail
  try simp only [Act.put]
  refine pl_begin ?_
  refine pl_t 18 (.bool false) (by rfl) (by go_simp <;> (try simp [*])) rfl ?_
  simp only [nz]
  refine pl_t 17 (?_) (by rfl) ?_ rfl ?_
  rotate_left
  ·go_simp
   try with_reducible rfl
  simp only [nz]
  refine pl_nil ?_
  go_upto_region 9 with fail
  try simp only [Act.put]
  refine pl_begin ?_
  refine pl_t 29 (.bool false) (by rfl) (by go_simp <;> (try simp [*])) rfl ?_
  simp only [nz]
  refine pl_t 28 (?_) (by rfl) ?_ rfl ?_
  rotate_left
  ·go_simp
   try with_reducible rfl
  simp only [nz]
  refine pl_nil ?_
  go_upto_region 12 with fail
  try simp only [Act.put]
  refine pl_begin ?_
  refine pl_t 37 (.bool true) (by rfl) (by go_simp <;> (try simp [*])) rfl ?_
  simp only [nz]
  refine pl_t 36 (?_) (by rfl) ?_ rfl ?_
  rotate_left
  ·go_simp
   try with_reducible rfl
  simp only [nz]
  refine pl_nil ?_
  clear m1 m2 m3 m4 m5
  go_upto_region 15 with fail
  try simp only [Act.put]
  refine pl_begin ?_
  refine pl_t 40 (?_) (by rfl) ?_ rfl ?_
  rotate_left
  ·go_simp
   try with_reducible rfl
  simp only [nz]
  refine pl_call (d := some 41) (by rfl) (by go_simp; first | done | exact ⟨rfl, rfl⟩ | with_reducible rfl) rfl ?_
  refine (c2 w4 on.st).mono ?_
  rintro _ o2W ⟨rfl, hs9, hg9⟩
  replace on := on.on _ hs9 hg9
  clear hs9 hg9 c2
  refine ⟨_, rfl, ?_⟩
  simp only [nz]
  refine pl_t 6 (?_) (by rfl) ?_ rfl ?_
  rotate_left
  ·go_simp
   try with_reducible rfl
  simp only [nz]
  refine pl_nil ?_
  obtain ⟨C, hC⟩ : ∃ C : Rc, C = Rc.zero k := ⟨_, rfl⟩
  rw [← hC] at on
  have hCk : C.k = k := by rw [hC]; rfl
  obtain ⟨d, hd⟩ : ∃ d, doneE SS.1 SS.2 = d := ⟨_, rfl⟩
  have cD := xdoneS D R SS o2W on.st
  rw [hd] at cD
  go_upto_region 16 with fail
  try simp only [Act.put]
  refine pl_begin ?_
  refine pl_t 42 (?_) (by rfl) ?_ rfl ?_
  rotate_left
  ·go_simp
   try with_reducible rfl
  simp only [nz]
  refine pl_call (d := some 43) (by rfl) (by go_simp; first | done | exact ⟨rfl, rfl⟩ | with_reducible rfl) rfl ?_
  refine (cD).mono ?_
  rintro _ w5 ⟨rfl, hb5⟩
  refine ⟨_, rfl, ?_⟩
  simp only [nz]
  refine pl_t 7 (?_) (by rfl) ?_ rfl ?_
  rotate_left
  ·go_simp
   try with_reducible rfl
  simp only [nz]
  refine pl_nil ?_
  replace on := on.below hb5
  clear cD hb5
  go_upto_region 17 with fail
  by_cases hd0 : d = 0
  rotate_left
  ·have hdb : (d != 0) = true := by simpa using hd0
   have HP : Hid (PP = (Rp.zero 0, d)) := hide (by rw [HPP.out]; exact kfin_bad hd hd0)
   clear HPP hd hd0
   try simp only [Act.put]
   refine pl_begin ?_
   refine pl_t 44 (?_) (by rfl) ?_ rfl ?_
   rotate_left
   ·go_simp
    try with_reducible rfl
   simp only [nz]
   refine pl_t 45 (.bool true) (by rfl) (by go_simp <;> (try simp [*])) rfl ?_
   simp only [nz]
   refine pl_nil ?_
   have hTZ : w5.there A 0 45 := there_blk hTA (on.gb.block A hA2 hAR)
   have hBZ : Below w.heap.size w w5 := kx_low hB2 on.gb hRw hw2
   go_upto_region 18 with fail
   try simp only [Act.put]
   refine pl_begin ?_
   refine pl_t 46 (.agg zc.toArray) (by rfl) (ex_build (parts := []) rfl rfl (hbn _)) rfl ?_
   simp only [nz]
   refine pl_t 47 (?_) (by rfl) ?_ rfl ?_
   rotate_left
   ·go_simp
    try with_reducible rfl
   simp only [nz]
   refine pl_store (w' := w5.setCells A 0 zc) (by rfl) (ex_put (cs := zc.toArray) rfl rfl rfl (by simpa [hzl] using hTZ) (by simpa [hzl] using iszRc) (all_one hz1)) rfl ?_
   refine pl_t 3 (?_) (by rfl) ?_ rfl ?_
   rotate_left
   ·go_simp
    try with_reducible rfl
   simp only [nz]
   refine pl_nil ?_
   have hrs := run_loadVar_mid (P := Tryz.prog) (w5.setCells A 0 zc) A 0 33 zc _ (World.rangeAt_setCells_same w5 A 0 zc (by rw [hzl]; exact hTZ)) Tryz.underlying33 rfl (by rw [hzl]; exact iszRc)
   have HF : Hid (DecK w PP (.returned (.tuple #[.agg zc.toArray, .int .i64 d])) (w5.setCells A 0 zc)) := hide (by
    rw [HP.out]
    exact deck_out (c := Rc.zero 0) hz0.out.symm HAw.out hBZ rfl rfl Vt.zero_ok (Rc.zero_at _ _) ⟨nil_bk, nil_bk, nil_bk⟩)
   clear hBZ hTZ on
   go_wp2_with fail
   refine bodyPost_ret (results_ct rfl _ _ _ rfl hrs) rfl ?_
   exact HF.out
  subst hd0
  try simp only [Act.put]
  refine pl_begin ?_
  refine pl_t 44 (?_) (by rfl) ?_ rfl ?_
  rotate_left
  ·go_simp
   try with_reducible rfl
  simp only [nz]
  refine pl_t 45 (.bool false) (by rfl) (by go_simp) rfl ?_
  simp only [nz]
  refine pl_nil ?_
  have HP1 : Hid (PP = ofT k (strL tx)) := hide (by rw [HPP.out]; exact kfin_of hd (by show ¬ (k = 1 ∨ k = 3); omega))
  clear HPP hd
  have n1 : (k == 1) = false := by rw [beq_eq_false_iff_ne]; omega
  have n3 : (k == 3) = false := by rw [beq_eq_false_iff_ne]; omega
  have n0 : (k == 0) = false := by rw [beq_eq_false_iff_ne]; omega
  have n5 : (k == 5) = false := by first | (rw [beq_eq_false_iff_ne]; omega) | (rw [beq_iff_eq]; omega)
  have hmk : mkK k = 7 := by unfold mkK; repeat (first | rw [if_neg (by omega)] | rw [if_pos (by omega)])
  have k5 : w5.cell? ⟨X, 0, none⟩ = some (.int .i64 k) := by rw [← hCk]; exact on.own 0 _ rfl
  go_upto_region 19 with fail
  try simp only [Act.put]
  refine pl_begin ?_
  refine pl_t 48 (?_) (by rfl) ?_ rfl ?_
  rotate_left
  ·go_simp
   try with_reducible rfl
  simp only [nz]
  refine pl_t 49 (.int .i64 k) (by rfl) (pl_one rfl rfl k5 Tryz.underlying3 rfl) rfl ?_
  simp only [nz]
  refine pl_t 50 (.bool false) (by rfl) (by go_simp <;> (try simp [*])) rfl ?_
  simp only [nz]
  refine pl_nil ?_
  go_upto_region 21 with fail
  try simp only [Act.put]
  refine pl_begin ?_
  refine pl_t 52 (?_) (by rfl) ?_ rfl ?_
  rotate_left
  ·go_simp
   try with_reducible rfl
  simp only [nz]
  refine pl_t 53 (.int .i64 k) (by rfl) (pl_one rfl rfl k5 Tryz.underlying3 rfl) rfl ?_
  simp only [nz]
  refine pl_t 54 (.bool false) (by rfl) (by go_simp <;> (try simp [*])) rfl ?_
  simp only [nz]
  refine pl_t 55 (?_) (by rfl) ?_ rfl ?_
  rotate_left
  ·go_simp
   try with_reducible rfl
  simp only [nz]
  refine pl_t 56 (?_) (by rfl) ?_ rfl ?_
  rotate_left
  ·go_simp
   try with_reducible rfl
  simp only [nz]
  refine pl_t 57 (.int .i64 k) (by rfl) (pl_one rfl rfl k5 Tryz.underlying3 rfl) rfl ?_
  simp only [nz]
  refine pl_t 58 (.bool false) (by rfl) (by go_simp <;> (try simp [*])) rfl ?_
  simp only [nz]
  refine pl_t 59 (?_) (by rfl) ?_ rfl ?_
  rotate_left
  ·go_simp
   try with_reducible rfl
  simp only [nz]
  refine pl_nil ?_
  have HTX : Hid (ofT k (strL tx) = if (decX (strL tx)).2 = 0 ∧ (decX (strL tx)).1.k = 7 then (⟨k, 0, 0, 0, (decX (strL tx)).1.q, (decX (strL tx)).1.rs, (decX (strL tx)).1.ct, (decX (strL tx)).1.cs, (decX (strL tx)).1.st, (decX (strL tx)).1.sg⟩, 0) else (Rp.zero 0, 240)) := hide (by unfold ofT; rw [dec_same, hmk])
  rw [HTX.out] at HP1
  clear HTX hmk
  have cX := xdecode_any tx htx w5
  generalize decX (strL tx) = DD at cX HP1
  obtain ⟨mp, er⟩ := DD
  simp only at cX HP1
  go_upto_region 23 with fail
  try simp only [Act.put]
  refine pl_begin ?_
  refine pl_t 62 (?_) (by rfl) ?_ rfl ?_
  rotate_left
  ·go_simp
   try with_reducible rfl
  simp only [nz]
  refine pl_call (d := some 63) (by rfl) (by go_simp; first | done | exact ⟨rfl, rfl⟩ | with_reducible rfl) rfl ?_
  refine (cX).mono ?_
  rintro _ w6 ⟨m, rfl, hp, hmo, hAt, hBk, hb6⟩
  refine ⟨_, rfl, ?_⟩
  simp only [nz]
  have hmql := hmo.ms.len
  have hmq1 := hmo.ms.one
  have hmiq : (Tryz.prog.info? 63).map (·.size) = some m.ms.cells.length := by rw [hmql]; exact iszM
  refine pl_t 61 (?_) (by rfl) ?_ rfl ?_
  rotate_left
  ·go_simp
   try with_reducible rfl
  simp only [nz]
  refine pl_t 64 (?_) (by rfl) ?_ rfl ?_
  rotate_left
  ·go_simp
   try with_reducible rfl
  simp only [nz]
  refine pl_t 65 (?_) (by rfl) ?_ rfl ?_
  rotate_left
  ·go_simp
   try with_reducible rfl
  simp only [nz]
  refine pl_run (d := some 8) (v := .pointer (some ⟨w6.heap.size, 0, none⟩)) (w' := w6.alloc (.cells zm.toArray 63)) (by rfl) (ex_alloc rfl (hzmr _)) rfl ?_
  simp only [nz]
  refine pl_store (w' := (w6.alloc (.cells zm.toArray 63)).setCells w6.heap.size 0 m.ms.cells) (by rfl) (ex_put (cs := m.ms.cells.toArray) rfl rfl rfl (there_newN _ _ _ (by simp [hzml, hmql])) (by simpa using hmiq) (all_one hmq1)) rfl ?_
  refine pl_t 7 (?_) (by rfl) ?_ rfl ?_
  rotate_left
  ·go_simp
   try with_reducible rfl
  simp only [nz]
  refine pl_nil ?_
  obtain ⟨ry, hF2, hF3, -⟩ := fresh_store w6 zm.toArray 63 m.ms.cells (by simp [hzml, hmql])
  have lx5 := on.lx
  have lw5 := on.gb.size
  have z6 := hb6.size
  replace on := (on.below hb6).below hF2
  have hAt7 := hAt.below hF2
  obtain ⟨Y, hY⟩ : ∃ X, w6.heap.size = X := ⟨_, rfl⟩
  have hYX : Y ≠ X := by omega
  simp only [hY] at ry on hAt7 hF3 ⊢
  obtain ⟨w7, hw7⟩ : ∃ W, (w6.alloc (.cells zm.toArray 63)).setCells Y 0 m.ms.cells = W := ⟨_, rfl⟩
  simp only [hw7] at ry on hAt7 hF3 ⊢
  have hbX : m.Bk (fun b => X < b) := ⟨hBk.1.mono (fun b hb => by omega), hBk.2.1.mono (fun b hb => by omega), fun y hy => (hBk.2.2.1 y hy).mono (fun b hb => by omega), hBk.2.2.2.1.mono (fun b hb => by omega), hBk.2.2.2.2.1.mono (fun b hb => by omega), hBk.2.2.2.2.2.mono (fun b hb => by omega)⟩
  have hbA : m.rs.Bk (fun b => w.heap.size < b) ∧ m.cs.Bk (fun b => w.heap.size < b) ∧ m.sg.Bk (fun b => w.heap.size < b) := by
   have e := HAw.out
   exact ⟨hBk.1.mono (fun b hb => by omega), hBk.2.2.2.2.1.mono (fun b hb => by omega), hBk.2.2.2.2.2.mono (fun b hb => by omega)⟩
  have hat : ∀ {W : World}, W.rangeAt Y 0 m.ms.cells → W.cell? ⟨Y, 0, none⟩ = some (.int .i64 m.k) ∧ W.rangeAt Y 5 [.bool m.q, m.rs.val] ∧ W.rangeAt Y 80 (certL m.ct m.cs) ∧ W.cell? ⟨Y, 117, none⟩ = some (.string m.st) ∧ W.cell? ⟨Y, 118, none⟩ = some m.sg.val := fun hr => by
   have MA := hmo.ms.at hr
   exact ⟨MA.k, ms_bat MA, MA.ct, MA.st, MA.sg⟩
  have w7y := ry
  have w7a := hAt7
  have hpk : m.k = mp.k := congrArg Mp.k hp
  clear ry hF2 hF3 hw7 hY hb6 hAt hBk hmql hmq1 hmiq cX hAt7 k5
  go_upto_region 24 with fail
  try simp only [Act.put]
  refine pl_begin ?_
  refine pl_t 9 (?_) (by rfl) ?_ rfl ?_
  rotate_left
  ·go_simp
   try with_reducible rfl
  simp only [nz]
  refine pl_nil ?_
  have k7 : w7.cell? ⟨X, 0, none⟩ = some (.int .i64 k) := by rw [← hCk]; exact on.own 0 _ rfl
  go_upto_region 25 with fail
  try simp only [Act.put]
  refine pl_begin ?_
  refine pl_t 66 (?_) (by rfl) ?_ rfl ?_
  rotate_left
  ·go_simp
   try with_reducible rfl
  simp only [nz]
  refine pl_t 67 (.int .i64 k) (by rfl) (pl_one rfl rfl k7 Tryz.underlying3 rfl) rfl ?_
  simp only [nz]
  refine pl_t 68 (.bool false) (by rfl) (by go_simp <;> (try simp [*])) rfl ?_
  simp only [nz]
  refine pl_nil ?_
  clear k7
  obtain ⟨yk, -, -, -, -⟩ := hat w7y
  go_upto_region 27 with fail
  by_cases he : er = 0
  rotate_left
  ·have heb : (er != 0) = true := by simpa using he
   have HP : Hid (PP = (Rp.zero 0, 240)) := hide (by rw [HP1.out, if_neg (fun h => he h.1)])
   clear HP1 he
   try simp only [Act.put]
   refine pl_begin ?_
   refine pl_t 69 (?_) (by rfl) ?_ rfl ?_
   rotate_left
   ·go_simp
    try with_reducible rfl
   simp only [nz]
   refine pl_t 70 (.bool true) (by rfl) (by go_simp <;> (try simp [*])) rfl ?_
   simp only [nz]
   refine pl_t 71 (?_) (by rfl) ?_ rfl ?_
   rotate_left
   ·go_simp
    try with_reducible rfl
   simp only [nz]
   refine pl_skip (d := some 72) (by rfl) rfl ?_
   simp only [nz]
   refine pl_skip (d := some 73) (by rfl) rfl ?_
   simp only [nz]
   refine pl_skip (d := some 74) (by rfl) rfl ?_
   simp only [nz]
   refine pl_skip (d := some 75) (by rfl) rfl ?_
   simp only [nz]
   refine pl_t 76 (?_) (by rfl) ?_ rfl ?_
   rotate_left
   ·go_simp
    try with_reducible rfl
   simp only [nz]
   refine pl_nil ?_
   have hTZ : w7.there A 0 45 := there_blk hTA (on.gb.block A hA2 hAR)
   have hBZ : Below w.heap.size w w7 := kx_low hB2 on.gb hRw hw2
   go_upto_region 28 with fail
   try simp only [Act.put]
   refine pl_begin ?_
   refine pl_t 77 (.agg zc.toArray) (by rfl) (ex_build (parts := []) rfl rfl (hbn _)) rfl ?_
   simp only [nz]
   refine pl_store (w' := w7.setCells A 0 zc) (by rfl) (ex_put (cs := zc.toArray) rfl rfl rfl (by simpa [hzl] using hTZ) (by simpa [hzl] using iszRc) (all_one hz1)) rfl ?_
   refine pl_t 3 (?_) (by rfl) ?_ rfl ?_
   rotate_left
   ·go_simp
    try with_reducible rfl
   simp only [nz]
   refine pl_nil ?_
   have hrs := run_loadVar_mid (P := Tryz.prog) (w7.setCells A 0 zc) A 0 33 zc _ (World.rangeAt_setCells_same w7 A 0 zc (by rw [hzl]; exact hTZ)) Tryz.underlying33 rfl (by rw [hzl]; exact iszRc)
   have HF : Hid (DecK w PP (.returned (.tuple #[.agg zc.toArray, .int .i64 240])) (w7.setCells A 0 zc)) := hide (by
    rw [HP.out]
    exact deck_out (c := Rc.zero 0) hz0.out.symm HAw.out hBZ rfl rfl Vt.zero_ok (Rc.zero_at _ _) ⟨nil_bk, nil_bk, nil_bk⟩)
   clear hBZ hTZ on
   go_wp2_with fail
   refine bodyPost_ret (results_ct rfl _ _ _ rfl hrs) rfl ?_
   exact HF.out
  subst he
  by_cases hk : m.k = 7
  rotate_left
  ·have HP : Hid (PP = (Rp.zero 0, 240)) := hide (by rw [HP1.out, if_neg (fun h => hk (by rw [hpk]; exact h.2))])
   have hkb : (m.k != 7) = true := by simpa using hk
   clear HP1 hk hpk hp
   try simp only [Act.put]
   refine pl_begin ?_
   refine pl_t 69 (?_) (by rfl) ?_ rfl ?_
   rotate_left
   ·go_simp
    try with_reducible rfl
   simp only [nz]
   refine pl_t 70 (.bool false) (by rfl) (by go_simp) rfl ?_
   simp only [nz]
   refine pl_t 71 (?_) (by rfl) ?_ rfl ?_
   rotate_left
   ·go_simp
    try with_reducible rfl
   simp only [nz]
   refine pl_t 72 (?_) (by rfl) ?_ rfl ?_
   rotate_left
   ·go_simp
    try with_reducible rfl
   simp only [nz]
   refine pl_t 73 (.int .i64 m.k) (by rfl) (pl_one rfl rfl yk Tryz.underlying3 rfl) rfl ?_
   simp only [nz]
   refine pl_t 74 (?_) (by rfl) ?_ rfl ?_
   rotate_left
   ·go_simp
    try with_reducible rfl
   simp only [nz]
   refine pl_t 75 (.bool true) (by rfl) (by go_simp <;> (try simp [*])) rfl ?_
   simp only [nz]
   refine pl_t 76 (?_) (by rfl) ?_ rfl ?_
   rotate_left
   ·go_simp
    try with_reducible rfl
   simp only [nz]
   refine pl_nil ?_
   have hTZ : w7.there A 0 45 := there_blk hTA (on.gb.block A hA2 hAR)
   have hBZ : Below w.heap.size w w7 := kx_low hB2 on.gb hRw hw2
   go_upto_region 28 with fail
   try simp only [Act.put]
   refine pl_begin ?_
   refine pl_t 77 (.agg zc.toArray) (by rfl) (ex_build (parts := []) rfl rfl (hbn _)) rfl ?_
   simp only [nz]
   refine pl_store (w' := w7.setCells A 0 zc) (by rfl) (ex_put (cs := zc.toArray) rfl rfl rfl (by simpa [hzl] using hTZ) (by simpa [hzl] using iszRc) (all_one hz1)) rfl ?_
   refine pl_t 3 (?_) (by rfl) ?_ rfl ?_
   rotate_left
   ·go_simp
    try with_reducible rfl
   simp only [nz]
   refine pl_nil ?_
   have hrs := run_loadVar_mid (P := Tryz.prog) (w7.setCells A 0 zc) A 0 33 zc _ (World.rangeAt_setCells_same w7 A 0 zc (by rw [hzl]; exact hTZ)) Tryz.underlying33 rfl (by rw [hzl]; exact iszRc)
   have HF : Hid (DecK w PP (.returned (.tuple #[.agg zc.toArray, .int .i64 240])) (w7.setCells A 0 zc)) := hide (by
    rw [HP.out]
    exact deck_out (c := Rc.zero 0) hz0.out.symm HAw.out hBZ rfl rfl Vt.zero_ok (Rc.zero_at _ _) ⟨nil_bk, nil_bk, nil_bk⟩)
   clear hBZ hTZ on
   go_wp2_with fail
   refine bodyPost_ret (results_ct rfl _ _ _ rfl hrs) rfl ?_
   exact HF.out
  have HP : Hid (PP = (⟨k, 0, 0, 0, m.q, m.rs.xs, m.ct, m.cs.xs, m.st, m.sg.xs⟩, 0)) := hide (by rw [HP1.out, if_pos ⟨rfl, by rw [← hpk]; exact hk⟩, ← hp]; rfl)
  have hkb : (m.k != 7) = false := by simpa using hk
  have hic : (Tryz.prog.info? 31).map (·.size) = some (certL m.ct m.cs).length := by rw [cert_len hmo.ct]; exact iszCe
  clear HP1 hk hp hpk
  try simp only [Act.put]
  refine pl_begin ?_
  refine pl_t 69 (?_) (by rfl) ?_ rfl ?_
  rotate_left
  ·go_simp
   try with_reducible rfl
  simp only [nz]
  refine pl_t 70 (.bool false) (by rfl) (by go_simp) rfl ?_
  simp only [nz]
  refine pl_t 71 (?_) (by rfl) ?_ rfl ?_
  rotate_left
  ·go_simp
   try with_reducible rfl
  simp only [nz]
  refine pl_t 72 (?_) (by rfl) ?_ rfl ?_
  rotate_left
  ·go_simp
   try with_reducible rfl
  simp only [nz]
  refine pl_t 73 (.int .i64 m.k) (by rfl) (pl_one rfl rfl yk Tryz.underlying3 rfl) rfl ?_
  simp only [nz]
  refine pl_t 74 (?_) (by rfl) ?_ rfl ?_
  rotate_left
  ·go_simp
   try with_reducible rfl
  simp only [nz]
  refine pl_t 75 (.bool false) (by rfl) (by go_simp <;> (try simp [*])) rfl ?_
  simp only [nz]
  refine pl_t 76 (?_) (by rfl) ?_ rfl ?_
  rotate_left
  ·go_simp
   try with_reducible rfl
  simp only [nz]
  refine pl_nil ?_
  clear yk
  have yM := hat w7y
  obtain ⟨yk, yb, yc, yt, yg⟩ := yM
  go_upto_region 29 with fail
  try simp only [Act.put]
  refine pl_begin ?_
  refine pl_t 78 (?_) (by rfl) ?_ rfl ?_
  rotate_left
  ·go_simp
   try with_reducible rfl
  simp only [nz]
  refine pl_t 79 (.agg #[.bool m.q, m.rs.val]) (by rfl) (ex_mid rfl rfl yb Tryz.underlying24 rfl iszBa) rfl ?_
  simp only [nz]
  refine pl_t 80 (?_) (by rfl) ?_ rfl ?_
  rotate_left
  ·go_simp
   try with_reducible rfl
  simp only [nz]
  refine pl_store (w' := w7.setCells X 4 [.bool m.q, m.rs.val]) (by rfl) (ex_put (cs := #[.bool m.q, m.rs.val]) rfl rfl rfl (there_part1 on.thX (by simp)) iszBa (bat_all _ _)) rfl ?_
  refine pl_nil ?_
  have f1 := on.b m.q m.rs
  have f1Vy := World.rangeAt_setCells_apart w7y X 4 [.bool m.q, m.rs.val] (.inl hYX)
  have f1Va : m.At (w7.setCells X 4 [.bool m.q, m.rs.val]) := w7a.put hbX
  obtain ⟨f1V, hf1⟩ : ∃ W, w7.setCells X 4 [.bool m.q, m.rs.val] = W := ⟨_, rfl⟩
  rw [hf1] at f1 f1Vy f1Va ⊢
  clear hf1 yk yb yc yt yg on w7y w7a
  have yM := hat f1Vy
  obtain ⟨yk, yb, yc, yt, yg⟩ := yM
  go_upto_region 30 with fail
  try simp only [Act.put]
  refine pl_begin ?_
  refine pl_t 81 (?_) (by rfl) ?_ rfl ?_
  rotate_left
  ·go_simp
   try with_reducible rfl
  simp only [nz]
  refine pl_t 82 (.agg (certL m.ct m.cs).toArray) (by rfl) (ex_mid rfl rfl yc Tryz.underlying31 rfl hic) rfl ?_
  simp only [nz]
  refine pl_t 83 (?_) (by rfl) ?_ rfl ?_
  rotate_left
  ·go_simp
   try with_reducible rfl
  simp only [nz]
  refine pl_store (w' := f1V.setCells X 6 (certL m.ct m.cs)) (by rfl) (ex_put (cs := (certL m.ct m.cs).toArray) rfl rfl rfl (by simpa [cert_len hmo.ct] using there_part1 f1.thX (o := 6) (m := 37) (by decide)) (by simpa using hic) (all_one (cert_one _ _))) rfl ?_
  refine pl_nil ?_
  have f2 := f1.c m.ct hmo.ct m.cs
  have f2Vy := World.rangeAt_setCells_apart f1Vy X 6 (certL m.ct m.cs) (.inl hYX)
  have f2Va : m.At (f1V.setCells X 6 (certL m.ct m.cs)) := f1Va.put hbX
  obtain ⟨f2V, hf2⟩ : ∃ W, f1V.setCells X 6 (certL m.ct m.cs) = W := ⟨_, rfl⟩
  rw [hf2] at f2 f2Vy f2Va ⊢
  clear hf2 yk yb yc yt yg f1 f1Vy f1Va
  have yM := hat f2Vy
  obtain ⟨yk, yb, yc, yt, yg⟩ := yM
  go_upto_region 31 with fail
  try simp only [Act.put]
  refine pl_begin ?_
  refine pl_t 84 (?_) (by rfl) ?_ rfl ?_
  rotate_left
  ·go_simp
   try with_reducible rfl
  simp only [nz]
  refine pl_t 85 (.string m.st) (by rfl) (pl_one rfl rfl yt Tryz.underlying9 rfl) rfl ?_
  simp only [nz]
  refine pl_t 86 (?_) (by rfl) ?_ rfl ?_
  rotate_left
  ·go_simp
   try with_reducible rfl
  simp only [nz]
  refine pl_store (w' := f2V.setCells X 43 [.string m.st]) (by rfl) (ex_put1 (n := 45) rfl rfl rfl f2.thX (by decide) iszStr rfl rfl) rfl ?_
  refine pl_nil ?_
  have f3 := f2.t m.st
  have f3Vy := World.rangeAt_setCells_apart f2Vy X 43 [.string m.st] (.inl hYX)
  have f3Va : m.At (f2V.setCells X 43 [.string m.st]) := f2Va.put hbX
  obtain ⟨f3V, hf3⟩ : ∃ W, f2V.setCells X 43 [.string m.st] = W := ⟨_, rfl⟩
  rw [hf3] at f3 f3Vy f3Va ⊢
  clear hf3 yk yb yc yt yg f2 f2Vy f2Va
  have yM := hat f3Vy
  obtain ⟨yk, yb, yc, yt, yg⟩ := yM
  go_upto_region 32 with fail
  try simp only [Act.put]
  refine pl_begin ?_
  refine pl_t 87 (?_) (by rfl) ?_ rfl ?_
  rotate_left
  ·go_simp
   try with_reducible rfl
  simp only [nz]
  refine pl_t 88 (m.sg.val) (by rfl) (pl_one rfl rfl yg Tryz.underlying29 rfl) rfl ?_
  simp only [nz]
  refine pl_t 89 (?_) (by rfl) ?_ rfl ?_
  rotate_left
  ·go_simp
   try with_reducible rfl
  simp only [nz]
  refine pl_store (w' := f3V.setCells X 44 [m.sg.val]) (by rfl) (ex_put1 (n := 45) rfl rfl rfl f3.thX (by decide) iszSgs rfl rfl) rfl ?_
  refine pl_nil ?_
  have f4 := f3.g m.sg
  have f4Vy := World.rangeAt_setCells_apart f3Vy X 44 [m.sg.val] (.inl hYX)
  have f4Va : m.At (f3V.setCells X 44 [m.sg.val]) := f3Va.put hbX
  obtain ⟨f4V, hf4⟩ : ∃ W, f3V.setCells X 44 [m.sg.val] = W := ⟨_, rfl⟩
  rw [hf4] at f4 f4Vy f4Va ⊢
  clear hf4 yk yb yc yt yg f3 f3Vy f3Va
  obtain ⟨G, hG⟩ : ∃ G : Rc, G = ⟨k, 0, 0, 0, m.q, m.rs, m.ct, m.cs, m.st, m.sg⟩ := ⟨_, rfl⟩
  have on : KX D W2 R X G SS f4V := by rw [hG]; rw [hC] at f4; exact f4
  have HC2 : Hid (G.pure = ⟨k, 0, 0, 0, m.q, m.rs.xs, m.ct, m.cs.xs, m.st, m.sg.xs⟩ ∧ G.At f4V ∧ G.Bk (fun b => w.heap.size < b)) := hide (by rw [hG]; exact ⟨rfl, ⟨f4Va.rs, f4Va.cs, f4Va.sg⟩, hbA⟩)
  clear f4 hG f4Vy f4Va
  have hTZ : f4V.there A 0 45 := there_blk hTA (on.gb.block A hA2 hAR)
  have hBZ : Below w.heap.size w f4V := kx_low hB2 on.gb hRw hw2
  obtain ⟨qc, hqc⟩ : ∃ q, Hid (G.cells = q) := ⟨_, hide rfl⟩
  have hql : G.cells.length = 45 := Rc.len on.ok
  have hq1 := Rc.one G
  have ho := on.own
  have hco := on.ok
  simp only [hqc.out] at hql hq1 ho
  have hiq : (Tryz.prog.info? 33).map (·.size) = some qc.length := by rw [hql]; exact iszRc
  go_upto_region 33 with fail
  try simp only [Act.put]
  refine pl_begin ?_
  refine pl_t 90 (.agg qc.toArray) (by rfl) (ex_mid rfl rfl ho Tryz.underlying33 rfl hiq) rfl ?_
  simp only [nz]
  refine pl_store (w' := f4V.setCells A 0 qc) (by rfl) (ex_put (cs := qc.toArray) rfl rfl rfl (by simpa [hql] using hTZ) (by simpa using hiq) (all_one hq1)) rfl ?_
  refine pl_t 3 (?_) (by rfl) ?_ rfl ?_
  rotate_left
  ·go_simp
   try with_reducible rfl
  simp only [nz]
  refine pl_nil ?_
  have hrs := run_loadVar_mid (P := Tryz.prog) (f4V.setCells A 0 qc) A 0 33 qc _ (World.rangeAt_setCells_same f4V A 0 qc (by rw [hql]; exact hTZ)) Tryz.underlying33 rfl (by rw [hql]; exact iszRc)
  have HF : Hid (DecK w PP (.returned (.tuple #[.agg qc.toArray, .int .i64 0])) (f4V.setCells A 0 qc)) := hide (by
   rw [HP.out]
   exact deck_out (c := G) hqc.out HAw.out hBZ rfl HC2.out.1 hco HC2.out.2.1 HC2.out.2.2)
  clear hBZ hTZ on ho
  go_wp2_with fail
  refine bodyPost_ret (results_ct rfl _ _ _ rfl hrs) rfl ?_
  exact HF.out
 ·have HP : PP = kfin (krT k s1) := by rw [HP0.out, if_neg (by omega), if_neg (by omega), if_pos (by omega)]
  clear HP0 cN
  unfold krT at HP
  have c2 := fun w0 h0 => xtextS D R 4194304 s1 w0 h0
  have htx : (xtxS 4194304 s1).1.size ≤ 40000 := by
   show (strOf (textS s1.1 s1.2 4194304).1).size ≤ _
   rw [strOf_size]
   exact Nat.le_trans (textS_tl _ _ _) l1
  generalize xtxS 4194304 s1 = p at c2 HP htx
  obtain ⟨tx, SS⟩ := p
  simp only at c2 HP htx
  have HPP := hide HP
  clear HP
  have m1 : (k == 1) = false := by rw [beq_eq_false_iff_ne]; omega
  have m3 : (k == 3) = false := by rw [beq_eq_false_iff_ne]; omega
  have m2 : (k == 2) = false := by first | (rw [beq_eq_false_iff_ne]; omega) | (rw [beq_iff_eq]; omega)
  have m4 : (k == 4) = true := by first | (rw [beq_eq_false_iff_ne]; omega) | (rw [beq_iff_eq]; omega)
  have m5 : (k == 5) = false := by first | (rw [beq_eq_false_iff_ne]; omega) | (rw [beq_iff_eq]; omega)
  go_upto_region 5 with fail
  try simp only [Act.put]
  refine pl_begin ?_
  refine pl_t 18 (.bool false) (by rfl) (by go_simp <;> (try simp [*])) rfl ?_
  simp only [nz]
  refine pl_t 17 (?_) (by rfl) ?_ rfl ?_
  rotate_left
  ·go_simp
   try with_reducible rfl
  simp only [nz]
  refine pl_nil ?_
  go_upto_region 9 with fail
  try simp only [Act.put]
  refine pl_begin ?_
  refine pl_t 29 (.bool false) (by rfl) (by go_simp <;> (try simp [*])) rfl ?_
  simp only [nz]
  refine pl_t 28 (?_) (by rfl) ?_ rfl ?_
  rotate_left
  ·go_simp
   try with_reducible rfl
  simp only [nz]
  refine pl_nil ?_
  go_upto_region 12 with fail
  try simp only [Act.put]
  refine pl_begin ?_
  refine pl_t 37 (.bool false) (by rfl) (by go_simp <;> (try simp [*])) rfl ?_
  simp only [nz]
  refine pl_t 36 (?_) (by rfl) ?_ rfl ?_
  rotate_left
  ·go_simp
   try with_reducible rfl
  simp only [nz]
  refine pl_nil ?_
  go_upto_region 13 with fail
  try simp only [Act.put]
  refine pl_begin ?_
  refine pl_t 38 (.bool true) (by rfl) (by go_simp <;> (try simp [*])) rfl ?_
  simp only [nz]
  refine pl_t 36 (?_) (by rfl) ?_ rfl ?_
  rotate_left
  ·go_simp
   try with_reducible rfl
  simp only [nz]
  refine pl_nil ?_
  clear m1 m2 m3 m4 m5
  go_upto_region 15 with fail
  try simp only [Act.put]
  refine pl_begin ?_
  refine pl_t 40 (?_) (by rfl) ?_ rfl ?_
  rotate_left
  ·go_simp
   try with_reducible rfl
  simp only [nz]
  refine pl_call (d := some 41) (by rfl) (by go_simp; first | done | exact ⟨rfl, rfl⟩ | with_reducible rfl) rfl ?_
  refine (c2 w4 on.st).mono ?_
  rintro _ o2W ⟨rfl, hs9, hg9⟩
  replace on := on.on _ hs9 hg9
  clear hs9 hg9 c2
  refine ⟨_, rfl, ?_⟩
  simp only [nz]
  refine pl_t 6 (?_) (by rfl) ?_ rfl ?_
  rotate_left
  ·go_simp
   try with_reducible rfl
  simp only [nz]
  refine pl_nil ?_
  obtain ⟨C, hC⟩ : ∃ C : Rc, C = Rc.zero k := ⟨_, rfl⟩
  rw [← hC] at on
  have hCk : C.k = k := by rw [hC]; rfl
  obtain ⟨d, hd⟩ : ∃ d, doneE SS.1 SS.2 = d := ⟨_, rfl⟩
  have cD := xdoneS D R SS o2W on.st
  rw [hd] at cD
  go_upto_region 16 with fail
  try simp only [Act.put]
  refine pl_begin ?_
  refine pl_t 42 (?_) (by rfl) ?_ rfl ?_
  rotate_left
  ·go_simp
   try with_reducible rfl
  simp only [nz]
  refine pl_call (d := some 43) (by rfl) (by go_simp; first | done | exact ⟨rfl, rfl⟩ | with_reducible rfl) rfl ?_
  refine (cD).mono ?_
  rintro _ w5 ⟨rfl, hb5⟩
  refine ⟨_, rfl, ?_⟩
  simp only [nz]
  refine pl_t 7 (?_) (by rfl) ?_ rfl ?_
  rotate_left
  ·go_simp
   try with_reducible rfl
  simp only [nz]
  refine pl_nil ?_
  replace on := on.below hb5
  clear cD hb5
  go_upto_region 17 with fail
  by_cases hd0 : d = 0
  rotate_left
  ·have hdb : (d != 0) = true := by simpa using hd0
   have HP : Hid (PP = (Rp.zero 0, d)) := hide (by rw [HPP.out]; exact kfin_bad hd hd0)
   clear HPP hd hd0
   try simp only [Act.put]
   refine pl_begin ?_
   refine pl_t 44 (?_) (by rfl) ?_ rfl ?_
   rotate_left
   ·go_simp
    try with_reducible rfl
   simp only [nz]
   refine pl_t 45 (.bool true) (by rfl) (by go_simp <;> (try simp [*])) rfl ?_
   simp only [nz]
   refine pl_nil ?_
   have hTZ : w5.there A 0 45 := there_blk hTA (on.gb.block A hA2 hAR)
   have hBZ : Below w.heap.size w w5 := kx_low hB2 on.gb hRw hw2
   go_upto_region 18 with fail
   try simp only [Act.put]
   refine pl_begin ?_
   refine pl_t 46 (.agg zc.toArray) (by rfl) (ex_build (parts := []) rfl rfl (hbn _)) rfl ?_
   simp only [nz]
   refine pl_t 47 (?_) (by rfl) ?_ rfl ?_
   rotate_left
   ·go_simp
    try with_reducible rfl
   simp only [nz]
   refine pl_store (w' := w5.setCells A 0 zc) (by rfl) (ex_put (cs := zc.toArray) rfl rfl rfl (by simpa [hzl] using hTZ) (by simpa [hzl] using iszRc) (all_one hz1)) rfl ?_
   refine pl_t 3 (?_) (by rfl) ?_ rfl ?_
   rotate_left
   ·go_simp
    try with_reducible rfl
   simp only [nz]
   refine pl_nil ?_
   have hrs := run_loadVar_mid (P := Tryz.prog) (w5.setCells A 0 zc) A 0 33 zc _ (World.rangeAt_setCells_same w5 A 0 zc (by rw [hzl]; exact hTZ)) Tryz.underlying33 rfl (by rw [hzl]; exact iszRc)
   have HF : Hid (DecK w PP (.returned (.tuple #[.agg zc.toArray, .int .i64 d])) (w5.setCells A 0 zc)) := hide (by
    rw [HP.out]
    exact deck_out (c := Rc.zero 0) hz0.out.symm HAw.out hBZ rfl rfl Vt.zero_ok (Rc.zero_at _ _) ⟨nil_bk, nil_bk, nil_bk⟩)
   clear hBZ hTZ on
   go_wp2_with fail
   refine bodyPost_ret (results_ct rfl _ _ _ rfl hrs) rfl ?_
   exact HF.out
  subst hd0
  try simp only [Act.put]
  refine pl_begin ?_
  refine pl_t 44 (?_) (by rfl) ?_ rfl ?_
  rotate_left
  ·go_simp
   try with_reducible rfl
  simp only [nz]
  refine pl_t 45 (.bool false) (by rfl) (by go_simp) rfl ?_
  simp only [nz]
  refine pl_nil ?_
  have HP1 : Hid (PP = ofT k (strL tx)) := hide (by rw [HPP.out]; exact kfin_of hd (by show ¬ (k = 1 ∨ k = 3); omega))
  clear HPP hd
  have n1 : (k == 1) = false := by rw [beq_eq_false_iff_ne]; omega
  have n3 : (k == 3) = false := by rw [beq_eq_false_iff_ne]; omega
  have n0 : (k == 0) = false := by rw [beq_eq_false_iff_ne]; omega
  have n5 : (k == 5) = false := by first | (rw [beq_eq_false_iff_ne]; omega) | (rw [beq_iff_eq]; omega)
  have hmk : mkK k = 7 := by unfold mkK; repeat (first | rw [if_neg (by omega)] | rw [if_pos (by omega)])
  have k5 : w5.cell? ⟨X, 0, none⟩ = some (.int .i64 k) := by rw [← hCk]; exact on.own 0 _ rfl
  go_upto_region 19 with fail
  try simp only [Act.put]
  refine pl_begin ?_
  refine pl_t 48 (?_) (by rfl) ?_ rfl ?_
  rotate_left
  ·go_simp
   try with_reducible rfl
  simp only [nz]
  refine pl_t 49 (.int .i64 k) (by rfl) (pl_one rfl rfl k5 Tryz.underlying3 rfl) rfl ?_
  simp only [nz]
  refine pl_t 50 (.bool false) (by rfl) (by go_simp <;> (try simp [*])) rfl ?_
  simp only [nz]
  refine pl_nil ?_
  go_upto_region 21 with fail
  try simp only [Act.put]
  refine pl_begin ?_
  refine pl_t 52 (?_) (by rfl) ?_ rfl ?_
  rotate_left
  ·go_simp
   try with_reducible rfl
  simp only [nz]
  refine pl_t 53 (.int .i64 k) (by rfl) (pl_one rfl rfl k5 Tryz.underlying3 rfl) rfl ?_
  simp only [nz]
  refine pl_t 54 (.bool false) (by rfl) (by go_simp <;> (try simp [*])) rfl ?_
  simp only [nz]
  refine pl_t 55 (?_) (by rfl) ?_ rfl ?_
  rotate_left
  ·go_simp
   try with_reducible rfl
  simp only [nz]
  refine pl_t 56 (?_) (by rfl) ?_ rfl ?_
  rotate_left
  ·go_simp
   try with_reducible rfl
  simp only [nz]
  refine pl_t 57 (.int .i64 k) (by rfl) (pl_one rfl rfl k5 Tryz.underlying3 rfl) rfl ?_
  simp only [nz]
  refine pl_t 58 (.bool false) (by rfl) (by go_simp <;> (try simp [*])) rfl ?_
  simp only [nz]
  refine pl_t 59 (?_) (by rfl) ?_ rfl ?_
  rotate_left
  ·go_simp
   try with_reducible rfl
  simp only [nz]
  refine pl_nil ?_
  have HTX : Hid (ofT k (strL tx) = if (decX (strL tx)).2 = 0 ∧ (decX (strL tx)).1.k = 7 then (⟨k, 0, 0, 0, (decX (strL tx)).1.q, (decX (strL tx)).1.rs, (decX (strL tx)).1.ct, (decX (strL tx)).1.cs, (decX (strL tx)).1.st, (decX (strL tx)).1.sg⟩, 0) else (Rp.zero 0, 240)) := hide (by unfold ofT; rw [dec_same, hmk])
  rw [HTX.out] at HP1
  clear HTX hmk
  have cX := xdecode_any tx htx w5
  generalize decX (strL tx) = DD at cX HP1
  obtain ⟨mp, er⟩ := DD
  simp only at cX HP1
  go_upto_region 23 with fail
  try simp only [Act.put]
  refine pl_begin ?_
  refine pl_t 62 (?_) (by rfl) ?_ rfl ?_
  rotate_left
  ·go_simp
   try with_reducible rfl
  simp only [nz]
  refine pl_call (d := some 63) (by rfl) (by go_simp; first | done | exact ⟨rfl, rfl⟩ | with_reducible rfl) rfl ?_
  refine (cX).mono ?_
  rintro _ w6 ⟨m, rfl, hp, hmo, hAt, hBk, hb6⟩
  refine ⟨_, rfl, ?_⟩
  simp only [nz]
  have hmql := hmo.ms.len
  have hmq1 := hmo.ms.one
  have hmiq : (Tryz.prog.info? 63).map (·.size) = some m.ms.cells.length := by rw [hmql]; exact iszM
  refine pl_t 61 (?_) (by rfl) ?_ rfl ?_
  rotate_left
  ·go_simp
   try with_reducible rfl
  simp only [nz]
  refine pl_t 64 (?_) (by rfl) ?_ rfl ?_
  rotate_left
  ·go_simp
   try with_reducible rfl
  simp only [nz]
  refine pl_t 65 (?_) (by rfl) ?_ rfl ?_
  rotate_left
  ·go_simp
   try with_reducible rfl
  simp only [nz]
  refine pl_run (d := some 8) (v := .pointer (some ⟨w6.heap.size, 0, none⟩)) (w' := w6.alloc (.cells zm.toArray 63)) (by rfl) (ex_alloc rfl (hzmr _)) rfl ?_
  simp only [nz]
  refine pl_store (w' := (w6.alloc (.cells zm.toArray 63)).setCells w6.heap.size 0 m.ms.cells) (by rfl) (ex_put (cs := m.ms.cells.toArray) rfl rfl rfl (there_newN _ _ _ (by simp [hzml, hmql])) (by simpa using hmiq) (all_one hmq1)) rfl ?_
  refine pl_t 7 (?_) (by rfl) ?_ rfl ?_
  rotate_left
  ·go_simp
   try with_reducible rfl
  simp only [nz]
  refine pl_nil ?_
  obtain ⟨ry, hF2, hF3, -⟩ := fresh_store w6 zm.toArray 63 m.ms.cells (by simp [hzml, hmql])
  have lx5 := on.lx
  have lw5 := on.gb.size
  have z6 := hb6.size
  replace on := (on.below hb6).below hF2
  have hAt7 := hAt.below hF2
  obtain ⟨Y, hY⟩ : ∃ X, w6.heap.size = X := ⟨_, rfl⟩
  have hYX : Y ≠ X := by omega
  simp only [hY] at ry on hAt7 hF3 ⊢
  obtain ⟨w7, hw7⟩ : ∃ W, (w6.alloc (.cells zm.toArray 63)).setCells Y 0 m.ms.cells = W := ⟨_, rfl⟩
  simp only [hw7] at ry on hAt7 hF3 ⊢
  have hbX : m.Bk (fun b => X < b) := ⟨hBk.1.mono (fun b hb => by omega), hBk.2.1.mono (fun b hb => by omega), fun y hy => (hBk.2.2.1 y hy).mono (fun b hb => by omega), hBk.2.2.2.1.mono (fun b hb => by omega), hBk.2.2.2.2.1.mono (fun b hb => by omega), hBk.2.2.2.2.2.mono (fun b hb => by omega)⟩
  have hbA : m.rs.Bk (fun b => w.heap.size < b) ∧ m.cs.Bk (fun b => w.heap.size < b) ∧ m.sg.Bk (fun b => w.heap.size < b) := by
   have e := HAw.out
   exact ⟨hBk.1.mono (fun b hb => by omega), hBk.2.2.2.2.1.mono (fun b hb => by omega), hBk.2.2.2.2.2.mono (fun b hb => by omega)⟩
  have hat : ∀ {W : World}, W.rangeAt Y 0 m.ms.cells → W.cell? ⟨Y, 0, none⟩ = some (.int .i64 m.k) ∧ W.rangeAt Y 5 [.bool m.q, m.rs.val] ∧ W.rangeAt Y 80 (certL m.ct m.cs) ∧ W.cell? ⟨Y, 117, none⟩ = some (.string m.st) ∧ W.cell? ⟨Y, 118, none⟩ = some m.sg.val := fun hr => by
   have MA := hmo.ms.at hr
   exact ⟨MA.k, ms_bat MA, MA.ct, MA.st, MA.sg⟩
  have w7y := ry
  have w7a := hAt7
  have hpk : m.k = mp.k := congrArg Mp.k hp
  clear ry hF2 hF3 hw7 hY hb6 hAt hBk hmql hmq1 hmiq cX hAt7 k5
  go_upto_region 24 with fail
  try simp only [Act.put]
  refine pl_begin ?_
  refine pl_t 9 (?_) (by rfl) ?_ rfl ?_
  rotate_left
  ·go_simp
   try with_reducible rfl
  simp only [nz]
  refine pl_nil ?_
  have k7 : w7.cell? ⟨X, 0, none⟩ = some (.int .i64 k) := by rw [← hCk]; exact on.own 0 _ rfl
  go_upto_region 25 with fail
  try simp only [Act.put]
  refine pl_begin ?_
  refine pl_t 66 (?_) (by rfl) ?_ rfl ?_
  rotate_left
  ·go_simp
   try with_reducible rfl
  simp only [nz]
  refine pl_t 67 (.int .i64 k) (by rfl) (pl_one rfl rfl k7 Tryz.underlying3 rfl) rfl ?_
  simp only [nz]
  refine pl_t 68 (.bool false) (by rfl) (by go_simp <;> (try simp [*])) rfl ?_
  simp only [nz]
  refine pl_nil ?_
  clear k7
  obtain ⟨yk, -, -, -, -⟩ := hat w7y
  go_upto_region 27 with fail
  by_cases he : er = 0
  rotate_left
  ·have heb : (er != 0) = true := by simpa using he
   have HP : Hid (PP = (Rp.zero 0, 240)) := hide (by rw [HP1.out, if_neg (fun h => he h.1)])
   clear HP1 he
   try simp only [Act.put]
   refine pl_begin ?_
   refine pl_t 69 (?_) (by rfl) ?_ rfl ?_
   rotate_left
   ·go_simp
    try with_reducible rfl
   simp only [nz]
   refine pl_t 70 (.bool true) (by rfl) (by go_simp <;> (try simp [*])) rfl ?_
   simp only [nz]
   refine pl_t 71 (?_) (by rfl) ?_ rfl ?_
   rotate_left
   ·go_simp
    try with_reducible rfl
   simp only [nz]
   refine pl_skip (d := some 72) (by rfl) rfl ?_
   simp only [nz]
   refine pl_skip (d := some 73) (by rfl) rfl ?_
   simp only [nz]
   refine pl_skip (d := some 74) (by rfl) rfl ?_
   simp only [nz]
   refine pl_skip (d := some 75) (by rfl) rfl ?_
   simp only [nz]
   refine pl_t 76 (?_) (by rfl) ?_ rfl ?_
   rotate_left
   ·go_simp
    try with_reducible rfl
   simp only [nz]
   refine pl_nil ?_
   have hTZ : w7.there A 0 45 := there_blk hTA (on.gb.block A hA2 hAR)
   have hBZ : Below w.heap.size w w7 := kx_low hB2 on.gb hRw hw2
   go_upto_region 28 with fail
   try simp only [Act.put]
   refine pl_begin ?_
   refine pl_t 77 (.agg zc.toArray) (by rfl) (ex_build (parts := []) rfl rfl (hbn _)) rfl ?_
   simp only [nz]
   refine pl_store (w' := w7.setCells A 0 zc) (by rfl) (ex_put (cs := zc.toArray) rfl rfl rfl (by simpa [hzl] using hTZ) (by simpa [hzl] using iszRc) (all_one hz1)) rfl ?_
   refine pl_t 3 (?_) (by rfl) ?_ rfl ?_
   rotate_left
   ·go_simp
    try with_reducible rfl
   simp only [nz]
   refine pl_nil ?_
   have hrs := run_loadVar_mid (P := Tryz.prog) (w7.setCells A 0 zc) A 0 33 zc _ (World.rangeAt_setCells_same w7 A 0 zc (by rw [hzl]; exact hTZ)) Tryz.underlying33 rfl (by rw [hzl]; exact iszRc)
   have HF : Hid (DecK w PP (.returned (.tuple #[.agg zc.toArray, .int .i64 240])) (w7.setCells A 0 zc)) := hide (by
    rw [HP.out]
    exact deck_out (c := Rc.zero 0) hz0.out.symm HAw.out hBZ rfl rfl Vt.zero_ok (Rc.zero_at _ _) ⟨nil_bk, nil_bk, nil_bk⟩)
   clear hBZ hTZ on
   go_wp2_with fail
   refine bodyPost_ret (results_ct rfl _ _ _ rfl hrs) rfl ?_
   exact HF.out
  subst he
  by_cases hk : m.k = 7
  rotate_left
  ·have HP : Hid (PP = (Rp.zero 0, 240)) := hide (by rw [HP1.out, if_neg (fun h => hk (by rw [hpk]; exact h.2))])
   have hkb : (m.k != 7) = true := by simpa using hk
   clear HP1 hk hpk hp
   try simp only [Act.put]
   refine pl_begin ?_
   refine pl_t 69 (?_) (by rfl) ?_ rfl ?_
   rotate_left
   ·go_simp
    try with_reducible rfl
   simp only [nz]
   refine pl_t 70 (.bool false) (by rfl) (by go_simp) rfl ?_
   simp only [nz]
   refine pl_t 71 (?_) (by rfl) ?_ rfl ?_
   rotate_left
   ·go_simp
    try with_reducible rfl
   simp only [nz]
   refine pl_t 72 (?_) (by rfl) ?_ rfl ?_
   rotate_left
   ·go_simp
    try with_reducible rfl
   simp only [nz]
   refine pl_t 73 (.int .i64 m.k) (by rfl) (pl_one rfl rfl yk Tryz.underlying3 rfl) rfl ?_
   simp only [nz]
   refine pl_t 74 (?_) (by rfl) ?_ rfl ?_
   rotate_left
   ·go_simp
    try with_reducible rfl
   simp only [nz]
   refine pl_t 75 (.bool true) (by rfl) (by go_simp <;> (try simp [*])) rfl ?_
   simp only [nz]
   refine pl_t 76 (?_) (by rfl) ?_ rfl ?_
   rotate_left
   ·go_simp
    try with_reducible rfl
   simp only [nz]
   refine pl_nil ?_
   have hTZ : w7.there A 0 45 := there_blk hTA (on.gb.block A hA2 hAR)
   have hBZ : Below w.heap.size w w7 := kx_low hB2 on.gb hRw hw2
   go_upto_region 28 with fail
   try simp only [Act.put]
   refine pl_begin ?_
   refine pl_t 77 (.agg zc.toArray) (by rfl) (ex_build (parts := []) rfl rfl (hbn _)) rfl ?_
   simp only [nz]
   refine pl_store (w' := w7.setCells A 0 zc) (by rfl) (ex_put (cs := zc.toArray) rfl rfl rfl (by simpa [hzl] using hTZ) (by simpa [hzl] using iszRc) (all_one hz1)) rfl ?_
   refine pl_t 3 (?_) (by rfl) ?_ rfl ?_
   rotate_left
   ·go_simp
    try with_reducible rfl
   simp only [nz]
   refine pl_nil ?_
   have hrs := run_loadVar_mid (P := Tryz.prog) (w7.setCells A 0 zc) A 0 33 zc _ (World.rangeAt_setCells_same w7 A 0 zc (by rw [hzl]; exact hTZ)) Tryz.underlying33 rfl (by rw [hzl]; exact iszRc)
   have HF : Hid (DecK w PP (.returned (.tuple #[.agg zc.toArray, .int .i64 240])) (w7.setCells A 0 zc)) := hide (by
    rw [HP.out]
    exact deck_out (c := Rc.zero 0) hz0.out.symm HAw.out hBZ rfl rfl Vt.zero_ok (Rc.zero_at _ _) ⟨nil_bk, nil_bk, nil_bk⟩)
   clear hBZ hTZ on
   go_wp2_with fail
   refine bodyPost_ret (results_ct rfl _ _ _ rfl hrs) rfl ?_
   exact HF.out
  have HP : Hid (PP = (⟨k, 0, 0, 0, m.q, m.rs.xs, m.ct, m.cs.xs, m.st, m.sg.xs⟩, 0)) := hide (by rw [HP1.out, if_pos ⟨rfl, by rw [← hpk]; exact hk⟩, ← hp]; rfl)
  have hkb : (m.k != 7) = false := by simpa using hk
  have hic : (Tryz.prog.info? 31).map (·.size) = some (certL m.ct m.cs).length := by rw [cert_len hmo.ct]; exact iszCe
  clear HP1 hk hp hpk
  try simp only [Act.put]
  refine pl_begin ?_
  refine pl_t 69 (?_) (by rfl) ?_ rfl ?_
  rotate_left
  ·go_simp
   try with_reducible rfl
  simp only [nz]
  refine pl_t 70 (.bool false) (by rfl) (by go_simp) rfl ?_
  simp only [nz]
  refine pl_t 71 (?_) (by rfl) ?_ rfl ?_
  rotate_left
  ·go_simp
   try with_reducible rfl
  simp only [nz]
  refine pl_t 72 (?_) (by rfl) ?_ rfl ?_
  rotate_left
  ·go_simp
   try with_reducible rfl
  simp only [nz]
  refine pl_t 73 (.int .i64 m.k) (by rfl) (pl_one rfl rfl yk Tryz.underlying3 rfl) rfl ?_
  simp only [nz]
  refine pl_t 74 (?_) (by rfl) ?_ rfl ?_
  rotate_left
  ·go_simp
   try with_reducible rfl
  simp only [nz]
  refine pl_t 75 (.bool false) (by rfl) (by go_simp <;> (try simp [*])) rfl ?_
  simp only [nz]
  refine pl_t 76 (?_) (by rfl) ?_ rfl ?_
  rotate_left
  ·go_simp
   try with_reducible rfl
  simp only [nz]
  refine pl_nil ?_
  clear yk
  have yM := hat w7y
  obtain ⟨yk, yb, yc, yt, yg⟩ := yM
  go_upto_region 29 with fail
  try simp only [Act.put]
  refine pl_begin ?_
  refine pl_t 78 (?_) (by rfl) ?_ rfl ?_
  rotate_left
  ·go_simp
   try with_reducible rfl
  simp only [nz]
  refine pl_t 79 (.agg #[.bool m.q, m.rs.val]) (by rfl) (ex_mid rfl rfl yb Tryz.underlying24 rfl iszBa) rfl ?_
  simp only [nz]
  refine pl_t 80 (?_) (by rfl) ?_ rfl ?_
  rotate_left
  ·go_simp
   try with_reducible rfl
  simp only [nz]
  refine pl_store (w' := w7.setCells X 4 [.bool m.q, m.rs.val]) (by rfl) (ex_put (cs := #[.bool m.q, m.rs.val]) rfl rfl rfl (there_part1 on.thX (by simp)) iszBa (bat_all _ _)) rfl ?_
  refine pl_nil ?_
  have f1 := on.b m.q m.rs
  have f1Vy := World.rangeAt_setCells_apart w7y X 4 [.bool m.q, m.rs.val] (.inl hYX)
  have f1Va : m.At (w7.setCells X 4 [.bool m.q, m.rs.val]) := w7a.put hbX
  obtain ⟨f1V, hf1⟩ : ∃ W, w7.setCells X 4 [.bool m.q, m.rs.val] = W := ⟨_, rfl⟩
  rw [hf1] at f1 f1Vy f1Va ⊢
  clear hf1 yk yb yc yt yg on w7y w7a
  have yM := hat f1Vy
  obtain ⟨yk, yb, yc, yt, yg⟩ := yM
  go_upto_region 30 with fail
  try simp only [Act.put]
  refine pl_begin ?_
  refine pl_t 81 (?_) (by rfl) ?_ rfl ?_
  rotate_left
  ·go_simp
   try with_reducible rfl
  simp only [nz]
  refine pl_t 82 (.agg (certL m.ct m.cs).toArray) (by rfl) (ex_mid rfl rfl yc Tryz.underlying31 rfl hic) rfl ?_
  simp only [nz]
  refine pl_t 83 (?_) (by rfl) ?_ rfl ?_
  rotate_left
  ·go_simp
   try with_reducible rfl
  simp only [nz]
  refine pl_store (w' := f1V.setCells X 6 (certL m.ct m.cs)) (by rfl) (ex_put (cs := (certL m.ct m.cs).toArray) rfl rfl rfl (by simpa [cert_len hmo.ct] using there_part1 f1.thX (o := 6) (m := 37) (by decide)) (by simpa using hic) (all_one (cert_one _ _))) rfl ?_
  refine pl_nil ?_
  have f2 := f1.c m.ct hmo.ct m.cs
  have f2Vy := World.rangeAt_setCells_apart f1Vy X 6 (certL m.ct m.cs) (.inl hYX)
  have f2Va : m.At (f1V.setCells X 6 (certL m.ct m.cs)) := f1Va.put hbX
  obtain ⟨f2V, hf2⟩ : ∃ W, f1V.setCells X 6 (certL m.ct m.cs) = W := ⟨_, rfl⟩
  rw [hf2] at f2 f2Vy f2Va ⊢
  clear hf2 yk yb yc yt yg f1 f1Vy f1Va
  have yM := hat f2Vy
  obtain ⟨yk, yb, yc, yt, yg⟩ := yM
  go_upto_region 31 with fail
  try simp only [Act.put]
  refine pl_begin ?_
  refine pl_t 84 (?_) (by rfl) ?_ rfl ?_
  rotate_left
  ·go_simp
   try with_reducible rfl
  simp only [nz]
  refine pl_t 85 (.string m.st) (by rfl) (pl_one rfl rfl yt Tryz.underlying9 rfl) rfl ?_
  simp only [nz]
  refine pl_t 86 (?_) (by rfl) ?_ rfl ?_
  rotate_left
  ·go_simp
   try with_reducible rfl
  simp only [nz]
  refine pl_store (w' := f2V.setCells X 43 [.string m.st]) (by rfl) (ex_put1 (n := 45) rfl rfl rfl f2.thX (by decide) iszStr rfl rfl) rfl ?_
  refine pl_nil ?_
  have f3 := f2.t m.st
  have f3Vy := World.rangeAt_setCells_apart f2Vy X 43 [.string m.st] (.inl hYX)
  have f3Va : m.At (f2V.setCells X 43 [.string m.st]) := f2Va.put hbX
  obtain ⟨f3V, hf3⟩ : ∃ W, f2V.setCells X 43 [.string m.st] = W := ⟨_, rfl⟩
  rw [hf3] at f3 f3Vy f3Va ⊢
  clear hf3 yk yb yc yt yg f2 f2Vy f2Va
  have yM := hat f3Vy
  obtain ⟨yk, yb, yc, yt, yg⟩ := yM
  go_upto_region 32 with fail
  try simp only [Act.put]
  refine pl_begin ?_
  refine pl_t 87 (?_) (by rfl) ?_ rfl ?_
  rotate_left
  ·go_simp
   try with_reducible rfl
  simp only [nz]
  refine pl_t 88 (m.sg.val) (by rfl) (pl_one rfl rfl yg Tryz.underlying29 rfl) rfl ?_
  simp only [nz]
  refine pl_t 89 (?_) (by rfl) ?_ rfl ?_
  rotate_left
  ·go_simp
   try with_reducible rfl
  simp only [nz]
  refine pl_store (w' := f3V.setCells X 44 [m.sg.val]) (by rfl) (ex_put1 (n := 45) rfl rfl rfl f3.thX (by decide) iszSgs rfl rfl) rfl ?_
  refine pl_nil ?_
  have f4 := f3.g m.sg
  have f4Vy := World.rangeAt_setCells_apart f3Vy X 44 [m.sg.val] (.inl hYX)
  have f4Va : m.At (f3V.setCells X 44 [m.sg.val]) := f3Va.put hbX
  obtain ⟨f4V, hf4⟩ : ∃ W, f3V.setCells X 44 [m.sg.val] = W := ⟨_, rfl⟩
  rw [hf4] at f4 f4Vy f4Va ⊢
  clear hf4 yk yb yc yt yg f3 f3Vy f3Va
  obtain ⟨G, hG⟩ : ∃ G : Rc, G = ⟨k, 0, 0, 0, m.q, m.rs, m.ct, m.cs, m.st, m.sg⟩ := ⟨_, rfl⟩
  have on : KX D W2 R X G SS f4V := by rw [hG]; rw [hC] at f4; exact f4
  have HC2 : Hid (G.pure = ⟨k, 0, 0, 0, m.q, m.rs.xs, m.ct, m.cs.xs, m.st, m.sg.xs⟩ ∧ G.At f4V ∧ G.Bk (fun b => w.heap.size < b)) := hide (by rw [hG]; exact ⟨rfl, ⟨f4Va.rs, f4Va.cs, f4Va.sg⟩, hbA⟩)
  clear f4 hG f4Vy f4Va
  have hTZ : f4V.there A 0 45 := there_blk hTA (on.gb.block A hA2 hAR)
  have hBZ : Below w.heap.size w f4V := kx_low hB2 on.gb hRw hw2
  obtain ⟨qc, hqc⟩ : ∃ q, Hid (G.cells = q) := ⟨_, hide rfl⟩
  have hql : G.cells.length = 45 := Rc.len on.ok
  have hq1 := Rc.one G
  have ho := on.own
  have hco := on.ok
  simp only [hqc.out] at hql hq1 ho
  have hiq : (Tryz.prog.info? 33).map (·.size) = some qc.length := by rw [hql]; exact iszRc
  go_upto_region 33 with fail
  try simp only [Act.put]
  refine pl_begin ?_
  refine pl_t 90 (.agg qc.toArray) (by rfl) (ex_mid rfl rfl ho Tryz.underlying33 rfl hiq) rfl ?_
  simp only [nz]
  refine pl_store (w' := f4V.setCells A 0 qc) (by rfl) (ex_put (cs := qc.toArray) rfl rfl rfl (by simpa [hql] using hTZ) (by simpa using hiq) (all_one hq1)) rfl ?_
  refine pl_t 3 (?_) (by rfl) ?_ rfl ?_
  rotate_left
  ·go_simp
   try with_reducible rfl
  simp only [nz]
  refine pl_nil ?_
  have hrs := run_loadVar_mid (P := Tryz.prog) (f4V.setCells A 0 qc) A 0 33 qc _ (World.rangeAt_setCells_same f4V A 0 qc (by rw [hql]; exact hTZ)) Tryz.underlying33 rfl (by rw [hql]; exact iszRc)
  have HF : Hid (DecK w PP (.returned (.tuple #[.agg qc.toArray, .int .i64 0])) (f4V.setCells A 0 qc)) := hide (by
   rw [HP.out]
   exact deck_out (c := G) hqc.out HAw.out hBZ rfl HC2.out.1 hco HC2.out.2.1 HC2.out.2.2)
  clear hBZ hTZ on ho
  go_wp2_with fail
  refine bodyPost_ret (results_ct rfl _ _ _ rfl hrs) rfl ?_
  exact HF.out
 ·have HP : PP = kfin (krT k s1) := by rw [HP0.out, if_neg (by omega), if_neg (by omega), if_pos (by omega)]
  clear HP0 cN
  unfold krT at HP
  have c2 := fun w0 h0 => xtextS D R 4194304 s1 w0 h0
  have htx : (xtxS 4194304 s1).1.size ≤ 40000 := by
   show (strOf (textS s1.1 s1.2 4194304).1).size ≤ _
   rw [strOf_size]
   exact Nat.le_trans (textS_tl _ _ _) l1
  generalize xtxS 4194304 s1 = p at c2 HP htx
  obtain ⟨tx, SS⟩ := p
  simp only at c2 HP htx
  have HPP := hide HP
  clear HP
  have m1 : (k == 1) = false := by rw [beq_eq_false_iff_ne]; omega
  have m3 : (k == 3) = false := by rw [beq_eq_false_iff_ne]; omega
  have m2 : (k == 2) = false := by first | (rw [beq_eq_false_iff_ne]; omega) | (rw [beq_iff_eq]; omega)
  have m4 : (k == 4) = false := by first | (rw [beq_eq_false_iff_ne]; omega) | (rw [beq_iff_eq]; omega)
  have m5 : (k == 5) = true := by first | (rw [beq_eq_false_iff_ne]; omega) | (rw [beq_iff_eq]; omega)
  go_upto_region 5 with fail
  try simp only [Act.put]
  refine pl_begin ?_
  refine pl_t 18 (.bool false) (by rfl) (by go_simp <;> (try simp [*])) rfl ?_
  simp only [nz]
  refine pl_t 17 (?_) (by rfl) ?_ rfl ?_
  rotate_left
  ·go_simp
   try with_reducible rfl
  simp only [nz]
  refine pl_nil ?_
  go_upto_region 9 with fail
  try simp only [Act.put]
  refine pl_begin ?_
  refine pl_t 29 (.bool false) (by rfl) (by go_simp <;> (try simp [*])) rfl ?_
  simp only [nz]
  refine pl_t 28 (?_) (by rfl) ?_ rfl ?_
  rotate_left
  ·go_simp
   try with_reducible rfl
  simp only [nz]
  refine pl_nil ?_
  go_upto_region 12 with fail
  try simp only [Act.put]
  refine pl_begin ?_
  refine pl_t 37 (.bool false) (by rfl) (by go_simp <;> (try simp [*])) rfl ?_
  simp only [nz]
  refine pl_t 36 (?_) (by rfl) ?_ rfl ?_
  rotate_left
  ·go_simp
   try with_reducible rfl
  simp only [nz]
  refine pl_nil ?_
  go_upto_region 13 with fail
  try simp only [Act.put]
  refine pl_begin ?_
  refine pl_t 38 (.bool false) (by rfl) (by go_simp <;> (try simp [*])) rfl ?_
  simp only [nz]
  refine pl_t 36 (?_) (by rfl) ?_ rfl ?_
  rotate_left
  ·go_simp
   try with_reducible rfl
  simp only [nz]
  refine pl_nil ?_
  go_upto_region 14 with fail
  try simp only [Act.put]
  refine pl_begin ?_
  refine pl_t 39 (.bool true) (by rfl) (by go_simp <;> (try simp [*])) rfl ?_
  simp only [nz]
  refine pl_t 36 (?_) (by rfl) ?_ rfl ?_
  rotate_left
  ·go_simp
   try with_reducible rfl
  simp only [nz]
  refine pl_nil ?_
  clear m1 m2 m3 m4 m5
  go_upto_region 15 with fail
  try simp only [Act.put]
  refine pl_begin ?_
  refine pl_t 40 (?_) (by rfl) ?_ rfl ?_
  rotate_left
  ·go_simp
   try with_reducible rfl
  simp only [nz]
  refine pl_call (d := some 41) (by rfl) (by go_simp; first | done | exact ⟨rfl, rfl⟩ | with_reducible rfl) rfl ?_
  refine (c2 w4 on.st).mono ?_
  rintro _ o2W ⟨rfl, hs9, hg9⟩
  replace on := on.on _ hs9 hg9
  clear hs9 hg9 c2
  refine ⟨_, rfl, ?_⟩
  simp only [nz]
  refine pl_t 6 (?_) (by rfl) ?_ rfl ?_
  rotate_left
  ·go_simp
   try with_reducible rfl
  simp only [nz]
  refine pl_nil ?_
  obtain ⟨C, hC⟩ : ∃ C : Rc, C = Rc.zero k := ⟨_, rfl⟩
  rw [← hC] at on
  have hCk : C.k = k := by rw [hC]; rfl
  obtain ⟨d, hd⟩ : ∃ d, doneE SS.1 SS.2 = d := ⟨_, rfl⟩
  have cD := xdoneS D R SS o2W on.st
  rw [hd] at cD
  go_upto_region 16 with fail
  try simp only [Act.put]
  refine pl_begin ?_
  refine pl_t 42 (?_) (by rfl) ?_ rfl ?_
  rotate_left
  ·go_simp
   try with_reducible rfl
  simp only [nz]
  refine pl_call (d := some 43) (by rfl) (by go_simp; first | done | exact ⟨rfl, rfl⟩ | with_reducible rfl) rfl ?_
  refine (cD).mono ?_
  rintro _ w5 ⟨rfl, hb5⟩
  refine ⟨_, rfl, ?_⟩
  simp only [nz]
  refine pl_t 7 (?_) (by rfl) ?_ rfl ?_
  rotate_left
  ·go_simp
   try with_reducible rfl
  simp only [nz]
  refine pl_nil ?_
  replace on := on.below hb5
  clear cD hb5
  go_upto_region 17 with fail
  by_cases hd0 : d = 0
  rotate_left
  ·have hdb : (d != 0) = true := by simpa using hd0
   have HP : Hid (PP = (Rp.zero 0, d)) := hide (by rw [HPP.out]; exact kfin_bad hd hd0)
   clear HPP hd hd0
   try simp only [Act.put]
   refine pl_begin ?_
   refine pl_t 44 (?_) (by rfl) ?_ rfl ?_
   rotate_left
   ·go_simp
    try with_reducible rfl
   simp only [nz]
   refine pl_t 45 (.bool true) (by rfl) (by go_simp <;> (try simp [*])) rfl ?_
   simp only [nz]
   refine pl_nil ?_
   have hTZ : w5.there A 0 45 := there_blk hTA (on.gb.block A hA2 hAR)
   have hBZ : Below w.heap.size w w5 := kx_low hB2 on.gb hRw hw2
   go_upto_region 18 with fail
   try simp only [Act.put]
   refine pl_begin ?_
   refine pl_t 46 (.agg zc.toArray) (by rfl) (ex_build (parts := []) rfl rfl (hbn _)) rfl ?_
   simp only [nz]
   refine pl_t 47 (?_) (by rfl) ?_ rfl ?_
   rotate_left
   ·go_simp
    try with_reducible rfl
   simp only [nz]
   refine pl_store (w' := w5.setCells A 0 zc) (by rfl) (ex_put (cs := zc.toArray) rfl rfl rfl (by simpa [hzl] using hTZ) (by simpa [hzl] using iszRc) (all_one hz1)) rfl ?_
   refine pl_t 3 (?_) (by rfl) ?_ rfl ?_
   rotate_left
   ·go_simp
    try with_reducible rfl
   simp only [nz]
   refine pl_nil ?_
   have hrs := run_loadVar_mid (P := Tryz.prog) (w5.setCells A 0 zc) A 0 33 zc _ (World.rangeAt_setCells_same w5 A 0 zc (by rw [hzl]; exact hTZ)) Tryz.underlying33 rfl (by rw [hzl]; exact iszRc)
   have HF : Hid (DecK w PP (.returned (.tuple #[.agg zc.toArray, .int .i64 d])) (w5.setCells A 0 zc)) := hide (by
    rw [HP.out]
    exact deck_out (c := Rc.zero 0) hz0.out.symm HAw.out hBZ rfl rfl Vt.zero_ok (Rc.zero_at _ _) ⟨nil_bk, nil_bk, nil_bk⟩)
   clear hBZ hTZ on
   go_wp2_with fail
   refine bodyPost_ret (results_ct rfl _ _ _ rfl hrs) rfl ?_
   exact HF.out
  subst hd0
  try simp only [Act.put]
  refine pl_begin ?_
  refine pl_t 44 (?_) (by rfl) ?_ rfl ?_
  rotate_left
  ·go_simp
   try with_reducible rfl
  simp only [nz]
  refine pl_t 45 (.bool false) (by rfl) (by go_simp) rfl ?_
  simp only [nz]
  refine pl_nil ?_
  have HP1 : Hid (PP = ofT k (strL tx)) := hide (by rw [HPP.out]; exact kfin_of hd (by show ¬ (k = 1 ∨ k = 3); omega))
  clear HPP hd
  have n1 : (k == 1) = false := by rw [beq_eq_false_iff_ne]; omega
  have n3 : (k == 3) = false := by rw [beq_eq_false_iff_ne]; omega
  have n0 : (k == 0) = false := by rw [beq_eq_false_iff_ne]; omega
  have n5 : (k == 5) = true := by first | (rw [beq_eq_false_iff_ne]; omega) | (rw [beq_iff_eq]; omega)
  have hmk : mkK k = 8 := by unfold mkK; repeat (first | rw [if_neg (by omega)] | rw [if_pos (by omega)])
  have k5 : w5.cell? ⟨X, 0, none⟩ = some (.int .i64 k) := by rw [← hCk]; exact on.own 0 _ rfl
  go_upto_region 19 with fail
  try simp only [Act.put]
  refine pl_begin ?_
  refine pl_t 48 (?_) (by rfl) ?_ rfl ?_
  rotate_left
  ·go_simp
   try with_reducible rfl
  simp only [nz]
  refine pl_t 49 (.int .i64 k) (by rfl) (pl_one rfl rfl k5 Tryz.underlying3 rfl) rfl ?_
  simp only [nz]
  refine pl_t 50 (.bool false) (by rfl) (by go_simp <;> (try simp [*])) rfl ?_
  simp only [nz]
  refine pl_nil ?_
  go_upto_region 21 with fail
  try simp only [Act.put]
  refine pl_begin ?_
  refine pl_t 52 (?_) (by rfl) ?_ rfl ?_
  rotate_left
  ·go_simp
   try with_reducible rfl
  simp only [nz]
  refine pl_t 53 (.int .i64 k) (by rfl) (pl_one rfl rfl k5 Tryz.underlying3 rfl) rfl ?_
  simp only [nz]
  refine pl_t 54 (.bool false) (by rfl) (by go_simp <;> (try simp [*])) rfl ?_
  simp only [nz]
  refine pl_t 55 (?_) (by rfl) ?_ rfl ?_
  rotate_left
  ·go_simp
   try with_reducible rfl
  simp only [nz]
  refine pl_t 56 (?_) (by rfl) ?_ rfl ?_
  rotate_left
  ·go_simp
   try with_reducible rfl
  simp only [nz]
  refine pl_t 57 (.int .i64 k) (by rfl) (pl_one rfl rfl k5 Tryz.underlying3 rfl) rfl ?_
  simp only [nz]
  refine pl_t 58 (.bool false) (by rfl) (by go_simp <;> (try simp [*])) rfl ?_
  simp only [nz]
  refine pl_t 59 (?_) (by rfl) ?_ rfl ?_
  rotate_left
  ·go_simp
   try with_reducible rfl
  simp only [nz]
  refine pl_nil ?_
  have HTX : Hid (ofT k (strL tx) = if (decX (strL tx)).2 = 0 ∧ (decX (strL tx)).1.k = 8 then (⟨k, 0, 0, 0, (decX (strL tx)).1.q, (decX (strL tx)).1.rs, (decX (strL tx)).1.ct, (decX (strL tx)).1.cs, (decX (strL tx)).1.st, (decX (strL tx)).1.sg⟩, 0) else (Rp.zero 0, 240)) := hide (by unfold ofT; rw [dec_same, hmk])
  rw [HTX.out] at HP1
  clear HTX hmk
  have cX := xdecode_any tx htx w5
  generalize decX (strL tx) = DD at cX HP1
  obtain ⟨mp, er⟩ := DD
  simp only at cX HP1
  go_upto_region 23 with fail
  try simp only [Act.put]
  refine pl_begin ?_
  refine pl_t 62 (?_) (by rfl) ?_ rfl ?_
  rotate_left
  ·go_simp
   try with_reducible rfl
  simp only [nz]
  refine pl_call (d := some 63) (by rfl) (by go_simp; first | done | exact ⟨rfl, rfl⟩ | with_reducible rfl) rfl ?_
  refine (cX).mono ?_
  rintro _ w6 ⟨m, rfl, hp, hmo, hAt, hBk, hb6⟩
  refine ⟨_, rfl, ?_⟩
  simp only [nz]
  have hmql := hmo.ms.len
  have hmq1 := hmo.ms.one
  have hmiq : (Tryz.prog.info? 63).map (·.size) = some m.ms.cells.length := by rw [hmql]; exact iszM
  refine pl_t 61 (?_) (by rfl) ?_ rfl ?_
  rotate_left
  ·go_simp
   try with_reducible rfl
  simp only [nz]
  refine pl_t 64 (?_) (by rfl) ?_ rfl ?_
  rotate_left
  ·go_simp
   try with_reducible rfl
  simp only [nz]
  refine pl_t 65 (?_) (by rfl) ?_ rfl ?_
  rotate_left
  ·go_simp
   try with_reducible rfl
  simp only [nz]
  refine pl_run (d := some 8) (v := .pointer (some ⟨w6.heap.size, 0, none⟩)) (w' := w6.alloc (.cells zm.toArray 63)) (by rfl) (ex_alloc rfl (hzmr _)) rfl ?_
  simp only [nz]
  refine pl_store (w' := (w6.alloc (.cells zm.toArray 63)).setCells w6.heap.size 0 m.ms.cells) (by rfl) (ex_put (cs := m.ms.cells.toArray) rfl rfl rfl (there_newN _ _ _ (by simp [hzml, hmql])) (by simpa using hmiq) (all_one hmq1)) rfl ?_
  refine pl_t 7 (?_) (by rfl) ?_ rfl ?_
  rotate_left
  ·go_simp
   try with_reducible rfl
  simp only [nz]
  refine pl_nil ?_
  obtain ⟨ry, hF2, hF3, -⟩ := fresh_store w6 zm.toArray 63 m.ms.cells (by simp [hzml, hmql])
  have lx5 := on.lx
  have lw5 := on.gb.size
  have z6 := hb6.size
  replace on := (on.below hb6).below hF2
  have hAt7 := hAt.below hF2
  obtain ⟨Y, hY⟩ : ∃ X, w6.heap.size = X := ⟨_, rfl⟩
  have hYX : Y ≠ X := by omega
  simp only [hY] at ry on hAt7 hF3 ⊢
  obtain ⟨w7, hw7⟩ : ∃ W, (w6.alloc (.cells zm.toArray 63)).setCells Y 0 m.ms.cells = W := ⟨_, rfl⟩
  simp only [hw7] at ry on hAt7 hF3 ⊢
  have hbX : m.Bk (fun b => X < b) := ⟨hBk.1.mono (fun b hb => by omega), hBk.2.1.mono (fun b hb => by omega), fun y hy => (hBk.2.2.1 y hy).mono (fun b hb => by omega), hBk.2.2.2.1.mono (fun b hb => by omega), hBk.2.2.2.2.1.mono (fun b hb => by omega), hBk.2.2.2.2.2.mono (fun b hb => by omega)⟩
  have hbA : m.rs.Bk (fun b => w.heap.size < b) ∧ m.cs.Bk (fun b => w.heap.size < b) ∧ m.sg.Bk (fun b => w.heap.size < b) := by
   have e := HAw.out
   exact ⟨hBk.1.mono (fun b hb => by omega), hBk.2.2.2.2.1.mono (fun b hb => by omega), hBk.2.2.2.2.2.mono (fun b hb => by omega)⟩
  have hat : ∀ {W : World}, W.rangeAt Y 0 m.ms.cells → W.cell? ⟨Y, 0, none⟩ = some (.int .i64 m.k) ∧ W.rangeAt Y 5 [.bool m.q, m.rs.val] ∧ W.rangeAt Y 80 (certL m.ct m.cs) ∧ W.cell? ⟨Y, 117, none⟩ = some (.string m.st) ∧ W.cell? ⟨Y, 118, none⟩ = some m.sg.val := fun hr => by
   have MA := hmo.ms.at hr
   exact ⟨MA.k, ms_bat MA, MA.ct, MA.st, MA.sg⟩
  have w7y := ry
  have w7a := hAt7
  have hpk : m.k = mp.k := congrArg Mp.k hp
  clear ry hF2 hF3 hw7 hY hb6 hAt hBk hmql hmq1 hmiq cX hAt7 k5
  go_upto_region 24 with fail
  try simp only [Act.put]
  refine pl_begin ?_
  refine pl_t 9 (?_) (by rfl) ?_ rfl ?_
  rotate_left
  ·go_simp
   try with_reducible rfl
  simp only [nz]
  refine pl_nil ?_
  have k7 : w7.cell? ⟨X, 0, none⟩ = some (.int .i64 k) := by rw [← hCk]; exact on.own 0 _ rfl
  go_upto_region 25 with fail
  try simp only [Act.put]
  refine pl_begin ?_
  refine pl_t 66 (?_) (by rfl) ?_ rfl ?_
  rotate_left
  ·go_simp
   try with_reducible rfl
  simp only [nz]
  refine pl_t 67 (.int .i64 k) (by rfl) (pl_one rfl rfl k7 Tryz.underlying3 rfl) rfl ?_
  simp only [nz]
  refine pl_t 68 (.bool true) (by rfl) (by go_simp <;> (try simp [*])) rfl ?_
  simp only [nz]
  refine pl_nil ?_
  clear k7
  go_upto_region 26 with fail
  try simp only [Act.put]
  refine pl_begin ?_
  refine pl_t 9 (?_) (by rfl) ?_ rfl ?_
  rotate_left
  ·go_simp
   try with_reducible rfl
  simp only [nz]
  refine pl_nil ?_
  obtain ⟨yk, -, -, -, -⟩ := hat w7y
  go_upto_region 27 with fail
  by_cases he : er = 0
  rotate_left
  ·have heb : (er != 0) = true := by simpa using he
   have HP : Hid (PP = (Rp.zero 0, 240)) := hide (by rw [HP1.out, if_neg (fun h => he h.1)])
   clear HP1 he
   try simp only [Act.put]
   refine pl_begin ?_
   refine pl_t 69 (?_) (by rfl) ?_ rfl ?_
   rotate_left
   ·go_simp
    try with_reducible rfl
   simp only [nz]
   refine pl_t 70 (.bool true) (by rfl) (by go_simp <;> (try simp [*])) rfl ?_
   simp only [nz]
   refine pl_t 71 (?_) (by rfl) ?_ rfl ?_
   rotate_left
   ·go_simp
    try with_reducible rfl
   simp only [nz]
   refine pl_skip (d := some 72) (by rfl) rfl ?_
   simp only [nz]
   refine pl_skip (d := some 73) (by rfl) rfl ?_
   simp only [nz]
   refine pl_skip (d := some 74) (by rfl) rfl ?_
   simp only [nz]
   refine pl_skip (d := some 75) (by rfl) rfl ?_
   simp only [nz]
   refine pl_t 76 (?_) (by rfl) ?_ rfl ?_
   rotate_left
   ·go_simp
    try with_reducible rfl
   simp only [nz]
   refine pl_nil ?_
   have hTZ : w7.there A 0 45 := there_blk hTA (on.gb.block A hA2 hAR)
   have hBZ : Below w.heap.size w w7 := kx_low hB2 on.gb hRw hw2
   go_upto_region 28 with fail
   try simp only [Act.put]
   refine pl_begin ?_
   refine pl_t 77 (.agg zc.toArray) (by rfl) (ex_build (parts := []) rfl rfl (hbn _)) rfl ?_
   simp only [nz]
   refine pl_store (w' := w7.setCells A 0 zc) (by rfl) (ex_put (cs := zc.toArray) rfl rfl rfl (by simpa [hzl] using hTZ) (by simpa [hzl] using iszRc) (all_one hz1)) rfl ?_
   refine pl_t 3 (?_) (by rfl) ?_ rfl ?_
   rotate_left
   ·go_simp
    try with_reducible rfl
   simp only [nz]
   refine pl_nil ?_
   have hrs := run_loadVar_mid (P := Tryz.prog) (w7.setCells A 0 zc) A 0 33 zc _ (World.rangeAt_setCells_same w7 A 0 zc (by rw [hzl]; exact hTZ)) Tryz.underlying33 rfl (by rw [hzl]; exact iszRc)
   have HF : Hid (DecK w PP (.returned (.tuple #[.agg zc.toArray, .int .i64 240])) (w7.setCells A 0 zc)) := hide (by
    rw [HP.out]
    exact deck_out (c := Rc.zero 0) hz0.out.symm HAw.out hBZ rfl rfl Vt.zero_ok (Rc.zero_at _ _) ⟨nil_bk, nil_bk, nil_bk⟩)
   clear hBZ hTZ on
   go_wp2_with fail
   refine bodyPost_ret (results_ct rfl _ _ _ rfl hrs) rfl ?_
   exact HF.out
  subst he
  by_cases hk : m.k = 8
  rotate_left
  ·have HP : Hid (PP = (Rp.zero 0, 240)) := hide (by rw [HP1.out, if_neg (fun h => hk (by rw [hpk]; exact h.2))])
   have hkb : (m.k != 8) = true := by simpa using hk
   clear HP1 hk hpk hp
   try simp only [Act.put]
   refine pl_begin ?_
   refine pl_t 69 (?_) (by rfl) ?_ rfl ?_
   rotate_left
   ·go_simp
    try with_reducible rfl
   simp only [nz]
   refine pl_t 70 (.bool false) (by rfl) (by go_simp) rfl ?_
   simp only [nz]
   refine pl_t 71 (?_) (by rfl) ?_ rfl ?_
   rotate_left
   ·go_simp
    try with_reducible rfl
   simp only [nz]
   refine pl_t 72 (?_) (by rfl) ?_ rfl ?_
   rotate_left
   ·go_simp
    try with_reducible rfl
   simp only [nz]
   refine pl_t 73 (.int .i64 m.k) (by rfl) (pl_one rfl rfl yk Tryz.underlying3 rfl) rfl ?_
   simp only [nz]
   refine pl_t 74 (?_) (by rfl) ?_ rfl ?_
   rotate_left
   ·go_simp
    try with_reducible rfl
   simp only [nz]
   refine pl_t 75 (.bool true) (by rfl) (by go_simp <;> (try simp [*])) rfl ?_
   simp only [nz]
   refine pl_t 76 (?_) (by rfl) ?_ rfl ?_
   rotate_left
   ·go_simp
    try with_reducible rfl
   simp only [nz]
   refine pl_nil ?_
   have hTZ : w7.there A 0 45 := there_blk hTA (on.gb.block A hA2 hAR)
   have hBZ : Below w.heap.size w w7 := kx_low hB2 on.gb hRw hw2
   go_upto_region 28 with fail
   try simp only [Act.put]
   refine pl_begin ?_
   refine pl_t 77 (.agg zc.toArray) (by rfl) (ex_build (parts := []) rfl rfl (hbn _)) rfl ?_
   simp only [nz]
   refine pl_store (w' := w7.setCells A 0 zc) (by rfl) (ex_put (cs := zc.toArray) rfl rfl rfl (by simpa [hzl] using hTZ) (by simpa [hzl] using iszRc) (all_one hz1)) rfl ?_
   refine pl_t 3 (?_) (by rfl) ?_ rfl ?_
   rotate_left
   ·go_simp
    try with_reducible rfl
   simp only [nz]
   refine pl_nil ?_
   have hrs := run_loadVar_mid (P := Tryz.prog) (w7.setCells A 0 zc) A 0 33 zc _ (World.rangeAt_setCells_same w7 A 0 zc (by rw [hzl]; exact hTZ)) Tryz.underlying33 rfl (by rw [hzl]; exact iszRc)
   have HF : Hid (DecK w PP (.returned (.tuple #[.agg zc.toArray, .int .i64 240])) (w7.setCells A 0 zc)) := hide (by
    rw [HP.out]
    exact deck_out (c := Rc.zero 0) hz0.out.symm HAw.out hBZ rfl rfl Vt.zero_ok (Rc.zero_at _ _) ⟨nil_bk, nil_bk, nil_bk⟩)
   clear hBZ hTZ on
   go_wp2_with fail
   refine bodyPost_ret (results_ct rfl _ _ _ rfl hrs) rfl ?_
   exact HF.out
  have HP : Hid (PP = (⟨k, 0, 0, 0, m.q, m.rs.xs, m.ct, m.cs.xs, m.st, m.sg.xs⟩, 0)) := hide (by rw [HP1.out, if_pos ⟨rfl, by rw [← hpk]; exact hk⟩, ← hp]; rfl)
  have hkb : (m.k != 8) = false := by simpa using hk
  have hic : (Tryz.prog.info? 31).map (·.size) = some (certL m.ct m.cs).length := by rw [cert_len hmo.ct]; exact iszCe
  clear HP1 hk hp hpk
  try simp only [Act.put]
  refine pl_begin ?_
  refine pl_t 69 (?_) (by rfl) ?_ rfl ?_
  rotate_left
  ·go_simp
   try with_reducible rfl
  simp only [nz]
  refine pl_t 70 (.bool false) (by rfl) (by go_simp) rfl ?_
  simp only [nz]
  refine pl_t 71 (?_) (by rfl) ?_ rfl ?_
  rotate_left
  ·go_simp
   try with_reducible rfl
  simp only [nz]
  refine pl_t 72 (?_) (by rfl) ?_ rfl ?_
  rotate_left
  ·go_simp
   try with_reducible rfl
  simp only [nz]
  refine pl_t 73 (.int .i64 m.k) (by rfl) (pl_one rfl rfl yk Tryz.underlying3 rfl) rfl ?_
  simp only [nz]
  refine pl_t 74 (?_) (by rfl) ?_ rfl ?_
  rotate_left
  ·go_simp
   try with_reducible rfl
  simp only [nz]
  refine pl_t 75 (.bool false) (by rfl) (by go_simp <;> (try simp [*])) rfl ?_
  simp only [nz]
  refine pl_t 76 (?_) (by rfl) ?_ rfl ?_
  rotate_left
  ·go_simp
   try with_reducible rfl
  simp only [nz]
  refine pl_nil ?_
  clear yk
  have yM := hat w7y
  obtain ⟨yk, yb, yc, yt, yg⟩ := yM
  go_upto_region 29 with fail
  try simp only [Act.put]
  refine pl_begin ?_
  refine pl_t 78 (?_) (by rfl) ?_ rfl ?_
  rotate_left
  ·go_simp
   try with_reducible rfl
  simp only [nz]
  refine pl_t 79 (.agg #[.bool m.q, m.rs.val]) (by rfl) (ex_mid rfl rfl yb Tryz.underlying24 rfl iszBa) rfl ?_
  simp only [nz]
  refine pl_t 80 (?_) (by rfl) ?_ rfl ?_
  rotate_left
  ·go_simp
   try with_reducible rfl
  simp only [nz]
  refine pl_store (w' := w7.setCells X 4 [.bool m.q, m.rs.val]) (by rfl) (ex_put (cs := #[.bool m.q, m.rs.val]) rfl rfl rfl (there_part1 on.thX (by simp)) iszBa (bat_all _ _)) rfl ?_
  refine pl_nil ?_
  have f1 := on.b m.q m.rs
  have f1Vy := World.rangeAt_setCells_apart w7y X 4 [.bool m.q, m.rs.val] (.inl hYX)
  have f1Va : m.At (w7.setCells X 4 [.bool m.q, m.rs.val]) := w7a.put hbX
  obtain ⟨f1V, hf1⟩ : ∃ W, w7.setCells X 4 [.bool m.q, m.rs.val] = W := ⟨_, rfl⟩
  rw [hf1] at f1 f1Vy f1Va ⊢
  clear hf1 yk yb yc yt yg on w7y w7a
  have yM := hat f1Vy
  obtain ⟨yk, yb, yc, yt, yg⟩ := yM
  go_upto_region 30 with fail
  try simp only [Act.put]
  refine pl_begin ?_
  refine pl_t 81 (?_) (by rfl) ?_ rfl ?_
  rotate_left
  ·go_simp
   try with_reducible rfl
  simp only [nz]
  refine pl_t 82 (.agg (certL m.ct m.cs).toArray) (by rfl) (ex_mid rfl rfl yc Tryz.underlying31 rfl hic) rfl ?_
  simp only [nz]
  refine pl_t 83 (?_) (by rfl) ?_ rfl ?_
  rotate_left
  ·go_simp
   try with_reducible rfl
  simp only [nz]
  refine pl_store (w' := f1V.setCells X 6 (certL m.ct m.cs)) (by rfl) (ex_put (cs := (certL m.ct m.cs).toArray) rfl rfl rfl (by simpa [cert_len hmo.ct] using there_part1 f1.thX (o := 6) (m := 37) (by decide)) (by simpa using hic) (all_one (cert_one _ _))) rfl ?_
  refine pl_nil ?_
  have f2 := f1.c m.ct hmo.ct m.cs
  have f2Vy := World.rangeAt_setCells_apart f1Vy X 6 (certL m.ct m.cs) (.inl hYX)
  have f2Va : m.At (f1V.setCells X 6 (certL m.ct m.cs)) := f1Va.put hbX
  obtain ⟨f2V, hf2⟩ : ∃ W, f1V.setCells X 6 (certL m.ct m.cs) = W := ⟨_, rfl⟩
  rw [hf2] at f2 f2Vy f2Va ⊢
  clear hf2 yk yb yc yt yg f1 f1Vy f1Va
  have yM := hat f2Vy
  obtain ⟨yk, yb, yc, yt, yg⟩ := yM
  go_upto_region 31 with fail
  try simp only [Act.put]
  refine pl_begin ?_
  refine pl_t 84 (?_) (by rfl) ?_ rfl ?_
  rotate_left
  ·go_simp
   try with_reducible rfl
  simp only [nz]
  refine pl_t 85 (.string m.st) (by rfl) (pl_one rfl rfl yt Tryz.underlying9 rfl) rfl ?_
  simp only [nz]
  refine pl_t 86 (?_) (by rfl) ?_ rfl ?_
  rotate_left
  ·go_simp
   try with_reducible rfl
  simp only [nz]
  refine pl_store (w' := f2V.setCells X 43 [.string m.st]) (by rfl) (ex_put1 (n := 45) rfl rfl rfl f2.thX (by decide) iszStr rfl rfl) rfl ?_
  refine pl_nil ?_
  have f3 := f2.t m.st
  have f3Vy := World.rangeAt_setCells_apart f2Vy X 43 [.string m.st] (.inl hYX)
  have f3Va : m.At (f2V.setCells X 43 [.string m.st]) := f2Va.put hbX
  obtain ⟨f3V, hf3⟩ : ∃ W, f2V.setCells X 43 [.string m.st] = W := ⟨_, rfl⟩
  rw [hf3] at f3 f3Vy f3Va ⊢
  clear hf3 yk yb yc yt yg f2 f2Vy f2Va
  have yM := hat f3Vy
  obtain ⟨yk, yb, yc, yt, yg⟩ := yM
  go_upto_region 32 with fail
  try simp only [Act.put]
  refine pl_begin ?_
  refine pl_t 87 (?_) (by rfl) ?_ rfl ?_
  rotate_left
  ·go_simp
   try with_reducible rfl
  simp only [nz]
  refine pl_t 88 (m.sg.val) (by rfl) (pl_one rfl rfl yg Tryz.underlying29 rfl) rfl ?_
  simp only [nz]
  refine pl_t 89 (?_) (by rfl) ?_ rfl ?_
  rotate_left
  ·go_simp
   try with_reducible rfl
  simp only [nz]
  refine pl_store (w' := f3V.setCells X 44 [m.sg.val]) (by rfl) (ex_put1 (n := 45) rfl rfl rfl f3.thX (by decide) iszSgs rfl rfl) rfl ?_
  refine pl_nil ?_
  have f4 := f3.g m.sg
  have f4Vy := World.rangeAt_setCells_apart f3Vy X 44 [m.sg.val] (.inl hYX)
  have f4Va : m.At (f3V.setCells X 44 [m.sg.val]) := f3Va.put hbX
  obtain ⟨f4V, hf4⟩ : ∃ W, f3V.setCells X 44 [m.sg.val] = W := ⟨_, rfl⟩
  rw [hf4] at f4 f4Vy f4Va ⊢
  clear hf4 yk yb yc yt yg f3 f3Vy f3Va
  obtain ⟨G, hG⟩ : ∃ G : Rc, G = ⟨k, 0, 0, 0, m.q, m.rs, m.ct, m.cs, m.st, m.sg⟩ := ⟨_, rfl⟩
  have on : KX D W2 R X G SS f4V := by rw [hG]; rw [hC] at f4; exact f4
  have HC2 : Hid (G.pure = ⟨k, 0, 0, 0, m.q, m.rs.xs, m.ct, m.cs.xs, m.st, m.sg.xs⟩ ∧ G.At f4V ∧ G.Bk (fun b => w.heap.size < b)) := hide (by rw [hG]; exact ⟨rfl, ⟨f4Va.rs, f4Va.cs, f4Va.sg⟩, hbA⟩)
  clear f4 hG f4Vy f4Va
  have hTZ : f4V.there A 0 45 := there_blk hTA (on.gb.block A hA2 hAR)
  have hBZ : Below w.heap.size w f4V := kx_low hB2 on.gb hRw hw2
  obtain ⟨qc, hqc⟩ : ∃ q, Hid (G.cells = q) := ⟨_, hide rfl⟩
  have hql : G.cells.length = 45 := Rc.len on.ok
  have hq1 := Rc.one G
  have ho := on.own
  have hco := on.ok
  simp only [hqc.out] at hql hq1 ho
  have hiq : (Tryz.prog.info? 33).map (·.size) = some qc.length := by rw [hql]; exact iszRc
  go_upto_region 33 with fail
  try simp only [Act.put]
  refine pl_begin ?_
  refine pl_t 90 (.agg qc.toArray) (by rfl) (ex_mid rfl rfl ho Tryz.underlying33 rfl hiq) rfl ?_
  simp only [nz]
  refine pl_store (w' := f4V.setCells A 0 qc) (by rfl) (ex_put (cs := qc.toArray) rfl rfl rfl (by simpa [hql] using hTZ) (by simpa using hiq) (all_one hq1)) rfl ?_
  refine pl_t 3 (?_) (by rfl) ?_ rfl ?_
  rotate_left
  ·go_simp
   try with_reducible rfl
  simp only [nz]
  refine pl_nil ?_
  have hrs := run_loadVar_mid (P := Tryz.prog) (f4V.setCells A 0 qc) A 0 33 qc _ (World.rangeAt_setCells_same f4V A 0 qc (by rw [hql]; exact hTZ)) Tryz.underlying33 rfl (by rw [hql]; exact iszRc)
  have HF : Hid (DecK w PP (.returned (.tuple #[.agg qc.toArray, .int .i64 0])) (f4V.setCells A 0 qc)) := hide (by
   rw [HP.out]
   exact deck_out (c := G) hqc.out HAw.out hBZ rfl HC2.out.1 hco HC2.out.2.1 HC2.out.2.2)
  clear hBZ hTZ on ho
  go_wp2_with fail
  refine bodyPost_ret (results_ct rfl _ _ _ rfl hrs) rfl ?_
  exact HF.out
end Go.Proofs.YtinndbipomlokaaGreat
