/- the reader's votes; batch.Get and request.Get; the reader's lists -/
import Derived.Test.YtilbjeeabecfjaaGreatJB0
import Derived.Test.YtilbjeeabecfjaaGreatJB3
import Derived.Laws.MakeOwn
namespace Go.Proofs.YtilbjeeabecfjaaGreat
open Go.RowKit
open Sha Tal
set_option linter.unusedVariables false
set_option linter.unusedSimpArgs false
theorem Kept.blk {w W : World} {R Q b : Nat} (h : Kept w R Q W) (hb : b < w.heap.size) (h1 : b ≠ R) (h2 : b ≠ Q) : W.heap[b]? = w.heap[b]? := h.block b hb h1 h2
theorem range_blk {w w' : World} {b o : Nat} {cs : List Value} (h : w.rangeAt b o cs) (hb : w'.heap[b]? = w.heap[b]?) : w'.rangeAt b o cs := fun j v hv => by
 rw [(@cell_block w w' b (o + j) hb).1]
 exact h j v hv
structure VS (w : World) (Q R A B n : Nat) (q : List Value) (z : Bool) (W : World) : Prop where
 row : W.rangeAt B 0 q
 box : W.there B 0 n
 ans : W.there A 0 n
 kept : Kept w R Q W
 mr : MrAt W Q R z
 qt : W.there Q 0 2
 la : A < W.heap.size
 lb : B < W.heap.size
 na : w.heap.size ≤ A
 nb : w.heap.size ≤ B
 ne : A ≠ B
 rq : R < w.heap.size ∧ Q < w.heap.size
theorem VS.on {w W W' : World} {Q R A B n : Nat} {q : List Value} {z z' : Bool} (h : VS w Q R A B n q z W) (k : Kept W R Q W') (m : MrAt W' Q R z') (t : W'.there Q 0 2) : VS w Q R A B n q z' W' := by
 have h1 := h.na
 have h2 := h.nb
 have h3 := h.rq
 exact ⟨range_blk h.row (k.blk h.lb (by omega) (by omega)), there_blk h.box (k.blk h.lb (by omega) (by omega)), there_blk h.ans (k.blk h.la (by omega) (by omega)), h.kept.trans k, m, t, Nat.lt_of_lt_of_le h.la k.size, Nat.lt_of_lt_of_le h.lb k.size, h1, h2, h.ne, h3⟩
theorem VS.gb {w W W' : World} {Q R A B n : Nat} {q : List Value} {z : Bool} (h : VS w Q R A B n q z W) (g : W.grownBy W' (some R)) : VS w Q R A B n q z W' :=
 h.on (Kept.of g) (h.mr.gb g) (there_gbR h.qt g h.mr.lt (by have := h.mr.ne; omega))
theorem VS.set {w W : World} {Q R A B n : Nat} {q q' : List Value} {z : Bool} (h : VS w Q R A B n q z W) (o : Nat) (vs : List Value) (hq : (W.setCells B o vs).rangeAt B 0 q') : VS w Q R A B n q' z (W.setCells B o vs) := by
 have h1 := h.na
 have h2 := h.nb
 have h3 := h.rq
 exact ⟨hq, World.there_setCells h.box _ _ _, World.there_setCells h.ans _ _ _, h.kept.newSets h2 _ _, h.mr.at (blk_sets (by omega)) (by rw [size_sets]; exact Nat.le_refl _), World.there_setCells h.qt _ _ _, by rw [size_sets]; exact h.la, by rw [size_sets]; exact h.lb, h1, h2, h.ne, h3⟩
theorem VS.drew {w W : World} {Q R A B n : Nat} {q : List Value} {z : Bool} (h : VS w Q R A B n q z W) : VS w Q R A B n q z W.drew :=
 ⟨(World.rangeAt_drew _ _ _ _).2 h.row, h.box, h.ans, h.kept.below ((Below.refl _ _).drew), h.mr.below ((Below.refl _ _).drew), h.qt, h.la, h.lb, h.na, h.nb, h.ne, h.rq⟩
theorem VS.st {w W : World} {Q R A B n o : Nat} {q vs rest : List Value} {z : Bool} {zs : List Int} {e : Int} (h : VS w Q R A B n q z W) (hs : St W R zs e) : St (W.setCells B o vs) R zs e :=
 hs.gb (gb_setsR W B vs o) (by have := h.nb; have := h.rq; omega)
def vtS (rest : List Int) (e : Int) : Vt × List Int × Int :=
 let x0 := numS rest e 2
 let x1 := numS x0.2.1 x0.2.2 1048576
 let x2 := numS x1.2.1 x1.2.2 1099511627776
 let x3 := numS x2.2.1 x2.2.2 1099511627776
 let x4 := rawS x3.2.1 x3.2.2 32
 (⟨x0.1, x1.1, x2.1, x3.1, padN 32 x4.1⟩, x4.2.1, x4.2.2)
theorem vtS_len (rest : List Int) (e : Int) : (vtS rest e).2.1.length ≤ rest.length := Nat.le_trans (rawS_len _ _ _) (Nat.le_trans (numS_len _ _ _) (Nat.le_trans (numS_len _ _ _) (Nat.le_trans (numS_len _ _ _) (numS_len _ _ _))))
theorem vt_put {W : World} {B : Nat} {a b c d : Value} {t : List Value} (h : W.rangeAt B 0 (a :: b :: c :: d :: t)) (x : Value) :
  (W.setCells B 0 [x]).rangeAt B 0 (x :: b :: c :: d :: t) ∧ (W.setCells B 1 [x]).rangeAt B 0 (a :: x :: c :: d :: t) ∧ (W.setCells B 2 [x]).rangeAt B 0 (a :: b :: x :: d :: t) ∧ (W.setCells B 3 [x]).rangeAt B 0 (a :: b :: c :: x :: t) := by
 have k0 := range_set h 0 x
 have k1 := range_set h 1 x
 have k2 := range_set h 2 x
 have k3 := range_set h 3 x
 exact ⟨k0, k1, k2, k3⟩
theorem zeroVt : ∃ z : List Value, (∀ w : World, (zeroValue 101).run Tryz.prog w = .ok (.agg z.toArray) w) ∧ z.length = 36 ∧ ∃ t, t.length = 32 ∧ z = .int .i64 0 :: .int .i64 0 :: .int .i64 0 :: .int .i64 0 :: t := ⟨Vt.zero.cells, fun w => by kernel_rfl, by decide, _, by decide, rfl⟩
theorem range_tail4 {W : World} {B : Nat} {a b c d : Value} {t dv : List Value} (h : W.rangeAt B 0 (a :: b :: c :: d :: t)) (hT : W.there B 4 dv.length) : (W.setCells B 4 dv).rangeAt B 0 (a :: b :: c :: d :: dv) := by
 have h1 : W.rangeAt B 0 ([a, b, c, d] ++ t) := h
 have k1 := World.rangeAt_setCells_apart (range_left h1) B 4 dv (.inr (.inl (by simp)))
 have k2 := World.rangeAt_setCells_same W B 4 dv hT
 exact range_join (cs := [a, b, c, d]) k1 k2
set_option maxRecDepth 100000 in
set_option maxHeartbeats 1000000 in
theorem rvote_any (Q R : Nat) (z : Bool) (rest : List Int) (e : Int) (w : World) (h : St w R rest e) (hq : MrAt w Q R z) (thQ : w.there Q 0 2) (hl : rest.length ≤ 40000) : Calls Tryz.prog 62 #[.pointer (some ⟨Q, 0, none⟩)] w fun en w' => en = .returned (.agg (vtS rest e).1.cells.toArray) ∧ St w' R (vtS rest e).2.1 (vtS rest e).2.2 ∧ MrAt w' Q R (kdZ rest e 2 z) ∧ Kept w R Q w' ∧ w'.there Q 0 2 := by
 obtain ⟨zc, hzr, hzl, tz, htl, hzc⟩ := zeroVt
 have hRw := h.1.1
 have hQw := hq.lt
 obtain ⟨z1, hz1⟩ : ∃ x, kdZ rest e 2 z = x := ⟨_, rfl⟩
 have ck := fun w0 h0 m0 t0 => rkind_any Q R z rest e 2 w0 h0 m0 t0
 have l0 := numS_len rest e 2
 simp only [hz1] at ck ⊢
 clear hz1
 show Calls Tryz.prog 62 _ w fun en w' => en = .returned (.agg (Vt.cells ⟨(numS rest e 2).1, (numS (numS rest e 2).2.1 (numS rest e 2).2.2 1048576).1, (numS (numS (numS rest e 2).2.1 (numS rest e 2).2.2 1048576).2.1 (numS (numS rest e 2).2.1 (numS rest e 2).2.2 1048576).2.2 1099511627776).1, (numS (numS (numS (numS rest e 2).2.1 (numS rest e 2).2.2 1048576).2.1 (numS (numS rest e 2).2.1 (numS rest e 2).2.2 1048576).2.2 1099511627776).2.1 (numS (numS (numS rest e 2).2.1 (numS rest e 2).2.2 1048576).2.1 (numS (numS rest e 2).2.1 (numS rest e 2).2.2 1048576).2.2 1099511627776).2.2 1099511627776).1, padN 32 (rawS (numS (numS (numS (numS rest e 2).2.1 (numS rest e 2).2.2 1048576).2.1 (numS (numS rest e 2).2.1 (numS rest e 2).2.2 1048576).2.2 1099511627776).2.1 (numS (numS (numS rest e 2).2.1 (numS rest e 2).2.2 1048576).2.1 (numS (numS rest e 2).2.1 (numS rest e 2).2.2 1048576).2.2 1099511627776).2.2 1099511627776).2.1 (numS (numS (numS (numS rest e 2).2.1 (numS rest e 2).2.2 1048576).2.1 (numS (numS rest e 2).2.1 (numS rest e 2).2.2 1048576).2.2 1099511627776).2.1 (numS (numS (numS rest e 2).2.1 (numS rest e 2).2.2 1048576).2.1 (numS (numS rest e 2).2.1 (numS rest e 2).2.2 1048576).2.2 1099511627776).2.2 1099511627776).2.2 32).1⟩).toArray) ∧ St w' R (rawS (numS (numS (numS (numS rest e 2).2.1 (numS rest e 2).2.2 1048576).2.1 (numS (numS rest e 2).2.1 (numS rest e 2).2.2 1048576).2.2 1099511627776).2.1 (numS (numS (numS rest e 2).2.1 (numS rest e 2).2.2 1048576).2.1 (numS (numS rest e 2).2.1 (numS rest e 2).2.2 1048576).2.2 1099511627776).2.2 1099511627776).2.1 (numS (numS (numS (numS rest e 2).2.1 (numS rest e 2).2.2 1048576).2.1 (numS (numS rest e 2).2.1 (numS rest e 2).2.2 1048576).2.2 1099511627776).2.1 (numS (numS (numS rest e 2).2.1 (numS rest e 2).2.2 1048576).2.1 (numS (numS rest e 2).2.1 (numS rest e 2).2.2 1048576).2.2 1099511627776).2.2 1099511627776).2.2 32).2.1 (rawS (numS (numS (numS (numS rest e 2).2.1 (numS rest e 2).2.2 1048576).2.1 (numS (numS rest e 2).2.1 (numS rest e 2).2.2 1048576).2.2 1099511627776).2.1 (numS (numS (numS rest e 2).2.1 (numS rest e 2).2.2 1048576).2.1 (numS (numS rest e 2).2.1 (numS rest e 2).2.2 1048576).2.2 1099511627776).2.2 1099511627776).2.1 (numS (numS (numS (numS rest e 2).2.1 (numS rest e 2).2.2 1048576).2.1 (numS (numS rest e 2).2.1 (numS rest e 2).2.2 1048576).2.2 1099511627776).2.1 (numS (numS (numS rest e 2).2.1 (numS rest e 2).2.2 1048576).2.1 (numS (numS rest e 2).2.1 (numS rest e 2).2.2 1048576).2.2 1099511627776).2.2 1099511627776).2.2 32).2.2 ∧ MrAt w' Q R z1 ∧ Kept w R Q w' ∧ w'.there Q 0 2
 obtain ⟨v0, hv0⟩ : ∃ x, (numS rest e 2).1 = x := ⟨_, rfl⟩
 obtain ⟨r0, hr0⟩ : ∃ x, (numS rest e 2).2.1 = x := ⟨_, rfl⟩
 obtain ⟨e0, he0⟩ : ∃ x, (numS rest e 2).2.2 = x := ⟨_, rfl⟩
 simp only [hv0, hr0, he0] at ck l0 ⊢
 clear hv0 hr0 he0
 have l1 := numS_len r0 e0 1048576
 have c1 := fun w0 h0 => num_any R r0 e0 1048576 w0 h0
 obtain ⟨v1, hv1⟩ : ∃ x, (numS r0 e0 1048576).1 = x := ⟨_, rfl⟩
 obtain ⟨r1, hr1⟩ : ∃ x, (numS r0 e0 1048576).2.1 = x := ⟨_, rfl⟩
 obtain ⟨e1, he1⟩ : ∃ x, (numS r0 e0 1048576).2.2 = x := ⟨_, rfl⟩
 simp only [hv1, hr1, he1] at c1 l1 ⊢
 clear hv1 hr1 he1
 have l2 := numS_len r1 e1 1099511627776
 have c2 := fun w0 h0 => num_any R r1 e1 1099511627776 w0 h0
 obtain ⟨v2, hv2⟩ : ∃ x, (numS r1 e1 1099511627776).1 = x := ⟨_, rfl⟩
 obtain ⟨r2, hr2⟩ : ∃ x, (numS r1 e1 1099511627776).2.1 = x := ⟨_, rfl⟩
 obtain ⟨e2, he2⟩ : ∃ x, (numS r1 e1 1099511627776).2.2 = x := ⟨_, rfl⟩
 simp only [hv2, hr2, he2] at c2 l2 ⊢
 clear hv2 hr2 he2
 have l3 := numS_len r2 e2 1099511627776
 have c3 := fun w0 h0 => num_any R r2 e2 1099511627776 w0 h0
 obtain ⟨v3, hv3⟩ : ∃ x, (numS r2 e2 1099511627776).1 = x := ⟨_, rfl⟩
 obtain ⟨r3, hr3⟩ : ∃ x, (numS r2 e2 1099511627776).2.1 = x := ⟨_, rfl⟩
 obtain ⟨e3, he3⟩ : ∃ x, (numS r2 e2 1099511627776).2.2 = x := ⟨_, rfl⟩
 simp only [hv3, hr3, he3] at c3 l3 ⊢
 clear hv3 hr3 he3
 have c4 := fun w0 h0 m0 => rdigest_any Q R z1 r3 e3 w0 h0 m0 (by omega)
 have hdl : (v8 (padN 32 (rawS r3 e3 32).1)).length = 32 := by rw [v8_length, padN_len]
 have hd1 := v8_one (padN 32 (rawS r3 e3 32).1)
 show Calls Tryz.prog 62 _ w fun en w' => en = .returned (.agg (Value.int .i64 v0 :: .int .i64 v1 :: .int .i64 v2 :: .int .i64 v3 :: v8 (padN 32 (rawS r3 e3 32).1)).toArray) ∧ _
 obtain ⟨dv, hdv⟩ : ∃ t, v8 (padN 32 (rawS r3 e3 32).1) = t := ⟨_, rfl⟩
 obtain ⟨r4, hr4⟩ : ∃ x, (rawS r3 e3 32).2.1 = x := ⟨_, rfl⟩
 obtain ⟨e4, he4⟩ : ∃ x, (rawS r3 e3 32).2.2 = x := ⟨_, rfl⟩
 simp only [hdv, hr4, he4] at c4 hdl hd1 ⊢
 clear hdv hr4 he4
 have hpl : (Value.int .i64 v0 :: .int .i64 v1 :: .int .i64 v2 :: .int .i64 v3 :: dv).length = 36 := by simp only [List.length_cons, hdl]
 have hip : (Tryz.prog.info? 101).map (·.size) = some (Value.int .i64 v0 :: .int .i64 v1 :: .int .i64 v2 :: .int .i64 v3 :: dv).length := by rw [hpl]; exact iszVo
 have hp1 : ∀ v ∈ (Value.int .i64 v0 :: .int .i64 v1 :: .int .i64 v2 :: .int .i64 v3 :: dv), v.oneCell' = true := fun v hv => by
  simp only [List.mem_cons] at hv
  rcases hv with rfl | rfl | rfl | rfl | hv
  ·rfl
  ·rfl
  ·rfl
  ·rfl
  ·exact hd1 v hv
 obtain ⟨hB1, hr1, hs1⟩ := boxed_new w zc 101
 have ht1 := there_newN w zc.toArray 101 (n := 36) (by simp [hzl])
 obtain ⟨pc, hpc⟩ : ∃ p, Hid (Value.int .i64 v0 :: .int .i64 v1 :: .int .i64 v2 :: .int .i64 v3 :: dv = p) := ⟨_, hide rfl⟩
 rw [hpc.out] at hpl hip hp1 ⊢
 go_enter Tryz.func62, Tryz.ntmps62
 go_upto_region 0 with fail
 try simp only [Act.put]
 refine pl_begin ?_
 refine pl_run (d := some 2) (v := .pointer (some ⟨w.heap.size, 0, none⟩)) (w' := w.alloc (.cells zc.toArray 101)) (by rfl) (ex_alloc rfl (hzr _)) rfl ?_
 simp only [nz]
 refine pl_nil ?_
 obtain ⟨W1, hW1⟩ : ∃ W, w.alloc (.cells zc.toArray 101) = W := ⟨_, rfl⟩
 rw [hW1] at hB1 hr1 hs1 ht1 ⊢
 clear hW1 hr1
 obtain ⟨hB2, hr2, hs2⟩ := boxed_new W1 zc 101
 have ht2 := there_newN W1 zc.toArray 101 (n := 36) (by simp [hzl])
 go_upto_region 1 with fail
 try simp only [Act.put]
 refine pl_begin ?_
 refine pl_run (d := some 3) (v := .pointer (some ⟨W1.heap.size, 0, none⟩)) (w' := W1.alloc (.cells zc.toArray 101)) (by rfl) (ex_alloc rfl (hzr _)) rfl ?_
 simp only [nz]
 refine pl_nil ?_
 obtain ⟨W2, hW2⟩ : ∃ W, W1.alloc (.cells zc.toArray 101) = W := ⟨_, rfl⟩
 rw [hW2] at hB2 hr2 hs2 ht2 ⊢
 clear hW2
 rw [hzc] at hr2
 have hBW := hB1.trans (hB2.mono hB1.size)
 have V0 : VS w Q R w.heap.size W1.heap.size 36 _ z W2 := ⟨hr2, ht2, there_belowN ht1 hB2 hs1, (Kept.refl w R Q).below hBW, hq.below hBW, there_belowN thQ hBW hQw, Nat.lt_of_lt_of_le hs1 hB2.size, hs2, Nat.le_refl _, hB1.size, by omega, hRw, hQw⟩
 have st2 := h.below hBW
 clear hr2 ht2 ht1 hzr hzc hzl hB1 hB2 hBW hs2 h hq thQ
 go_upto_region 2 with fail
 try simp only [Act.put]
 refine pl_begin ?_
 refine pl_t 4 (?_) (by rfl) ?_ rfl ?_
 rotate_left
 ·go_simp
  try with_reducible rfl
 simp only [nz]
 refine pl_call (d := some 5) (by rfl) (by go_simp; first | done | exact ⟨rfl, rfl⟩ | with_reducible rfl) rfl ?_
 refine (ck W2 st2 V0.mr V0.qt).mono ?_
 rintro _ w3 ⟨rfl, st3, m3, k3, t3⟩
 refine ⟨_, rfl, ?_⟩
 simp only [nz]
 refine pl_t 6 (?_) (by rfl) ?_ rfl ?_
 rotate_left
 ·go_simp
  try with_reducible rfl
 simp only [nz]
 have V3 := V0.on k3 m3 t3
 have V4 := V3.set 0 [.int .i64 v0] (vt_put V3.row _).1
 have st4 := V3.st (o := 0) (vs := [.int .i64 v0]) (rest := []) st3
 refine pl_store (w' := w3.setCells W1.heap.size 0 [.int .i64 v0]) (by rfl) (ex_put1 (n := 36) rfl rfl rfl V3.box (by decide) iszI rfl rfl) rfl ?_
 refine pl_nil ?_
 obtain ⟨w4, hw4⟩ : ∃ W, w3.setCells W1.heap.size 0 [.int .i64 v0] = W := ⟨_, rfl⟩
 rw [hw4] at V4 st4 ⊢
 clear hw4 V3 st3 m3 k3 t3 V0 st2 ck
 go_upto_region 3 with fail
 have V8 := V4.drew
 have st8 := st4.below (Below.refl _ _).drew
 refine hs_begin (S := (fun W' => MrAt W' Q R z1)) 21 rfl (by kernel_rfl) ?_
 obtain ⟨w8, hw8⟩ : ∃ W, w4.drew = W := ⟨_, rfl⟩
 rw [hw8] at V8 st8 ⊢
 clear hw8 V4 st4
 have hS : (fun W' => MrAt W' Q R z1) w8 := V8.mr
 refine hs_t 0 7 (?_) rfl (by kernel_rfl) (by kernel_rfl) (by kernel_rfl) (by rfl) ?_ hS rfl ?_
 rotate_left
 ·intro w' hw
  go_simp
  try with_reducible rfl
 simp only [nz]
 refine hs_t 1 8 (?_) rfl (by kernel_rfl) (by kernel_rfl) (by kernel_rfl) (by rfl) ?_ hS rfl ?_
 rotate_left
 ·intro w' hw
  go_simp
  try with_reducible rfl
 simp only [nz]
 refine hs_t 2 9 (?_) rfl (by kernel_rfl) (by kernel_rfl) (by kernel_rfl) (by rfl) ?_ hS rfl ?_
 rotate_left
 ·intro w' hw
  go_simp
  try with_reducible rfl
 simp only [nz]
 refine hs_t 3 10 (.pointer (some ⟨R, 0, none⟩)) rfl (by kernel_rfl) (by kernel_rfl) (by kernel_rfl) (by rfl) (fun w' hw => pl_one rfl rfl hw.c0 Tryz.underlying142 rfl) hS rfl ?_
 simp only [nz]
 refine hs_t 5 12 (?_) rfl (by kernel_rfl) (by kernel_rfl) (by kernel_rfl) (by rfl) ?_ hS rfl ?_
 rotate_left
 ·intro w' hw
  go_simp
  try with_reducible rfl
 simp only [nz]
 refine hs_t 6 13 (?_) rfl (by kernel_rfl) (by kernel_rfl) (by kernel_rfl) (by rfl) ?_ hS rfl ?_
 rotate_left
 ·intro w' hw
  go_simp
  try with_reducible rfl
 simp only [nz]
 refine hs_t 7 14 (?_) rfl (by kernel_rfl) (by kernel_rfl) (by kernel_rfl) (by rfl) ?_ hS rfl ?_
 rotate_left
 ·intro w' hw
  go_simp
  try with_reducible rfl
 simp only [nz]
 refine hs_t 8 15 (.pointer (some ⟨R, 0, none⟩)) rfl (by kernel_rfl) (by kernel_rfl) (by kernel_rfl) (by rfl) (fun w' hw => pl_one rfl rfl hw.c0 Tryz.underlying142 rfl) hS rfl ?_
 simp only [nz]
 refine hs_t 10 17 (?_) rfl (by kernel_rfl) (by kernel_rfl) (by kernel_rfl) (by rfl) ?_ hS rfl ?_
 rotate_left
 ·intro w' hw
  go_simp
  try with_reducible rfl
 simp only [nz]
 refine hs_t 11 18 (?_) rfl (by kernel_rfl) (by kernel_rfl) (by kernel_rfl) (by rfl) ?_ hS rfl ?_
 rotate_left
 ·intro w' hw
  go_simp
  try with_reducible rfl
 simp only [nz]
 refine hs_t 12 19 (?_) rfl (by kernel_rfl) (by kernel_rfl) (by kernel_rfl) (by rfl) ?_ hS rfl ?_
 rotate_left
 ·intro w' hw
  go_simp
  try with_reducible rfl
 simp only [nz]
 refine hs_t 13 20 (.pointer (some ⟨R, 0, none⟩)) rfl (by kernel_rfl) (by kernel_rfl) (by kernel_rfl) (by rfl) (fun w' hw => pl_one rfl rfl hw.c0 Tryz.underlying142 rfl) hS rfl ?_
 simp only [nz]
 refine hs_call (i := 4) (d := some 11) rfl (by kernel_rfl) (by rfl) (by go_simp; first | done | exact ⟨rfl, rfl⟩ | with_reducible rfl) rfl ?_
 refine (c1 w8 st8).mono ?_
 rintro _ w5 ⟨rfl, st5, g5⟩
 have hS : (fun W' => MrAt W' Q R z1) w5 := hS.gb g5
 refine ⟨_, rfl, hS, ?_⟩
 simp only [nz]
 refine hs_t 15 22 (?_) rfl (by kernel_rfl) (by kernel_rfl) (by kernel_rfl) (by rfl) ?_ hS rfl ?_
 rotate_left
 ·intro w' hw
  go_simp
  try with_reducible rfl
 simp only [nz]
 refine hs_call (i := 9) (d := some 16) rfl (by kernel_rfl) (by rfl) (by go_simp; first | done | exact ⟨rfl, rfl⟩ | with_reducible rfl) rfl ?_
 refine (c2 w5 st5).mono ?_
 rintro _ w6 ⟨rfl, st6, g6⟩
 have hS : (fun W' => MrAt W' Q R z1) w6 := hS.gb g6
 refine ⟨_, rfl, hS, ?_⟩
 simp only [nz]
 refine hs_call (i := 14) (d := some 21) rfl (by kernel_rfl) (by rfl) (by go_simp; first | done | exact ⟨rfl, rfl⟩ | with_reducible rfl) rfl ?_
 refine (c3 w6 st6).mono ?_
 rintro _ w7 ⟨rfl, st7, g7⟩
 have hS : (fun W' => MrAt W' Q R z1) w7 := hS.gb g7
 refine ⟨_, rfl, hS, ?_⟩
 simp only [nz]
 have V7 := ((V8.gb g5).gb g6).gb g7
 have Va := V7.set 1 [.int .i64 v1] (vt_put V7.row _).2.1
 have sta := V7.st (o := 1) (vs := [.int .i64 v1]) (rest := []) st7
 refine hs_store (i := 16) (w' := w7.setCells W1.heap.size 1 [.int .i64 v1]) rfl (by kernel_rfl) (by rfl) (ex_put1 (n := 36) rfl rfl rfl V7.box (by decide) iszI rfl rfl) rfl Va.mr ?_
 obtain ⟨w_16, hw_16⟩ : ∃ W, w7.setCells W1.heap.size 1 [.int .i64 v1] = W := ⟨_, rfl⟩
 rw [hw_16] at Va sta ⊢
 clear hw_16
 have hS : (fun W' => MrAt W' Q R z1) w_16 := Va.mr
 refine hs_t 17 23 (?_) rfl (by kernel_rfl) (by kernel_rfl) (by kernel_rfl) (by rfl) ?_ hS rfl ?_
 rotate_left
 ·intro w' hw
  go_simp
  try with_reducible rfl
 simp only [nz]
 have Vb := Va.set 2 [.int .i64 v2] (vt_put Va.row _).2.2.1
 have stb := Va.st (o := 2) (vs := [.int .i64 v2]) (rest := []) sta
 refine hs_store (i := 18) (w' := w_16.setCells W1.heap.size 2 [.int .i64 v2]) rfl (by kernel_rfl) (by rfl) (ex_put1 (n := 36) rfl rfl rfl Va.box (by decide) iszI rfl rfl) rfl Vb.mr ?_
 obtain ⟨w_18, hw_18⟩ : ∃ W, w_16.setCells W1.heap.size 2 [.int .i64 v2] = W := ⟨_, rfl⟩
 rw [hw_18] at Vb stb ⊢
 clear hw_18
 have hS : (fun W' => MrAt W' Q R z1) w_18 := Vb.mr
 refine hs_t 19 24 (?_) rfl (by kernel_rfl) (by kernel_rfl) (by kernel_rfl) (by rfl) ?_ hS rfl ?_
 rotate_left
 ·intro w' hw
  go_simp
  try with_reducible rfl
 simp only [nz]
 have Vc := Vb.set 3 [.int .i64 v3] (vt_put Vb.row _).2.2.2
 have stc := Vb.st (o := 3) (vs := [.int .i64 v3]) (rest := []) stb
 refine hs_store (i := 20) (w' := w_18.setCells W1.heap.size 3 [.int .i64 v3]) rfl (by kernel_rfl) (by rfl) (ex_put1 (n := 36) rfl rfl rfl Vb.box (by decide) iszI rfl rfl) rfl Vc.mr ?_
 obtain ⟨w_20, hw_20⟩ : ∃ W, w_18.setCells W1.heap.size 3 [.int .i64 v3] = W := ⟨_, rfl⟩
 rw [hw_20] at Vc stc ⊢
 clear hw_20
 have hS : (fun W' => MrAt W' Q R z1) w_20 := Vc.mr
 refine hs_done (by kernel_rfl) ?_
 clear V7 Va Vb sta stb st5 st6 st7 g5 g6 g7 V8 st8 hS c1 c2 c3
 go_upto_region 4 with fail
 try simp only [Act.put]
 refine pl_begin ?_
 refine pl_t 25 (?_) (by rfl) ?_ rfl ?_
 rotate_left
 ·go_simp
  try with_reducible rfl
 simp only [nz]
 refine pl_call (d := some 26) (by rfl) (by go_simp; first | done | exact ⟨rfl, rfl⟩ | with_reducible rfl) rfl ?_
 refine (c4 w_20 stc Vc.mr).mono ?_
 rintro _ wd ⟨rfl, std, gd⟩
 refine ⟨_, rfl, ?_⟩
 simp only [nz]
 refine pl_t 27 (?_) (by rfl) ?_ rfl ?_
 rotate_left
 ·go_simp
  try with_reducible rfl
 simp only [nz]
 have Vd := Vc.gb gd
 have Ve := Vd.set 4 dv (range_tail4 Vd.row (by rw [hdl]; exact there_part1 Vd.box (by decide)))
 have ste := Vd.st (o := 4) (vs := dv) (rest := []) std
 refine pl_store (w' := wd.setCells W1.heap.size 4 dv) (by rfl) (ex_put (cs := dv.toArray) rfl rfl rfl (by simpa [hdl] using there_part1 Vd.box (o := 4) (m := 32) (by decide)) (by simpa [hdl] using iszD) (all_one hd1)) rfl ?_
 refine pl_nil ?_
 obtain ⟨we, hwe⟩ : ∃ W, wd.setCells W1.heap.size 4 dv = W := ⟨_, rfl⟩
 rw [hwe] at Ve ste ⊢
 clear hwe Vd std gd Vc stc c4
 have rpc := Ve.row
 rw [hpc.out] at rpc
 have hlow : Below w.heap.size we (we.setCells w.heap.size 0 pc) := below_sets (Nat.le_refl _) pc 0 _ (Below.refl _ we)
 go_upto_region 5 with fail
 try simp only [Act.put]
 refine pl_begin ?_
 refine pl_t 28 (.agg pc.toArray) (by rfl) (ex_mid rfl rfl rpc Tryz.underlying101 rfl hip) rfl ?_
 simp only [nz]
 refine pl_store (w' := we.setCells w.heap.size 0 pc) (by rfl) (ex_put (cs := pc.toArray) rfl rfl rfl (by simpa [hpl] using Ve.ans) (by simpa using hip) (all_one hp1)) rfl ?_
 refine pl_nil ?_
 have hrs := run_loadVar_mid (P := Tryz.prog) (we.setCells w.heap.size 0 pc) w.heap.size 0 101 pc _ (World.rangeAt_setCells_same we w.heap.size 0 pc (by rw [hpl]; exact Ve.ans)) Tryz.underlying101 rfl hip
 have HF : Hid (St (we.setCells w.heap.size 0 pc) R r4 e4 ∧ MrAt (we.setCells w.heap.size 0 pc) Q R z1 ∧ Kept w R Q (we.setCells w.heap.size 0 pc) ∧ (we.setCells w.heap.size 0 pc).there Q 0 2) := hide ⟨ste.belowN hlow hRw, Ve.mr.at (blk_sets (by omega)) (by rw [size_sets]; exact Nat.le_refl _), Ve.kept.newSets (Nat.le_refl _) _ _, World.there_setCells Ve.qt _ _ _⟩
 clear Ve ste hlow rpc
 go_wp2_with fail
 refine bodyPost_ret (v := .agg pc.toArray) ?_ rfl ?_
 ·simp [results, Tryz.results62, Act.put, asAddr, hrs]
 ·exact ⟨rfl, HF.out⟩
def zeros16 : List Int := List.replicate 16 0
def noReq : List Value := reqL 0 0 ⟨#[]⟩ zeros16
theorem litReq : (#[.int .i64 0, .int .i64 0, .string ⟨#[]⟩, .int .u8 0, .int .u8 0, .int .u8 0, .int .u8 0, .int .u8 0, .int .u8 0, .int .u8 0, .int .u8 0, .int .u8 0, .int .u8 0, .int .u8 0, .int .u8 0, .int .u8 0, .int .u8 0, .int .u8 0, .int .u8 0] : Array Value) = noReq.toArray := by rfl
theorem iszN : (Tryz.prog.info? 157).map (·.size) = some noReq.toArray.size := by kernel_rfl
theorem strOf_aux : ∀ (zs : List Int) (r : ByteArray), (zs.foldl (fun r n => r.push (UInt8.ofNat n.toNat)) r).size = r.size + zs.length
  | [], r => by simp
  | z :: zs, r => by rw [List.foldl_cons, strOf_aux zs, ByteArray.size_push, List.length_cons]; omega
theorem strOf_size (zs : List Int) : (strOf zs).size = zs.length := by unfold strOf; rw [strOf_aux]; simp
set_option maxRecDepth 100000 in
theorem none_any (w : World) : Calls Tryz.prog 123 #[] w fun e w' => e = .returned (batV true none 0 0) ∧ Below w.heap.size w w' := by
 have F := fresh_store w #[.bool false, .slice none 0 0] 97 [.bool true, .slice none 0 0] rfl
 have hN : (w.alloc (.cells #[.bool false, .slice none 0 0] 97)).there w.heap.size 0 2 := there_new w #[.bool false, .slice none 0 0] 97
 have hrs := run_loadVar_mid (P := Tryz.prog) _ w.heap.size 0 97 [.bool true, .slice none 0 0] _ F.1 Tryz.underlying97 rfl iszB
 have hB := F.2.1
 go_enter Tryz.func123, Tryz.ntmps123
 go_upto_region 1 with fail
 try simp only [Act.put]
 refine wp_region_list ?_
 refine wpList_step fun K hK => ?_
 go_simp
 refine hK _ _ ?_
 clear hK K
 refine wpList_store_mid rfl 97 _ _ rfl _ _ #[.bool true, .slice none 0 0] rfl rfl hN iszB (by simp [Value.oneCell']) ?_
 go_wp2
 exact bodyPost_ret (v := .agg #[.bool true, .slice none 0 0]) (by simp [results, Tryz.results123, asAddr, hrs, Act.put]) rfl ⟨rfl, hB⟩
structure GS (w : World) (R : Nat) (q : List Value) (W : World) : Prop where
 row : W.rangeAt (w.heap.size + 1) 0 q
 box : W.there (w.heap.size + 1) 0 19
 ans : W.there w.heap.size 0 19
 grown : w.grownBy W (some R)
 size : w.heap.size + 2 ≤ W.heap.size
theorem GS.gb {w W W' : World} {R : Nat} {q : List Value} (h : GS w R q W) (hR : R < w.heap.size) (hg : W.grownBy W' (some R)) : GS w R q W' := by
 have hs := h.size
 exact ⟨range_gbR h.row hg (by omega) (by omega), there_gbR h.box hg (by omega) (by omega), there_gbR h.ans hg (by omega) (by omega), gb_trans h.grown hg, Nat.le_trans hs hg.size⟩
theorem GS.set {w W : World} {R : Nat} {q : List Value} (h : GS w R q W) (i : Nat) (v : Value) : GS w R (q.set i v) (W.setCell ⟨w.heap.size + 1, i, none⟩ v) := by
 have hr := range_set h.row i v
 rw [Nat.zero_add] at hr
 exact ⟨hr, there_set h.box _ _, there_set h.ans _ _, gb_onR h.grown ((Below.refl w.heap.size W).setCell (p := ⟨w.heap.size + 1, i, none⟩) (by show w.heap.size ≤ w.heap.size + 1; omega) v) (Nat.le_refl _), by have := h.size; simp [World.setCell]; exact this⟩
theorem GS.drew {w W : World} {R : Nat} {q : List Value} (h : GS w R q W) : GS w R q W.drew :=
 ⟨(World.rangeAt_drew _ _ _ _).2 h.row, h.box, h.ans, gb_onR h.grown (Below.refl w.heap.size W).drew (Nat.le_refl _), h.size⟩
theorem GS.tag {w W : World} {R : Nat} {c n : Int} {s : ByteArray} {z t : List Int} (h : GS w R (reqL c n s z) W) (ht : t.length = 16) : GS w R (reqL c n s t) (W.setCells (w.heap.size + 1) 3 (v8 t)) := by
 have e1 : reqL c n s z = [.int .i64 c, .int .i64 n, .string s] ++ v8 z := rfl
 have e2 : reqL c n s t = [.int .i64 c, .int .i64 n, .string s] ++ v8 t := rfl
 have hr := h.row
 rw [e1] at hr
 have h1 := World.rangeAt_setCells_apart (range_left hr) (w.heap.size + 1) 3 (v8 t) (.inr (.inl (by simp)))
 have h2 := World.rangeAt_setCells_same W (w.heap.size + 1) 3 (v8 t) (by rw [v8_length, ht]; exact fun j hj => h.box (3 + j) (by omega) |> fun q => by simpa using q)
 refine ⟨by rw [e2]; exact range_join h1 h2, World.there_setCells h.box _ _ _, World.there_setCells h.ans _ _ _, gb_onR h.grown (below_sets (by omega) _ 3 _ (Below.refl w.heap.size W)) (Nat.le_refl _), by rw [size_sets]; exact h.size⟩
theorem rawS_16 (rest : List Int) (e : Int) : ((rawS rest e 16).1.length = 16 ∨ (rawS rest e 16).1 = []) ∧ ((rawS rest e 16).2.2 = 0 → (rawS rest e 16).1.length = 16) := by
 unfold rawS
 split
 ·rename_i he
  rw [if_neg (by decide)]
  split
  ·exact ⟨.inr rfl, fun h => by cases h⟩
  ·have : (rest.take (16 : Int).toNat).length = 16 := by rw [List.length_take]; show min 16 rest.length = 16; omega
   exact ⟨.inl this, fun _ => this⟩
 ·rename_i he
  exact ⟨.inr rfl, fun h => absurd h he⟩
theorem noReq_copy {w W : World} {R : Nat} {c n : Int} {s : ByteArray} {t : List Int} {a : Option Addr} {cap : Nat} (h : GS w R (reqL c n s zeros16) W) (hrow : RowAt W a t) (ht : t.length = 16 ∨ t = []) :
  ∃ W' z, (Builtin.copy_ #[135, 135] 3 #[.slice (some ⟨w.heap.size + 1, 3, none⟩) 16 16, .slice a t.length cap]).run Tryz.prog W = .ok (goInt t.length) W' ∧ GS w R (reqL c n s z) W' ∧ z.length = 16 ∧ (t.length = 16 → z = t) ∧ Below w.heap.size W W' ∧ W.grownBy W' (some (w.heap.size + 1)) := by
 rcases ht with ht | rfl
 ·rcases hrow.2.2 with rfl | ⟨b, off, rfl, hb, hr⟩
  ·cases ht
  ·refine ⟨W.setCells (w.heap.size + 1) 3 (v8 t), t, ?_, h.tag ht, ht, fun _ => rfl, below_sets (by omega) _ 3 _ (Below.refl _ _), gb_setsR _ _ _ _⟩
   have := run_copy_cells (P := Tryz.prog) W 135 135 3 5 (w.heap.size + 1) 3 16 16 ⟨b, off, none⟩ t.length cap (v8 t) Tryz.underlying135 isz8 (by rw [v8_length, ht]; rfl) (fun j v hv => by rw [Addr.add_mid]; exact hr j v hv) (fun j hj => by rw [v8_length] at hj; have := h.box (3 + j) (by omega); rw [Nat.zero_add] at this; exact this.1) (fun j hj => by rw [v8_length] at hj; have := h.box (3 + j) (by omega); rw [Nat.zero_add] at this; exact this.2) (v8_one _)
   rw [v8_length] at this
   exact this
 ·exact ⟨W, zeros16, run_copy_none (P := Tryz.prog) W 135 135 3 5 _ a 16 16 0 cap Tryz.underlying135 isz8 rfl, h, rfl, fun h => absurd h (by decide), Below.refl _ _, gb_refl _ _⟩
structure GotR where
 c : Int
 n : Int
 s : List Int
 t : List Int
 rest : List Int
 err : Int
def rgetR (rest : List Int) (e : Int) : GotR :=
 let x1 := numS rest e 8
 let x2 := numS x1.2.1 x1.2.2 1099511627776
 let x3 := textS x2.2.1 x2.2.2 64
 let x4 := rawS x3.2.1 x3.2.2 16
 ⟨x1.1, x2.1, x3.1, x4.1, x4.2.1, x4.2.2⟩
def rgetL (g : GotR) : List Value := if g.err = 0 then reqL g.c g.n (strOf g.s) g.t else noReq
set_option maxRecDepth 100000 in
set_option maxHeartbeats 4000000 in
theorem rget_any (R : Nat) (rest : List Int) (e : Int) (w : World) (h : St w R rest e) (hl : rest.length ≤ 40000) :
  Calls Tryz.prog 99 #[.pointer (some ⟨R, 0, none⟩)] w fun en w' => en = .returned (.agg (rgetL (rgetR rest e)).toArray) ∧ St w' R (rgetR rest e).rest (rgetR rest e).err ∧ w.grownBy w' (some R) := by
 have hRw := h.1.1
 obtain ⟨G, hG⟩ : ∃ G, Hid (rgetR rest e = G) := ⟨_, rfl⟩
 rw [hG.out]
 have k0 := hG.out
 unfold rgetR at k0
 simp only at k0
 clear hG
 have l1 := numS_len rest e 8
 have c1 := fun w0 h0 => num_any R rest e 8 w0 h0
 obtain ⟨v1, hv1⟩ : ∃ x, Hid ((numS rest e 8).1 = x) := ⟨_, rfl⟩
 obtain ⟨r1, hr1⟩ : ∃ x, Hid ((numS rest e 8).2.1 = x) := ⟨_, rfl⟩
 obtain ⟨e1, he1⟩ : ∃ x, Hid ((numS rest e 8).2.2 = x) := ⟨_, rfl⟩
 simp only [hv1.out, hr1.out, he1.out] at k0 l1 c1
 have l2 := numS_len r1 e1 1099511627776
 have c2 := fun w0 h0 => num_any R r1 e1 1099511627776 w0 h0
 obtain ⟨v2, hv2⟩ : ∃ x, Hid ((numS r1 e1 1099511627776).1 = x) := ⟨_, rfl⟩
 obtain ⟨r2, hr2⟩ : ∃ x, Hid ((numS r1 e1 1099511627776).2.1 = x) := ⟨_, rfl⟩
 obtain ⟨e2, he2⟩ : ∃ x, Hid ((numS r1 e1 1099511627776).2.2 = x) := ⟨_, rfl⟩
 simp only [hv2.out, hr2.out, he2.out] at k0 l2 c2
 have l3 := textS_len r2 e2 64
 have c3 := fun w0 h0 hp => text_any R r2 e2 64 w0 h0 hp
 obtain ⟨v3, hv3⟩ : ∃ x, Hid ((textS r2 e2 64).1 = x) := ⟨_, rfl⟩
 obtain ⟨r3, hr3⟩ : ∃ x, Hid ((textS r2 e2 64).2.1 = x) := ⟨_, rfl⟩
 obtain ⟨e3, he3⟩ : ∃ x, Hid ((textS r2 e2 64).2.2 = x) := ⟨_, rfl⟩
 simp only [hv3.out, hr3.out, he3.out] at k0 l3 c3
 have f4 := rawS_16 r3 e3
 have c4 := fun w0 h0 => raw_big R r3 e3 16 w0 h0 (by omega)
 obtain ⟨v4, hv4⟩ : ∃ x, Hid ((rawS r3 e3 16).1 = x) := ⟨_, rfl⟩
 obtain ⟨r4, hr4⟩ : ∃ x, Hid ((rawS r3 e3 16).2.1 = x) := ⟨_, rfl⟩
 obtain ⟨e4, he4⟩ : ∃ x, Hid ((rawS r3 e3 16).2.2 = x) := ⟨_, rfl⟩
 simp only [hv4.out, hr4.out, he4.out] at k0 f4 c4
 obtain ⟨hv4l, hv4e⟩ := f4
 have G1 : Hid (rgetL G = if e4 = 0 then reqL v1 v2 (strOf v3) v4 else noReq) := hide (by rw [← k0]; rfl)
 have G2 : Hid (G.rest = r4) := hide (by rw [← k0])
 have G3 : Hid (G.err = e4) := hide (by rw [← k0])
 clear k0 hv1 hr1 he1 hv2 hr2 he2 hv3 hr3 he3 hv4 hr4 he4 l1 l2 l3 hl
 generalize strOf v3 = sv at *
 have hb1 : Below w.heap.size w (w.alloc (.cells noReq.toArray 157)) := (Below.refl _ _).alloc (Nat.le_refl _) _
 have ht1 := there_new w noReq.toArray 157
 have hz1 : (w.alloc (.cells noReq.toArray 157)).heap.size = w.heap.size + 1 := World.size_alloc _ _
 have hb2 : Below (w.alloc (.cells noReq.toArray 157)).heap.size (w.alloc (.cells noReq.toArray 157)) ((w.alloc (.cells noReq.toArray 157)).alloc (.cells noReq.toArray 157)) := (Below.refl _ _).alloc (Nat.le_refl _) _
 have ht2 := there_new (w.alloc (.cells noReq.toArray 157)) noReq.toArray 157
 have hr2 := range_new (w.alloc (.cells noReq.toArray 157)) noReq.toArray 157
 have hz2 : ((w.alloc (.cells noReq.toArray 157)).alloc (.cells noReq.toArray 157)).heap.size = w.heap.size + 2 := by rw [World.size_alloc, hz1]
 rw [hz1] at ht2 hr2
 have hb12 : Below w.heap.size w ((w.alloc (.cells noReq.toArray 157)).alloc (.cells noReq.toArray 157)) := hb1.trans (hb2.mono hb1.size)
 have gs0 : GS w R noReq ((w.alloc (.cells noReq.toArray 157)).alloc (.cells noReq.toArray 157)) := ⟨by simpa using hr2, ht2, there_below ht1 hb2 (by omega), gb_below hb12 _, by omega⟩
 have s0 := h.below hb12
 clear hb1 ht1 hb2 ht2 hr2 hb12 hz1 hz2 h
 go_enter Tryz.func99, Tryz.ntmps99
 go_upto_region 2 with fail
 obtain ⟨w1, hw1⟩ : ∃ w1, (w.alloc (.cells noReq.toArray 157)).alloc (.cells noReq.toArray 157) = w1 := ⟨_, rfl⟩
 rw [hw1] at gs0 s0
 rw [litReq, hw1]
 clear hw1
 try simp only [Act.put]
 have hsz := gs0.size
 go_wp2_with fail
 refine (c1 w1 s0).mono ?_
 rintro en w2 ⟨rfl, s2, g2⟩
 have gs2 := gs0.gb hRw g2
 clear c1 gs0 s0 g2 hsz
 have hq : w2.cell? ⟨w.heap.size + 1, 0, none⟩ = some (.int .i64 0) := gs2.row 0 _ rfl
 have hf : w2.frozen? ⟨w.heap.size + 1, 0, none⟩ = false := (gs2.box 0 (by decide)).2
 have gs3 := gs2.set 0 (.int .i64 v1)
 have s3 := s2.gb (gb_set w2 (w.heap.size + 1) 0 (.int .i64 v1)) (by omega)
 go_wp2_with fail
 obtain ⟨w3, hw3⟩ : ∃ w3, w2.setCell ⟨w.heap.size + 1, 0, none⟩ (.int .i64 v1) = w3 := ⟨_, rfl⟩
 rw [hw3] at gs3 s3 ⊢
 clear hw3 gs2 s2 hq hf
 refine (c2 w3 s3).mono ?_
 rintro en w4 ⟨rfl, s4, g4⟩
 have gs4 := gs3.gb hRw g4
 clear c2 gs3 s3 g4
 have hq : w4.cell? ⟨w.heap.size + 1, 1, none⟩ = some (.int .i64 0) := gs4.row 1 _ rfl
 have hf : w4.frozen? ⟨w.heap.size + 1, 1, none⟩ = false := (gs4.box 1 (by decide)).2
 have gs5 := gs4.set 1 (.int .i64 v2)
 have s5 := s4.gb (gb_set w4 (w.heap.size + 1) 1 (.int .i64 v2)) (by omega)
 go_wp2_with fail
 obtain ⟨w5, hw5⟩ : ∃ w5, w4.setCell ⟨w.heap.size + 1, 1, none⟩ (.int .i64 v2) = w5 := ⟨_, rfl⟩
 rw [hw5] at gs5 s5 ⊢
 clear hw5 gs4 s4 hq hf
 refine (c3 w5 s5 s5.pos).mono ?_
 rintro en w6 ⟨rfl, s6, g6⟩
 have gs6 := gs5.gb hRw g6
 clear c3 gs5 s5 g6
 have hq : w6.cell? ⟨w.heap.size + 1, 2, none⟩ = some (.string ⟨#[]⟩) := gs6.row 2 _ rfl
 have hf : w6.frozen? ⟨w.heap.size + 1, 2, none⟩ = false := (gs6.box 2 (by decide)).2
 have gs7 : GS w R (reqL v1 v2 sv zeros16) (w6.setCell ⟨w.heap.size + 1, 2, none⟩ (.string sv)) := gs6.set 2 (.string sv)
 have s7 := s6.gb (gb_set w6 (w.heap.size + 1) 2 (.string sv)) (by omega)
 go_wp2_with fail
 obtain ⟨w7, hw7⟩ : ∃ w7, w6.setCell ⟨w.heap.size + 1, 2, none⟩ (.string sv) = w7 := ⟨_, rfl⟩
 rw [hw7] at gs7 s7 ⊢
 clear hw7 gs6 s6 hq hf
 obtain ⟨w8, hw8⟩ : ∃ w8, w7.drew = w8 := ⟨_, rfl⟩
 refine hs_begin (S := (fun _ => True)) 5 rfl (by kernel_rfl) ?_
 have gs8 : GS w R (reqL v1 v2 sv zeros16) w8 := by rw [← hw8]; exact gs7.drew
 have s8 : St w8 R r3 e3 := by rw [← hw8]; exact s7.below (Below.refl _ _).drew
 rw [hw8]
 clear hw8 gs7 s7
 have hS : (fun _ => True) w8 := trivial
 refine hs_t 0 13 (?_) rfl (by kernel_rfl) (by kernel_rfl) (by kernel_rfl) (by rfl) ?_ hS rfl ?_
 rotate_left
 ·intro w' hw
  go_simp
  try with_reducible rfl
 simp only [nz]
 refine hs_t 1 14 (.slice (some ⟨w.heap.size + 1, 3, none⟩) 16 16) rfl (by kernel_rfl) (by kernel_rfl) (by kernel_rfl) (by rfl) (fun w' hw => by have hsl := slice_all (P := Tryz.prog) Tryz.underlying30 isz8 (w.heap.size + 1) 3 (by decide) w'; go_simp) hS rfl ?_
 simp only [nz]
 refine hs_t 2 15 (?_) rfl (by kernel_rfl) (by kernel_rfl) (by kernel_rfl) (by rfl) ?_ hS rfl ?_
 rotate_left
 ·intro w' hw
  go_simp
  try with_reducible rfl
 simp only [nz]
 refine hs_call (i := 3) (d := some 16) rfl (by kernel_rfl) (by rfl) (by go_simp; first | done | exact ⟨rfl, rfl⟩ | with_reducible rfl) rfl ?_
 refine (c4 w8 s8).mono ?_
 rintro e' w9 ⟨v9, rfl, m9, s9, g9⟩
 have hS : (fun _ => True) w9 := trivial
 refine ⟨_, rfl, hS, ?_⟩
 simp only [nz]
 have gs9 := gs8.gb hRw g9
 obtain ⟨a9, cap9, rfl, _, _, row9⟩ := m9.rowAt (by unfold maxLen; rcases hv4l with q | q <;> (first | omega | (rw [q]; decide)))
 clear c4 gs8 s8 g9 m9
 obtain ⟨w10, z, hcp, gs10, hz16, hzt, hb10, hg10⟩ := noReq_copy (cap := cap9) gs9 row9 hv4l
 have s10 := s9.gb hg10 (by omega)
 have hS : (fun _ => True) w10 := trivial
 refine hs_run (i := 4) (d := some 17) (v := goInt v4.length) (w' := w10) rfl (by kernel_rfl) (by rfl) (exec_copy rfl rfl rfl hcp) rfl hS ?_
 simp only [nz]
 refine hs_done (by kernel_rfl) ?_
 clear hcp gs9 s9 hb10 hg10 row9
 have ce := err_made R e4 w10 s10.1
 go_wp2_with fail
 refine ce.mono ?_
 rintro en w11 ⟨rfl, hx⟩
 obtain rfl := hx
 clear ce
 have hi := iszN
 have ho := all_oneCell_toArray (reqL_one 0 0 ⟨#[]⟩ zeros16)
 have hszz := gs10.size
 by_cases he : e4 = 0
 ·subst he
  have hzv := hzt (hv4e rfl)
  subst hzv
  have E1 : Hid (rgetL G = reqL v1 v2 sv z) := hide (by rw [G1.out, if_pos rfl])
  have hiq : (Tryz.prog.info? 157).map (·.size) = some (reqL v1 v2 sv z).length := by rw [reqL_length _ _ _ _ hz16]; exact iszR
  have hoq := all_oneCell_toArray (reqL_one v1 v2 sv z)
  have hiq' : (Tryz.prog.info? 157).map (·.size) = some (reqL v1 v2 sv z).toArray.size := by rw [List.size_toArray]; exact hiq
  obtain ⟨q, hq⟩ : ∃ q, Hid (reqL v1 v2 sv z = q) := ⟨_, rfl⟩
  have hql : q.length = 19 := by rw [← hq.out]; exact reqL_length _ _ _ _ hz16
  rw [hq.out] at E1 hiq hoq hiq'
  have hrow : w11.rangeAt (w.heap.size + 1) 0 q := by rw [← hq.out]; exact gs10.row
  have hans : w11.there w.heap.size 0 q.toArray.size := by have := gs10.ans; rw [← hql] at this; exact this
  clear hv4l hv4e hzt
  have hrs := run_loadVar_mid (P := Tryz.prog) (w11.setCells w.heap.size 0 q) w.heap.size 0 157 q _ (World.rangeAt_setCells_same w11 w.heap.size 0 q (by have := hans; simpa using this)) Tryz.underlying157 rfl hiq
  have gf := gb_onR gs10.grown (below_sets (B := w.heap.size) (b := w.heap.size) (Nat.le_refl _) q 0 _ (Below.refl _ w11)) (Nat.le_refl _)
  have sf := s10.gb (gb_setsR w11 w.heap.size q 0) hRw
  clear gs10 s10
  go_wp2_with (first | refine wpList_load_mid (op := ⟨some 22, .load 157 (.tmp 3), _, _, _, none⟩) rfl 157 _ rfl _ _ rfl q _ hrow Tryz.underlying157 rfl hiq ?_ | refine wpList_store_mid (op := ⟨none, .store 157 (.tmp 2) (.tmp 22), _, _, _, none⟩) rfl 157 _ _ rfl _ _ q.toArray rfl rfl hans hiq' hoq ?_)
  refine bodyPost_ret (v := .agg q.toArray) ?_ rfl ?_
  ·simp [results, Tryz.results99, Act.put, asAddr, hrs]
  ·exact ⟨by rw [E1.out], by rw [G2.out, G3.out]; exact sf, gf⟩
 ·have E1 : Hid (rgetL G = noReq) := hide (by rw [G1.out, if_neg he])
  have hnl : noReq.length = 19 := rfl
  have hans : w11.there w.heap.size 0 noReq.toArray.size := gs10.ans
  have hi' : (Tryz.prog.info? 157).map (·.size) = some noReq.length := by simpa using hi
  have hlit := litReq
  obtain ⟨q, hq⟩ : ∃ q, Hid (noReq = q) := ⟨_, rfl⟩
  have ho : (noReq.toArray.all fun x => x.oneCell') = true := ho
  rw [hq.out] at E1 hi ho hnl hans hi' hlit
  have hrs := run_loadVar_mid (P := Tryz.prog) (w11.setCells w.heap.size 0 q) w.heap.size 0 157 q _ (World.rangeAt_setCells_same w11 w.heap.size 0 q (by have := hans; simpa using this)) Tryz.underlying157 rfl hi'
  have gf := gb_onR gs10.grown (below_sets (B := w.heap.size) (b := w.heap.size) (Nat.le_refl _) q 0 _ (Below.refl _ w11)) (Nat.le_refl _)
  have sf := s10.gb (gb_setsR w11 w.heap.size q 0) hRw
  clear gs10 s10 hv4l hv4e hzt
  go_wp2_with (refine wpList_store_mid (op := ⟨none, .store 157 (.tmp 2) (.tmp 21), _, _, _, none⟩) rfl 157 _ _ rfl _ _ q.toArray rfl (by rw [← hlit]; rfl) hans hi ho ?_)
  refine bodyPost_ret (v := .agg q.toArray) ?_ rfl ?_
  ·simp [results, Tryz.results99, Act.put, asAddr, hrs]
  ·exact ⟨by rw [E1.out], by rw [G2.out, G3.out]; exact sf, gf⟩
def noRq : BRq := ⟨0, 0, ⟨#[]⟩, zeros16⟩
def rqOf (g : GotR) : BRq := if g.err = 0 then ⟨g.c, g.n, strOf g.s, g.t⟩ else noRq
theorem rqOf_cells (g : GotR) : rgetL g = (rqOf g).cells := by
 unfold rgetL rqOf
 split
 ·rfl
 ·rfl
def getRs : Nat → List Int → Int → List BRq × List Int × Int
  | 0, rest, e => ([], rest, e)
  | k + 1, rest, e => ((getRs k rest e).1 ++ [rqOf (rgetR (getRs k rest e).2.1 (getRs k rest e).2.2)], (rgetR (getRs k rest e).2.1 (getRs k rest e).2.2).rest, (rgetR (getRs k rest e).2.1 (getRs k rest e).2.2).err)
structure GotB where
 q : Bool
 rs : List BRq
 rest : List Int
 err : Int
def getB (rest : List Int) (e : Int) : GotB :=
 if (numS rest e 5).1 = 0 then ⟨decide ((numS rest e 5).2.2 = 0), [], (numS rest e 5).2.1, (numS rest e 5).2.2⟩
 else ⟨false, if (getRs ((numS rest e 5).1 - 1).toNat (numS rest e 5).2.1 (numS rest e 5).2.2).2.2 = 0 then (getRs ((numS rest e 5).1 - 1).toNat (numS rest e 5).2.1 (numS rest e 5).2.2).1 else [],
  (getRs ((numS rest e 5).1 - 1).toNat (numS rest e 5).2.1 (numS rest e 5).2.2).2.1, (getRs ((numS rest e 5).1 - 1).toNat (numS rest e 5).2.1 (numS rest e 5).2.2).2.2⟩
theorem getRs_length (k : Nat) (rest : List Int) (e : Int) : (getRs k rest e).1.length = k := by
  induction k with
  | zero => rfl
  | succ k ih => simp [getRs, ih]
def Bs (zs : List Int) : Prop := ∀ z ∈ zs, 0 ≤ z ∧ z < 256
theorem numS_sub (rest : List Int) (e most : Int) : ∃ k, (numS rest e most).2.1 = rest.drop k := by
 unfold numS
 split
 ·split
  ·split
   ·exact ⟨0, rfl⟩
   ·exact ⟨_, rfl⟩
  ·exact ⟨0, rfl⟩
 ·exact ⟨0, rfl⟩
theorem textS_sub (rest : List Int) (e most : Int) : ∃ k, (textS rest e most).2.1 = rest.drop k := by
 obtain ⟨k, hk⟩ := numS_sub rest e 9223372036854775807
 unfold textS
 split
 ·split
  ·exact ⟨0, rfl⟩
  ·split
   ·exact ⟨0, rfl⟩
   ·rw [hk]; exact ⟨k + (numS rest e 9223372036854775807).1.toNat, by rw [List.drop_drop]⟩
 ·exact ⟨0, rfl⟩
theorem rawS_sub (rest : List Int) (e n : Int) : ∃ k, (rawS rest e n).2.1 = rest.drop k := by
 unfold rawS
 split
 ·split
  ·exact ⟨0, rfl⟩
  ·split
   ·exact ⟨0, rfl⟩
   ·exact ⟨_, rfl⟩
 ·exact ⟨0, rfl⟩
theorem rgetR_sub (rest : List Int) (e : Int) : ∃ k, (rgetR rest e).rest = rest.drop k := by
 unfold rgetR
 obtain ⟨k1, h1⟩ := numS_sub rest e 8
 obtain ⟨k2, h2⟩ := numS_sub (numS rest e 8).2.1 (numS rest e 8).2.2 1099511627776
 obtain ⟨k3, h3⟩ := textS_sub (numS (numS rest e 8).2.1 (numS rest e 8).2.2 1099511627776).2.1 (numS (numS rest e 8).2.1 (numS rest e 8).2.2 1099511627776).2.2 64
 obtain ⟨k4, h4⟩ := rawS_sub (textS (numS (numS rest e 8).2.1 (numS rest e 8).2.2 1099511627776).2.1 (numS (numS rest e 8).2.1 (numS rest e 8).2.2 1099511627776).2.2 64).2.1 (textS (numS (numS rest e 8).2.1 (numS rest e 8).2.2 1099511627776).2.1 (numS (numS rest e 8).2.1 (numS rest e 8).2.2 1099511627776).2.2 64).2.2 16
 refine ⟨k1 + (k2 + (k3 + k4)), ?_⟩
 show (rawS _ _ 16).2.1 = _
 rw [h4, h3, h2, h1, List.drop_drop, List.drop_drop, List.drop_drop]
theorem Bs.sub {zs : List Int} (h : Bs zs) (k : Nat) : Bs (zs.drop k) := fun z hz => h z (List.mem_of_mem_drop hz)
theorem Bs.subT {zs : List Int} (h : Bs zs) (k : Nat) : Bs (zs.take k) := fun z hz => h z (List.mem_of_mem_take hz)
theorem numS_bd {rest : List Int} {e most : Int} (hb : e = 0 → Bs rest) (h0 : 0 ≤ most) : 0 ≤ (numS rest e most).1 ∧ (numS rest e most).1 ≤ most := by
 unfold numS
 split
 ·rename_i he
  split
  ·split
   ·exact ⟨by simp, h0⟩
   ·rename_i h1
    exact ⟨numR_nonneg rest (hb he), by show (numR rest).1 ≤ most; omega⟩
  ·exact ⟨by simp, h0⟩
 ·exact ⟨by simp, h0⟩
theorem numS_err {rest : List Int} {e most : Int} (h : (numS rest e most).2.2 = 0) : e = 0 := by
 unfold numS at h
 split at h
 ·assumption
 ·rename_i h0; exact absurd h h0
theorem numS_zero {rest : List Int} {e most : Int} (h : (numS rest e most).2.2 ≠ 0) : (numS rest e most).1 = 0 := by
 unfold numS at h ⊢
 split
 ·split
  ·split
   ·rfl
   ·rename_i h1 h2 h3; rw [if_pos h1, if_pos h2, if_neg h3] at h; exact absurd rfl h
  ·rfl
 ·rfl
theorem textS_err {rest : List Int} {e most : Int} (h : (textS rest e most).2.2 = 0) : e = 0 := by
 unfold textS at h
 split at h
 ·rename_i h0; exact numS_err h0
 ·rename_i h0; exact absurd h h0
theorem rawS_err {rest : List Int} {e n : Int} (h : (rawS rest e n).2.2 = 0) : e = 0 := by
 unfold rawS at h
 split at h
 ·assumption
 ·rename_i h0; exact absurd h h0
theorem textS_s {rest : List Int} {e most : Int} (h0 : 0 ≤ most) : ((textS rest e most).1.length : Int) ≤ most := by
 unfold textS
 split
 ·split
  ·simpa using h0
  ·rename_i h1
   split
   ·simpa using h0
   ·show (((numS rest e 9223372036854775807).2.1.take (numS rest e 9223372036854775807).1.toNat).length : Int) ≤ most
    rw [List.length_take]
    omega
 ·simpa using h0
theorem rawS_t {rest : List Int} {e n : Int} (hb : e = 0 → Bs rest) : Bs (rawS rest e n).1 := by
 unfold rawS
 split
 ·rename_i he
  split
  ·intro z hz; simp at hz
  ·split
   ·intro z hz; simp at hz
   ·exact (hb he).subT _
 ·intro z hz; simp at hz
theorem noRq_ok : noRq.ok := ⟨rfl, by intro z hz; simp [noRq, zeros16] at hz; omega, by simp [noRq, maxLen, ByteArray.size], by decide, by decide, by decide, by decide⟩
theorem rqOf_ok {rest : List Int} {e : Int} (hb : e = 0 → Bs rest) : (rqOf (rgetR rest e)).ok := by
 unfold rqOf
 split
 ·rename_i he
  have e4 := rawS_err (show (rawS (textS (numS (numS rest e 8).2.1 (numS rest e 8).2.2 1099511627776).2.1 (numS (numS rest e 8).2.1 (numS rest e 8).2.2 1099511627776).2.2 64).2.1 (textS (numS (numS rest e 8).2.1 (numS rest e 8).2.2 1099511627776).2.1 (numS (numS rest e 8).2.1 (numS rest e 8).2.2 1099511627776).2.2 64).2.2 16).2.2 = 0 from he)
  have e3 := textS_err e4
  have e2 := numS_err e3
  have e1 := numS_err e2
  have b0 := hb e1
  obtain ⟨k1, s1⟩ := numS_sub rest e 8
  have b1 : Bs (numS rest e 8).2.1 := by rw [s1]; exact b0.sub _
  obtain ⟨k2, s2⟩ := numS_sub (numS rest e 8).2.1 (numS rest e 8).2.2 1099511627776
  have b2 : Bs (numS (numS rest e 8).2.1 (numS rest e 8).2.2 1099511627776).2.1 := by rw [s2]; exact b1.sub _
  obtain ⟨k3, s3⟩ := textS_sub (numS (numS rest e 8).2.1 (numS rest e 8).2.2 1099511627776).2.1 (numS (numS rest e 8).2.1 (numS rest e 8).2.2 1099511627776).2.2 64
  have c1 := numS_bd (most := 8) hb (by omega)
  have c2 := numS_bd (rest := (numS rest e 8).2.1) (e := (numS rest e 8).2.2) (most := 1099511627776) (fun _ => b1) (by omega)
  have c3 := textS_s (rest := (numS (numS rest e 8).2.1 (numS rest e 8).2.2 1099511627776).2.1) (e := (numS (numS rest e 8).2.1 (numS rest e 8).2.2 1099511627776).2.2) (most := 64) (by omega)
  refine ⟨(rawS_16 _ _).2 he, rawS_t (fun _ => by rw [s3]; exact b2.sub _), ?_, ?_, ?_, ?_, ?_⟩
  ·show (strOf _).size ≤ maxLen
   rw [strOf_size]
   unfold maxLen
   have c3' : ((rgetR rest e).s.length : Int) ≤ 64 := c3
   omega
  ·show _ ≤ (rgetR rest e).c
   have : 0 ≤ (rgetR rest e).c := c1.1
   omega
  ·show (rgetR rest e).c ≤ _
   have : (rgetR rest e).c ≤ 8 := c1.2
   omega
  ·show _ ≤ (rgetR rest e).n
   have : 0 ≤ (rgetR rest e).n := c2.1
   omega
  ·show (rgetR rest e).n ≤ _
   have : (rgetR rest e).n ≤ 1099511627776 := c2.2
   omega
 ·exact noRq_ok
theorem rgetR_err {rest : List Int} {e : Int} (h : (rgetR rest e).err = 0) : e = 0 := numS_err (numS_err (textS_err (rawS_err h)))
theorem getRs_sub (k : Nat) (rest : List Int) (e : Int) : (∃ j, (getRs k rest e).2.1 = rest.drop j) ∧ ((getRs k rest e).2.2 = 0 → e = 0) := by
  induction k with
  | zero => exact ⟨⟨0, rfl⟩, id⟩
  | succ k ih =>
    obtain ⟨⟨j, hj⟩, h2⟩ := ih
    obtain ⟨i, hi⟩ := rgetR_sub (getRs k rest e).2.1 (getRs k rest e).2.2
    refine ⟨⟨j + i, ?_⟩, fun h => h2 (rgetR_err h)⟩
    show (rgetR (getRs k rest e).2.1 (getRs k rest e).2.2).rest = _
    rw [hi, hj, List.drop_drop]
theorem getRs_ok {rest : List Int} {e : Int} (hb : e = 0 → Bs rest) (k : Nat) : ∀ r ∈ (getRs k rest e).1, r.ok := by
  induction k with
  | zero => intro r hr; simp [getRs] at hr
  | succ k ih =>
    intro r hr
    rcases List.mem_append.1 (show r ∈ (getRs k rest e).1 ++ [rqOf (rgetR (getRs k rest e).2.1 (getRs k rest e).2.2)] from hr) with hr | hr
    · exact ih r hr
    · obtain rfl := List.mem_singleton.1 hr
      obtain ⟨⟨j, hj⟩, h2⟩ := getRs_sub k rest e
      exact rqOf_ok (fun h0 => by rw [hj]; exact (hb (h2 h0)).sub _)
theorem getRs_le (k : Nat) (rest : List Int) (e : Int) : (getRs k rest e).2.1.length ≤ rest.length := by
 obtain ⟨⟨j, hj⟩, _⟩ := getRs_sub k rest e
 rw [hj, List.length_drop]; omega
theorem infoR : (Tryz.prog.info? 157).map (fun i => (i.zero, i.size, i.bytes)) = some (some (.agg noReq.toArray), 19, 48) := by kernel_rfl
theorem own_reqs {w : World} {B : Nat} {v : Value} {rs : List BRq} (h : w.ownsRow B 157 19 v rs.length (flatR rs)) (hok : ∀ r ∈ rs, r.ok) (hm : rs.length ≤ maxLen) :
  ∃ a cap, v = .slice a rs.length cap ∧ rs.length ≤ cap ∧ cap ≤ maxLen ∧ ReqsAt w a rs ∧ ∀ x, a = some x → B ≤ x.block := by
 rcases h.2 with ⟨rfl, h0⟩ | ⟨g, cap, cur, rfl, hb, hg, hn, hcm, hcs, ht⟩
 ·have : rs = [] := List.eq_nil_of_length_eq_zero h0
  subst this
  exact ⟨none, 0, rfl, by simp, by unfold maxLen; omega, ReqsAt.none, fun x hx => by cases hx⟩
 ·refine ⟨_, cap, rfl, hn, hcm, ⟨hm, hok, Or.inr ⟨g, 0, rfl, (Array.getElem?_eq_some_iff.1 hg).1, fun j u hu => ?_⟩⟩, fun x hx => by cases hx; exact hb⟩
  have := h.cells (g := g) rfl j u hu
  rwa [Addr.add_mid] at this
theorem take_set_one {α : Type} (l : List α) (k : Nat) (a : α) (hk : k < l.length) : (l.set k a).take (k + 1) = l.take k ++ [a] := by
 apply List.ext_getElem?
 intro i
 rcases Nat.lt_trichotomy i k with h | h | h
 ·rw [List.getElem?_take_of_lt (by omega), List.getElem?_set_ne (by omega), List.getElem?_append_left (by rw [List.length_take]; omega), List.getElem?_take_of_lt h]
 ·subst h
  rw [List.getElem?_take_of_lt (by omega), List.getElem?_set_self hk, List.getElem?_append_right (by rw [List.length_take]; omega), List.length_take, Nat.min_eq_left (by omega), Nat.sub_self]
  rfl
 ·rw [List.getElem?_eq_none (by rw [List.length_take]; omega), List.getElem?_eq_none (by rw [List.length_append, List.length_take]; simp; omega)]
theorem fold_sets : ∀ (u : List Value) (k : Nat) (arr : Array Value), k + u.length = arr.size → List.foldl (fun (cs : Array Value) (x : Value × Nat) => cs.setIfInBounds x.snd x.fst) arr (u.zipIdx k) = (arr.toList.take k ++ u).toArray
  | [], k, arr, h => by
    simp only [List.length_nil, Nat.add_zero] at h
    rw [List.take_of_length_le (by simp [h])]
    simp
  | a :: u, k, arr, h => by
    simp only [List.length_cons] at h
    rw [List.zipIdx_cons, List.foldl_cons, fold_sets u (k + 1) _ (by simp; omega)]
    congr 1
    show List.take (k + 1) (arr.setIfInBounds k a).toList ++ u = _
    rw [Array.toList_setIfInBounds, take_set_one _ _ _ (by simp; omega), List.append_assoc]
    rfl
theorem fold_u (arr : Array Value) (u : List Value) (h : u.length = arr.size) : List.foldl (fun (cs : Array Value) (x : Value × Nat) => cs.setIfInBounds x.snd x.fst) arr u.zipIdx = u.toArray := by
 have := fold_sets u 0 arr (by omega)
 simpa using this
theorem ref_cell {w W : World} {X R o : Nat} (hg : w.grownBy W (some R)) (hX : X < w.heap.size) (hne : X ≠ R) : W.cell? ⟨X, o, none⟩ = w.cell? ⟨X, o, none⟩ :=
 (@cell_block w W X o (hg.block X hX (by intro q; injection q with q; exact hne q))).1
set_option maxRecDepth 100000 in
set_option maxHeartbeats 2000000 in
theorem get1_any (X R : Nat) (rest : List Int) (e : Int) (w : World) (hc : w.cell? ⟨X, 0, none⟩ = some (.pointer (some ⟨R, 0, none⟩))) (hX : X < w.heap.size) (h : St w R rest e) (hl : rest.length ≤ 40000) (hok : (rqOf (rgetR rest e)).ok) :
  Calls Tryz.prog 98 #[.pointer (some ⟨X, 0, none⟩)] w fun en w' => en = .returned (.agg (rqOf (rgetR rest e)).cells.toArray) ∧ St w' R (rgetR rest e).rest (rgetR rest e).err ∧ w.grownBy w' (some R) := by
 have hRw : R < w.heap.size := h.1.1
 have cg := fun w0 h0 => rget_any R rest e w0 h0 hl
 obtain ⟨G, hG⟩ : ∃ G, Hid (rgetR rest e = G) := ⟨_, hide rfl⟩
 simp only [rqOf_cells, hG.out] at cg
 rw [hG.out] at hok ⊢
 clear hG
 obtain ⟨r, hr⟩ : ∃ r, Hid (rqOf G = r) := ⟨_, hide rfl⟩
 simp only [hr.out] at cg
 rw [hr.out] at hok ⊢
 clear hr
 have hiq := hok.isz
 have hiA := hok.iszA
 have hql := hok.length
 have h1c := all_oneCell_toArray r.one
 have hN := there_new w #[.int .i64 0, .int .i64 0, .string ⟨#[]⟩, .int .u8 0, .int .u8 0, .int .u8 0, .int .u8 0, .int .u8 0, .int .u8 0, .int .u8 0, .int .u8 0, .int .u8 0, .int .u8 0, .int .u8 0, .int .u8 0, .int .u8 0, .int .u8 0, .int .u8 0, .int .u8 0] 157
 have hB1 : Below w.heap.size w (w.alloc (.cells #[.int .i64 0, .int .i64 0, .string ⟨#[]⟩, .int .u8 0, .int .u8 0, .int .u8 0, .int .u8 0, .int .u8 0, .int .u8 0, .int .u8 0, .int .u8 0, .int .u8 0, .int .u8 0, .int .u8 0, .int .u8 0, .int .u8 0, .int .u8 0, .int .u8 0, .int .u8 0] 157)) := (Below.refl _ _).alloc (Nat.le_refl _) _
 have hg1 : w.grownBy (w.alloc (.cells #[.int .i64 0, .int .i64 0, .string ⟨#[]⟩, .int .u8 0, .int .u8 0, .int .u8 0, .int .u8 0, .int .u8 0, .int .u8 0, .int .u8 0, .int .u8 0, .int .u8 0, .int .u8 0, .int .u8 0, .int .u8 0, .int .u8 0, .int .u8 0, .int .u8 0, .int .u8 0] 157)) (some R) := World.grownBy_alloc w _ _
 have hs1 : w.heap.size < (w.alloc (.cells #[.int .i64 0, .int .i64 0, .string ⟨#[]⟩, .int .u8 0, .int .u8 0, .int .u8 0, .int .u8 0, .int .u8 0, .int .u8 0, .int .u8 0, .int .u8 0, .int .u8 0, .int .u8 0, .int .u8 0, .int .u8 0, .int .u8 0, .int .u8 0, .int .u8 0, .int .u8 0] 157)).heap.size := by simp
 have hc1 := (hB1.cell (p := ⟨X, 0, none⟩) hX).trans hc
 have h1 := h.below hB1
 obtain ⟨u, hu⟩ : ∃ u, Hid (r.cells = u) := ⟨_, hide rfl⟩
 rw [hu.out] at hiq hiA hql h1c ⊢
 simp only [hu.out] at cg
 clear hu hok
 go_enter Tryz.func98, Tryz.ntmps98
 go_upto_region 1 with fail
 go_name_world w1 hw1
 rw [hw1] at hN hB1 hg1 hs1 hc1 h1
 clear hw1
 have hN : w1.there w.heap.size 0 19 := hN
 obtain ⟨D, hD⟩ : ∃ D, Hid (w.heap.size = D) := ⟨_, hide rfl⟩
 have hDR : D ≠ R := by rw [← hD.out]; omega
 have hRD : R < D := by rw [← hD.out]; exact hRw
 have hDw : w.heap.size ≤ D := by rw [← hD.out]; omega
 rw [hD.out] at hN hs1 ⊢
 go_wp2_with fail
 refine (cg w1 h1).mono ?_
 rintro en w2 ⟨rfl, h2, hg2⟩
 have hN2 := there_gbR hN hg2 hs1 hDR
 have hT2 : w2.there D 0 u.toArray.size := by
  have e : u.toArray.size = 19 := by rw [List.size_toArray, hql]
  rw [e]; exact hN2
 have hRr := World.rangeAt_setCells_same w2 D 0 u (by rw [hql]; exact hN2)
 have hg3 : w2.grownBy (w2.setCells D 0 u) (some D) := gb_setsR w2 D u 0
 have h3 := h2.gb hg3 hRD
 have hgw := gb_onR (gb_trans hg1 hg2) (below_sets hDw u 0 w2 (Below.refl w.heap.size w2)) (Nat.le_refl _)
 have hrs := run_loadVar_mid (P := Tryz.prog) (w2.setCells D 0 u) D 0 157 u _ hRr Tryz.underlying157 rfl hiq
 clear cg h1 h2 hN hN2 hg1 hg2 hg3 hRr hc1 hB1
 go_wp2_with (refine wpList_store_mid (op := ⟨none, .store 157 (.tmp 1) (.tmp 3), _, _, _, none⟩) rfl 157 _ _ rfl _ _ u.toArray rfl rfl hT2 hiA h1c ?_)
 exact bodyPost_ret (v := .agg u.toArray) (by simp [results, Tryz.results98, asAddr, hrs, Act.put]) rfl ⟨rfl, h3, hgw⟩
theorem ReqsAt.gb1 {w w' : World} {a : Option Addr} {rs : List BRq} {R : Nat} (h : ReqsAt w a rs) (hg : w.grownBy w' (some R)) (hne : ∀ x, a = some x → x.block ≠ R) : ReqsAt w' a rs := by
 refine ⟨h.1, h.2.1, ?_⟩
 rcases h.2.2 with h | ⟨b, off, rfl, h1, h2⟩
 ·exact Or.inl h
 ·refine Or.inr ⟨b, off, rfl, Nat.lt_of_lt_of_le h1 hg.size, fun j v hv => ?_⟩
  rw [(@cell_block w w' b (off + j) (hg.block b h1 (by intro q; injection q with q; exact hne _ rfl q))).1]
  exact h2 j v hv
theorem st_low {w w' : World} {R B : Nat} {rest : List Int} {e : Int} (h : St w R rest e) (hb : Below B w w') (hR : R < B) : St w' R rest e := by
 have key : ∀ b, b < B → w'.heap[b]? = w.heap[b]? := fun b hbb => hb.block b hbb
 obtain ⟨⟨h0, h1, h2, h3, f0, f1, f2⟩, hr⟩ := h
 have cR := fun o => @cell_block w w' R o (key R hR)
 refine ⟨⟨Nat.lt_of_lt_of_le h0 hb.size, by rw [(cR 0).1]; exact h1, by rw [(cR 1).1]; exact h2, by rw [(cR 2).1]; exact h3, by rw [(cR 0).2]; exact f0, by rw [(cR 1).2]; exact f1, by rw [(cR 2).2]; exact f2⟩, fun he => ?_⟩
 obtain ⟨a, cap, g1, g2, g3, g4, g5⟩ := hr he
 refine ⟨a, cap, by rw [(cR 0).1]; exact g1, g2, g3, ⟨g4.1, g4.2.1, ?_⟩, g5⟩
 rcases g4.2.2 with g | ⟨b, off, rfl, g6, g7⟩
 ·exact .inl g
 ·have hbR := g5 _ rfl
  exact .inr ⟨b, off, rfl, Nat.lt_of_lt_of_le g6 hb.size, fun j v hv => by rw [(@cell_block w w' b (off + j) (key b (by simp at hbR; omega))).1]; exact g7 j v hv⟩
structure RL (w : World) (R : Nat) (rest : List Int) (e : Int) (k : Nat) (v : Value) (W : World) : Prop where
 own : W.ownsRow (w.heap.size + 1) 157 19 v k (flatR (getRs k rest e).1)
 st : St W R (getRs k rest e).2.1 (getRs k rest e).2.2
 gb : w.grownBy W (some R)
 res : W.there w.heap.size 0 2
 size : w.heap.size + 1 ≤ W.heap.size
def rdB (rest : List Int) (e : Int) : GotB :=
 if (numS rest e 5).1 = 0 then ⟨true, [], (numS rest e 5).2.1, (numS rest e 5).2.2⟩
 else ⟨false, (getRs ((numS rest e 5).1 - 1).toNat (numS rest e 5).2.1 (numS rest e 5).2.2).1,
  (getRs ((numS rest e 5).1 - 1).toNat (numS rest e 5).2.1 (numS rest e 5).2.2).2.1, (getRs ((numS rest e 5).1 - 1).toNat (numS rest e 5).2.1 (numS rest e 5).2.2).2.2⟩
theorem own19 {w w' : World} {B n : Nat} {v : Value} {xs : List Value} {row : Option Nat} (h : w.ownsRow B 157 19 v n xs) (hg : w.grownBy w' row) (hr : ∀ g, row = some g → g < B) : w'.ownsRow B 157 19 v n xs := by
  refine h.kept hg ?_
  cases hv : v.ownBlock with
  | none => exact .inl rfl
  | some k =>
    right
    intro he
    have h1 := (h.lt k hv).1
    have h2 := hr k he.symm
    omega
set_option maxRecDepth 100000 in
set_option maxHeartbeats 4000000 in
theorem readB_any (X R : Nat) (rest : List Int) (e : Int) (w : World) (hc : w.cell? ⟨X, 0, none⟩ = some (.pointer (some ⟨R, 0, none⟩))) (hX : X < w.heap.size) (hXR : X ≠ R) (h : St w R rest e) (hl : rest.length ≤ 40000) (hbs : e = 0 → Bs rest) :
  Calls Tryz.prog 97 #[.func (.func 60) #[.pointer (some ⟨R, 0, none⟩)] #[], .func (.func 98) #[] #[.pointer (some ⟨X, 0, none⟩)]] w fun en w' => ∃ a cap, en = .returned (batV (rdB rest e).q a (rdB rest e).rs.length cap) ∧ (rdB rest e).rs.length ≤ cap ∧ cap ≤ maxLen ∧ ReqsAt w' a (rdB rest e).rs ∧ (∀ x, a = some x → w.heap.size ≤ x.block) ∧ St w' R (rdB rest e).rest (rdB rest e).err ∧ w.grownBy w' (some R) := by
 have hRw : R < w.heap.size := h.1.1
 obtain ⟨i1, hi1, hiz, his, hib⟩ := info_parts infoR
 have cn := fun w0 h0 => num_any R rest e 5 w0 h0
 have hx1 := numS_bd (most := 5) hbs (by omega)
 obtain ⟨j0, hj0⟩ := numS_sub rest e 5
 have hl2 : (numS rest e 5).2.1.length ≤ 40000 := by rw [hj0, List.length_drop]; omega
 have hbs2 : (numS rest e 5).2.2 = 0 → Bs (numS rest e 5).2.1 := fun h0 => by rw [hj0]; exact (hbs (numS_err h0)).sub _
 obtain ⟨G, hG⟩ : ∃ G, Hid (rdB rest e = G) := ⟨_, hide rfl⟩
 rw [hG.out]
 have hG := hG.out
 unfold rdB at hG
 obtain ⟨x1, hx1e⟩ : ∃ x, Hid ((numS rest e 5).1 = x) := ⟨_, hide rfl⟩
 obtain ⟨x2, hx2e⟩ : ∃ x, Hid ((numS rest e 5).2.1 = x) := ⟨_, hide rfl⟩
 obtain ⟨x3, hx3e⟩ : ∃ x, Hid ((numS rest e 5).2.2 = x) := ⟨_, hide rfl⟩
 simp only [hx1e.out, hx2e.out, hx3e.out] at cn hx1 hl2 hbs2 hG
 clear hx1e hx2e hx3e hj0 hbs hl
 have HG := hide hG
 clear hG
 have hN := there_new w #[.bool false, .slice none 0 0] 97
 have hB1 : Below w.heap.size w (w.alloc (.cells #[.bool false, .slice none 0 0] 97)) := (Below.refl _ _).alloc (Nat.le_refl _) _
 have hg1 : w.grownBy (w.alloc (.cells #[.bool false, .slice none 0 0] 97)) (some R) := World.grownBy_alloc w _ _
 have hs1 : w.heap.size + 1 ≤ (w.alloc (.cells #[.bool false, .slice none 0 0] 97)).heap.size := by simp
 go_enter Tryz.func97, Tryz.ntmps97
 go_upto_region 1 with fail
 go_name_world w1 hw1
 rw [hw1] at hN hB1 hg1 hs1
 clear hw1
 have hN : w1.there w.heap.size 0 2 := hN
 go_wp2_with fail
 refine (cn w1 (h.below hB1)).mono ?_
 rintro en w2 ⟨rfl, h2, hg2⟩
 have hgw2 := gb_trans hg1 hg2
 have hN2 := there_gbR hN hg2 (by omega) (by omega)
 have hs2 := Nat.le_trans hs1 hg2.size
 clear cn hN hB1 hg1 hg2 hs1
 by_cases hx0 : x1 = 0
 ·rw [if_pos hx0] at HG
  subst hx0
  go_wp2_with fail
  refine (none_any w2).mono ?_
  rintro en w3 ⟨rfl, hw3⟩
  have hN3 := there_below hN2 hw3 (by omega)
  have hgw3 := gb_onR hgw2 hw3 hgw2.size
  have h3 := h2.below hw3
  have hRr := World.rangeAt_setCells_same w3 w.heap.size 0 [.bool true, .slice none 0 0] hN3
  have hg4 : w3.grownBy (w3.setCells w.heap.size 0 [.bool true, .slice none 0 0]) (some w.heap.size) := gb_setsR w3 w.heap.size [.bool true, .slice none 0 0] 0
  have h4 := h3.gb hg4 hRw
  have hgw4 := gb_onR hgw3 (below_sets (Nat.le_refl w.heap.size) [.bool true, .slice none 0 0] 0 w3 (Below.refl w.heap.size w3)) (Nat.le_refl _)
  have hrs := run_loadVar_mid (P := Tryz.prog) (w3.setCells w.heap.size 0 [.bool true, .slice none 0 0]) w.heap.size 0 97 [.bool true, .slice none 0 0] _ hRr Tryz.underlying97 rfl iszB
  clear hN2 hgw2 h2 hw3 hgw3 h3 hRr hg4
  unfold batV
  go_wp2_with (refine wpList_store_mid (op := ⟨none, .store 97 (.tmp 4) (.tmp 11), _, _, _, none⟩) rfl 97 _ _ rfl _ _ #[.bool true, .slice none 0 0] rfl rfl hN3 iszB (by simp [Value.oneCell']) ?_)
  refine bodyPost_ret (v := .agg #[.bool true, .slice none 0 0]) (by simp [results, Tryz.results97, asAddr, hrs, Act.put]) rfl ⟨none, 0, ?_⟩
  rw [← HG.out]
  exact ⟨rfl, by simp, by unfold maxLen; omega, ReqsAt.none, (fun x hx => by cases hx), h4, hgw4⟩
 ·rw [if_neg hx0] at HG
  obtain ⟨K, rfl⟩ : ∃ K : Nat, x1 = (K : Int) + 1 := ⟨(x1 - 1).toNat, by omega⟩
  have hK4 : K ≤ 4 := by omega
  have b0 : (((K : Int) + 1) == 0) = false := by simp; omega
  have e3 : ((K : Int) + 1 - 1).toNat = K := by omega
  rw [e3] at HG
  have HB := hide hbs2
  have hwr : IntKind.i64.wrap ((K : Int) + 1 - 1) = (K : Int) := by rw [IntKind.wrap_i64] <;> omega
  clear hx0 hx1 e3 hbs2
  go_wp2_with (first
   | refine wpList_make_own _ rfl _ _ 95 rfl (w.heap.size + 1) 157 i1 (.agg noReq.toArray) 19 Tryz.underlying95 hi1 hiz his .i64 .i64 _ K rfl rfl ?d1 ?d2 ?d3 ?d4 ?_)
  case d1 => omega
  case d2 => rw [hib]; omega
  case d3 => unfold maxLen; omega
  case d4 => exact hs2
  intro w3 hown3 hgrow3
  have hb3 : Below w2.heap.size w2 w3 := (Below.refl _ _).grown hgrow3 (Nat.le_refl _) (fun k hk => by cases hk)
  have HL0 : Hid (RL w R x2 x3 0 (.slice (some ⟨w2.heap.size, 0, none⟩) 0 K) w3) := hide ⟨by simpa [getRs, flatR] using hown3, h2.below hb3, gb_onR hgw2 hb3 hgw2.size, there_below hN2 hb3 (by omega), Nat.le_trans hs2 hb3.size⟩
  clear hown3 hgrow3 hb3 h2 hgw2 hN2 hs2
  go_wp2
  go_loopw [6, 17] (fun ov iv wr => ∃ k : Nat, k ≤ K ∧ iv = .int .i64 (k : Int) ∧ Hid (RL w R x2 x3 k ov wr)) (fun _ iv _ => K - (intOf iv).toNat)
  case atStart => exact ⟨0, by omega, rfl, HL0⟩
  case round =>
   clear HL0
   obtain ⟨k, hk, rfl, HL⟩ := hrel
   by_cases hlt : k < K
   ·have k1 : (k : Int) < K := by omega
    have hcx := (ref_cell (o := 0) HL.out.gb hX hXR).trans hc
    have hXr : X < wr.heap.size := Nat.lt_of_lt_of_le hX HL.out.gb.size
    have hle := Nat.le_trans (getRs_le k x2 x3) hl2
    obtain ⟨⟨j, hj⟩, hje⟩ := getRs_sub k x2 x3
    have hok := rqOf_ok (rest := (getRs k x2 x3).2.1) (e := (getRs k x2 x3).2.2) (fun h0 => by rw [hj]; exact (HB.out (hje h0)).sub _)
    have cg := get1_any X R _ _ wr hcx hXr HL.out.st hle hok
    have HS : Hid (flatR (getRs (k + 1) x2 x3).1 = flatR (getRs k x2 x3).1 ++ (rqOf (rgetR (getRs k x2 x3).2.1 (getRs k x2 x3).2.2)).cells) := hide (by
     show flatR ((getRs k x2 x3).1 ++ [rqOf (rgetR (getRs k x2 x3).2.1 (getRs k x2 x3).2.2)]) = _
     rw [flatR_append]
     simp [flatR])
    have HT : Hid ((getRs (k + 1) x2 x3).2 = ((rgetR (getRs k x2 x3).2.1 (getRs k x2 x3).2.2).rest, (rgetR (getRs k x2 x3).2.1 (getRs k x2 x3).2.2).err)) := hide rfl
    obtain ⟨g, hg⟩ : ∃ g, Hid (rgetR (getRs k x2 x3).2.1 (getRs k x2 x3).2.2 = g) := ⟨_, hide rfl⟩
    rw [hg.out] at cg hok HS HT
    obtain ⟨r, hr⟩ : ∃ r, Hid (rqOf g = r) := ⟨_, hide rfl⟩
    rw [hr.out] at cg hok HS
    have hul := hok.length
    have hone := r.one
    obtain ⟨u, hu⟩ : ∃ u, Hid (r.cells = u) := ⟨_, hide rfl⟩
    rw [hu.out] at cg HS hul hone
    obtain ⟨xs, hxs⟩ : ∃ xs, Hid (flatR (getRs k x2 x3).1 = xs) := ⟨_, hide rfl⟩
    have hown := HL.out.own
    rw [hxs.out] at HS hown
    have HO := hide hown
    clear hg hr hu hok hj hje hle hcx hXr hown hxs
    go_wp2_with fail
    refine cg.mono ?_
    rintro en w4 ⟨rfl, h4, hg4⟩
    have hgw4 := gb_trans HL.out.gb hg4
    have hN4 := there_gbR HL.out.res hg4 (by have := HL.out.size; omega) (by omega)
    have hs4 := Nat.le_trans HL.out.size hg4.size
    have HO4 := hide (own19 HO.out hg4 (fun g hh => by cases hh; omega))
    clear cg hg4 HO
    have hb5 : Below w4.heap.size w4 (w4.alloc (.cells u.toArray 157)) := (Below.refl _ _).alloc (Nat.le_refl _) _
    have hR5 : (w4.alloc (.cells u.toArray 157)).rangeAt w4.heap.size 0 u := by simpa using range_new w4 u.toArray 157
    have hsrc : Src Tryz.prog 19 95 (.slice (some ⟨w4.heap.size, 0, none⟩) 1 1) 1 u (w4.alloc (.cells u.toArray 157)) :=
     Src.ofSlice _ Tryz.underlying95 ⟨w4.heap.size, 0, none⟩ 1 1 u (by omega) (fun j v hv => by rw [Addr.add_mid]; exact hR5 j v hv) hone
    have hown5 := HO4.out.alloc (.cells u.toArray 157)
    have HL5 := hide hown5
    have hfold := fold_u #[.int .i64 0, .int .i64 0, .string ⟨#[]⟩, .int .u8 0, .int .u8 0, .int .u8 0, .int .u8 0, .int .u8 0, .int .u8 0, .int .u8 0, .int .u8 0, .int .u8 0, .int .u8 0, .int .u8 0, .int .u8 0, .int .u8 0, .int .u8 0, .int .u8 0, .int .u8 0] u (by rw [hul]; rfl)
    go_wp2_with (at_builtin; refine wpList_append_own_src _ rfl _ _ 95 95 rfl (w.heap.size + 1) 157 i1 (.agg noReq.toArray) 19 48 Tryz.underlying95 hi1 hiz his hib rfl _ k xs rfl hown5 (.slice (some ⟨w4.heap.size, 0, none⟩) 1 1) 1 u rfl hsrc ?c1 ?c2 ?c3 ?_)
    case c1 => unfold maxLen; omega
    case c2 => omega
    case c3 => exact Nat.le_trans hs4 hb5.size
    intro v6 w6 hown6 hgrow6
    have hb6 : Below (w.heap.size + 1) w4 w6 := (hb5.mono hs4).grown hgrow6 (Nat.le_trans hs4 hb5.size) (fun k hk => (HL5.out.lt k hk).1)
    have HL6 : Hid (RL w R x2 x3 (k + 1) v6 w6) := hide ⟨by rw [HS.out]; exact hown6, by rw [HT.out]; exact st_low h4 hb6 (by omega), gb_onR hgw4 hb6 (by omega), there_below hN4 hb6 (by omega), Nat.le_trans hs4 hb6.size⟩
    clear hown5 hown6 hgrow6 hsrc hR5 hb5 HL5 HO4
    go_wp2
    go_roundw
    case rel => exact ⟨k + 1, by omega, by go_num, HL6⟩
    case measure => simp [intOf]; omega
   ·obtain rfl : k = K := by omega
    have HA := hide (getRs_ok (rest := x2) (e := x3) HB.out k)
    have HLen := hide (getRs_length k x2 x3)
    have hown := HL.out.own
    obtain ⟨aa, capp, rfl, hc1, hc2, hrow, hlo⟩ := own_reqs (rs := (getRs k x2 x3).1) (by rw [HLen.out]; exact hown) HA.out (by rw [HLen.out]; unfold maxLen; omega)
    rw [HLen.out] at hc1 ⊢
    have hN3 := HL.out.res
    have hRr := World.rangeAt_setCells_same wr w.heap.size 0 [.bool false, .slice aa k capp] hN3
    have hg4 : wr.grownBy (wr.setCells w.heap.size 0 [.bool false, .slice aa k capp]) (some w.heap.size) := gb_setsR wr w.heap.size _ 0
    have h4 := HL.out.st.gb hg4 hRw
    have hbl : Below w.heap.size wr (wr.setCells w.heap.size 0 [.bool false, .slice aa k capp]) := below_sets (Nat.le_refl w.heap.size) _ 0 wr (Below.refl w.heap.size wr)
    have hgw4 := gb_onR HL.out.gb hbl (Nat.le_refl _)
    have hrow4 : ReqsAt (wr.setCells w.heap.size 0 [.bool false, .slice aa k capp]) aa (getRs k x2 x3).1 := hrow.gb1 hg4 (fun x hx => by have := hlo x hx; omega)
    have hrs := run_loadVar_mid (P := Tryz.prog) (wr.setCells w.heap.size 0 [.bool false, .slice aa k capp]) w.heap.size 0 97 [.bool false, .slice aa k capp] _ hRr Tryz.underlying97 rfl iszB
    have HF : Hid ((∃ a cap, Ending.returned (.agg #[.bool false, .slice aa k capp]) = .returned (batV G.q a G.rs.length cap) ∧ G.rs.length ≤ cap ∧ cap ≤ maxLen ∧ ReqsAt (wr.setCells w.heap.size 0 [.bool false, .slice aa k capp]) a G.rs ∧ (∀ x, a = some x → w.heap.size ≤ x.block) ∧ St (wr.setCells w.heap.size 0 [.bool false, .slice aa k capp]) R G.rest G.err ∧ w.grownBy (wr.setCells w.heap.size 0 [.bool false, .slice aa k capp]) (some R))) := hide (by
     rw [← HG.out]
     refine ⟨aa, capp, ?_, ?_, hc2, hrow4, fun x hx => by have := hlo x hx; omega, h4, hgw4⟩
     ·simp only [HLen.out]; rfl
     ·simp only [HLen.out]; exact hc1)
    clear HG HL hrow hrow4 h4 hgw4 hg4 hRr hbl HA hown hlo
    go_wp2_with (refine wpList_store_mid (op := ⟨none, .store 97 (.tmp 4) (.tmp 26), _, _, _, none⟩) rfl 97 _ _ rfl _ _ #[.bool false, .slice aa k capp] rfl rfl hN3 iszB (by simp [Value.oneCell']) ?_)
    exact bodyPost_ret (v := .agg #[.bool false, .slice aa k capp]) (by simp [results, Tryz.results97, asAddr, hrs, Act.put]) rfl HF.out
theorem getB_good {rest : List Int} {e : Int} (h : (rdB rest e).err = 0) : getB rest e = rdB rest e := by
 unfold rdB at h ⊢
 unfold getB
 split
 ·rename_i h0
  rw [if_pos h0] at h
  simp only at h
  rw [h]
  rfl
 ·rename_i h0
  rw [if_neg h0] at h
  simp only at h
  rw [h, if_pos rfl]
theorem getB_bad {rest : List Int} {e : Int} (h : (rdB rest e).err ≠ 0) : getB rest e = ⟨false, [], (rdB rest e).rest, (rdB rest e).err⟩ := by
 unfold rdB at h ⊢
 unfold getB
 split
 ·rename_i h0
  rw [if_pos h0] at h
  simp only at h
  rw [decide_eq_false h]
 ·rename_i h0
  rw [if_neg h0] at h
  simp only at h
  rw [if_neg h]
set_option maxRecDepth 100000 in
set_option maxHeartbeats 4000000 in
theorem bget_any (R : Nat) (rest : List Int) (e : Int) (w : World) (h : St w R rest e) (hl : rest.length ≤ 40000) (hbs : e = 0 → Bs rest) :
  Calls Tryz.prog 61 #[.pointer (some ⟨R, 0, none⟩)] w fun en w' => ∃ a cap, en = .returned (batV (getB rest e).q a (getB rest e).rs.length cap) ∧ (getB rest e).rs.length ≤ cap ∧ cap ≤ maxLen ∧ ReqsAt w' a (getB rest e).rs ∧ (∀ x, a = some x → w.heap.size ≤ x.block) ∧ St w' R (getB rest e).rest (getB rest e).err ∧ w.grownBy w' (some R) := by
 have hRw : R < w.heap.size := h.1.1
 have cr := fun X w0 hc hX hXR h0 => readB_any X R rest e w0 hc hX hXR h0 hl hbs
 obtain ⟨G, hG⟩ : ∃ G, Hid (getB rest e = G) := ⟨_, hide rfl⟩
 rw [hG.out]
 have HG1 : Hid ((rdB rest e).err = 0 → G = rdB rest e) := hide (fun hh => by rw [← hG.out]; exact getB_good hh)
 have HG2 : Hid ((rdB rest e).err ≠ 0 → G = ⟨false, [], (rdB rest e).rest, (rdB rest e).err⟩) := hide (fun hh => by rw [← hG.out]; exact getB_bad hh)
 obtain ⟨F, hF⟩ : ∃ F, Hid (rdB rest e = F) := ⟨_, hide rfl⟩
 rw [hF.out] at HG1 HG2
 simp only [hF.out] at cr
 clear hF hG
 obtain ⟨q, rs, rest', err⟩ := F
 simp only at cr HG1 HG2
 unfold batV at cr
 have hB1 : Below w.heap.size w ((w.alloc (.cells #[.pointer (some ⟨R, 0, none⟩)] 142)).alloc (.cells #[.bool false, .slice none 0 0] 97)) := ((Below.refl _ _).alloc (Nat.le_refl _) _).alloc (by simp) _
 have hN1 := there_new (w.alloc (.cells #[.pointer (some ⟨R, 0, none⟩)] 142)) #[.bool false, .slice none 0 0] 97
 have hc1 : ((w.alloc (.cells #[.pointer (some ⟨R, 0, none⟩)] 142)).alloc (.cells #[.bool false, .slice none 0 0] 97)).cell? ⟨w.heap.size, 0, none⟩ = some (.pointer (some ⟨R, 0, none⟩)) :=
  World.rangeAt_alloc (range_new w #[.pointer (some ⟨R, 0, none⟩)] 142) _ 0 _ rfl
 have hg1 : w.grownBy ((w.alloc (.cells #[.pointer (some ⟨R, 0, none⟩)] 142)).alloc (.cells #[.bool false, .slice none 0 0] 97)) (some R) := gb_trans (World.grownBy_alloc w _ _) (World.grownBy_alloc _ _ _)
 have hs1 : w.heap.size + 2 ≤ ((w.alloc (.cells #[.pointer (some ⟨R, 0, none⟩)] 142)).alloc (.cells #[.bool false, .slice none 0 0] 97)).heap.size := by simp
 rw [World.size_alloc] at hN1
 go_enter Tryz.func61, Tryz.ntmps61
 go_upto_region 1 with fail
 go_name_world w1 hw1
 rw [hw1] at hB1 hN1 hc1 hg1 hs1
 clear hw1
 have hN1 : w1.there (w.heap.size + 1) 0 2 := hN1
 obtain ⟨X, hX⟩ : ∃ X, Hid (w.heap.size = X) := ⟨_, hide rfl⟩
 obtain ⟨Y, hY⟩ : ∃ Y, Hid (w.heap.size + 1 = Y) := ⟨_, hide rfl⟩
 have hXY : X < Y := by rw [← hX.out, ← hY.out]; omega
 have hRX : R < X := by rw [← hX.out]; exact hRw
 have hwX : w.heap.size ≤ X := by rw [← hX.out]; omega
 have hYs : Y < w1.heap.size := by rw [← hY.out]; omega
 rw [hY.out] at hN1 ⊢
 rw [hX.out] at hc1 ⊢
 have cr1 := cr X w1 hc1 (by omega) (by omega) (h.below hB1)
 clear cr
 go_wp2_with fail
 refine cr1.mono ?_
 rintro en w2 ⟨a, cap, rfl, hc2, hm2, hrow2, hlo2, h2, hg2⟩
 have hc2' := (ref_cell (o := 0) hg2 (by omega) (by omega)).trans hc1
 have hN2 := there_gbR hN1 hg2 hYs (by omega)
 have hgw2 := gb_trans hg1 hg2
 have hs2 := Nat.le_trans (Nat.succ_le_of_lt hYs) hg2.size
 have F := fresh_store w2 #[.bool false, .slice none 0 0] 97 [.bool q, .slice a rs.length cap] rfl
 have hNz : (w2.alloc (.cells #[.bool false, .slice none 0 0] 97)).there w2.heap.size 0 2 := there_new w2 #[.bool false, .slice none 0 0] 97
 clear cr1 hB1 hN1 hc1 hg1
 go_upto_region 2 with (refine wpList_store_mid (op := ⟨none, .store 97 (.tmp 3) (.tmp 7), _, _, _, none⟩) rfl 97 _ _ rfl _ _ #[.bool q, .slice a rs.length cap] rfl rfl hNz iszB (by simp [Value.oneCell']) ?_)
 go_name_world w3 hw3
 rw [show (w2.alloc (.cells #[.bool false, .slice none 0 0] 97)).setCells w2.heap.size 0 [.bool q, .slice a rs.length cap] = w3 from hw3] at F
 clear hw3 hNz
 obtain ⟨hR3, hF3, hz3, _⟩ := F
 have h3 := h2.below hF3
 have hc3 := (hF3.cell (p := ⟨X, 0, none⟩) (by show X < w2.heap.size; omega)).trans hc2'
 have hN3 := there_below hN2 hF3 (by omega)
 have hgw3 := gb_onR hgw2 hF3 hgw2.size
 have hrow3 := hrow2.below hF3
 have hz3' : w2.heap.size < w3.heap.size := by omega
 obtain ⟨Z, hZ⟩ : ∃ Z, Hid (w2.heap.size = Z) := ⟨_, hide rfl⟩
 have hYZ : Y < Z := by rw [← hZ.out]; omega
 rw [hZ.out] at hR3 hz3' ⊢
 clear hrow2 h2 hg2 hc2' hN2 hgw2 hF3 hz3
 try simp only [Act.put]
 go_wp2_with fail
 refine (err_made R err w3 h3.1).mono ?_
 rintro en w4 ⟨rfl, hx⟩
 obtain rfl := hx.symm
 clear hx
 by_cases he : err = 0
 ·have b0 : (err == 0) = true := by simpa using he
  have hGe := HG1.out he
  clear HG1 HG2 he
  have hRr := World.rangeAt_setCells_same w3 Y 0 [.bool q, .slice a rs.length cap] hN3
  have hg5 : w3.grownBy (w3.setCells Y 0 [.bool q, .slice a rs.length cap]) (some Y) := gb_setsR w3 Y _ 0
  have h5 := h3.gb hg5 (by omega)
  have hgw5 := gb_onR hgw3 (below_sets (show w.heap.size ≤ Y by omega) [.bool q, .slice a rs.length cap] 0 w3 (Below.refl w.heap.size w3)) (Nat.le_refl _)
  have hrow5 := hrow3.gb1 hg5 (fun x hx => by have := hlo2 x hx; omega)
  have hrs := run_loadVar_mid (P := Tryz.prog) (w3.setCells Y 0 [.bool q, .slice a rs.length cap]) Y 0 97 [.bool q, .slice a rs.length cap] _ hRr Tryz.underlying97 rfl iszB
  have HF : Hid (∃ a' cap', Ending.returned (.agg #[.bool q, .slice a rs.length cap]) = .returned (batV G.q a' G.rs.length cap') ∧ G.rs.length ≤ cap' ∧ cap' ≤ maxLen ∧ ReqsAt (w3.setCells Y 0 [.bool q, .slice a rs.length cap]) a' G.rs ∧ (∀ x, a' = some x → w.heap.size ≤ x.block) ∧ St (w3.setCells Y 0 [.bool q, .slice a rs.length cap]) R G.rest G.err ∧ w.grownBy (w3.setCells Y 0 [.bool q, .slice a rs.length cap]) (some R)) := hide (by
   rw [hGe]
   exact ⟨a, cap, rfl, hc2, hm2, hrow5, fun x hx => by have := hlo2 x hx; omega, h5, hgw5⟩)
  clear hGe hrow3 hrow5 h3 h5 hgw3 hgw5 hg5 hRr hlo2 hc3
  go_upto_region 4 with fail
  try simp only [Act.put]
  refine wp_region_list ?_
  refine wpList_load_mid rfl 97 _ rfl _ _ rfl [.bool q, .slice a rs.length cap] _ hR3 Tryz.underlying97 rfl iszB ?_
  refine wpList_store_mid rfl 97 _ _ rfl _ _ #[.bool q, .slice a rs.length cap] rfl rfl hN3 iszB (by simp [Value.oneCell']) ?_
  go_wp2
  exact bodyPost_ret (v := .agg #[.bool q, .slice a rs.length cap]) (by simp [results, Tryz.results61, asAddr, hrs, Act.put]) rfl HF.out
 ·have b0 : (err == 0) = false := by simpa using he
  have hGe := HG2.out he
  clear HG1 HG2 he
  have hRr := World.rangeAt_setCells_same w3 Y 0 [.bool false, .slice none 0 0] hN3
  have hg5 : w3.grownBy (w3.setCells Y 0 [.bool false, .slice none 0 0]) (some Y) := gb_setsR w3 Y _ 0
  have h5 := h3.gb hg5 (by omega)
  have hgw5 := gb_onR hgw3 (below_sets (show w.heap.size ≤ Y by omega) [.bool false, .slice none 0 0] 0 w3 (Below.refl w.heap.size w3)) (Nat.le_refl _)
  have hrs := run_loadVar_mid (P := Tryz.prog) (w3.setCells Y 0 [.bool false, .slice none 0 0]) Y 0 97 [.bool false, .slice none 0 0] _ hRr Tryz.underlying97 rfl iszB
  have HF : Hid (∃ a' cap', Ending.returned (.agg #[.bool false, .slice none 0 0]) = .returned (batV G.q a' G.rs.length cap') ∧ G.rs.length ≤ cap' ∧ cap' ≤ maxLen ∧ ReqsAt (w3.setCells Y 0 [.bool false, .slice none 0 0]) a' G.rs ∧ (∀ x, a' = some x → w.heap.size ≤ x.block) ∧ St (w3.setCells Y 0 [.bool false, .slice none 0 0]) R G.rest G.err ∧ w.grownBy (w3.setCells Y 0 [.bool false, .slice none 0 0]) (some R)) := hide (by
   rw [hGe]
   exact ⟨none, 0, rfl, by simp, by unfold maxLen; omega, ReqsAt.none, (fun x hx => by cases hx), h5, hgw5⟩)
  clear hGe hrow3 h3 h5 hgw3 hgw5 hg5 hRr hlo2 hc3
  go_upto_region 3 with fail
  try simp only [Act.put]
  refine wp_region_list ?_
  refine wpList_step fun K hK => ?_
  go_simp
  refine hK _ _ ?_
  clear hK K
  refine wpList_store_mid rfl 97 _ _ rfl _ _ #[.bool false, .slice none 0 0] rfl rfl hN3 iszB (by simp [Value.oneCell']) ?_
  go_wp2
  exact bodyPost_ret (v := .agg #[.bool false, .slice none 0 0]) (by simp [results, Tryz.results61, asAddr, hrs, Act.put]) rfl HF.out
abbrev Rst := List Int × Int × Bool
def itG {α : Type} (one : Rst → α × Rst) (s : Rst) : Nat → List α × Rst
  | 0 => ([], s)
  | k + 1 => ((itG one s k).1 ++ [(one (itG one s k).2).1], (one (itG one s k).2).2)
theorem itG_length {α : Type} (one : Rst → α × Rst) (s : Rst) (k : Nat) : (itG one s k).1.length = k := by
  induction k with
  | zero => rfl
  | succ k ih => simp [itG, ih]
theorem itG_len {α : Type} {one : Rst → α × Rst} (h : ∀ s, (one s).2.1.length ≤ s.1.length) (s : Rst) (k : Nat) : (itG one s k).2.1.length ≤ s.1.length := by
  induction k with
  | zero => exact Nat.le_refl _
  | succ k ih => exact Nat.le_trans (h _) ih
def nuS (most : Int) (s : Rst) : Int × Rst := ((numS s.1 s.2.1 most).1, (numS s.1 s.2.1 most).2.1, (numS s.1 s.2.1 most).2.2, s.2.2)
def siS (s : Rst) : Sg × Rst := ((sgS s.1 s.2.1).1, (sgS s.1 s.2.1).2.1, (sgS s.1 s.2.1).2.2, s.2.2)
def enS (s : Rst) : Ev × Rst := ((evS s.1 s.2.1).1, (evS s.1 s.2.1).2.1, (evS s.1 s.2.1).2.2, s.2.2)
def voS (s : Rst) : Vt × Rst := ((vtS s.1 s.2.1).1, (vtS s.1 s.2.1).2.1, (vtS s.1 s.2.1).2.2, kdZ s.1 s.2.1 2 s.2.2)
def lsS {α : Type} (most : Int) (one : Rst → α × Rst) (s : Rst) : List α × Rst := itG one (nuS most s).2 (nuS most s).1.toNat
theorem nuS_len (most : Int) (s : Rst) : (nuS most s).2.1.length ≤ s.1.length := numS_len _ _ _
theorem siS_len (s : Rst) : (siS s).2.1.length ≤ s.1.length := sgS_len _ _
theorem enS_len (s : Rst) : (enS s).2.1.length ≤ s.1.length := evS_len _ _
theorem voS_len (s : Rst) : (voS s).2.1.length ≤ s.1.length := vtS_len _ _
theorem lsS_len {α : Type} {one : Rst → α × Rst} (h : ∀ s, (one s).2.1.length ≤ s.1.length) (most : Int) (s : Rst) : (lsS most one s).2.1.length ≤ s.1.length := Nat.le_trans (itG_len h _ _) (nuS_len _ _)
structure RS (w : World) (Q R : Nat) (s : Rst) : Prop where
 st : St w R s.1 s.2.1
 mr : MrAt w Q R s.2.2
 qt : w.there Q 0 2
theorem St.bs {w : World} {R : Nat} {rest : List Int} {e : Int} (h : St w R rest e) : e = 0 → Bs rest := fun he => by
 obtain ⟨a, cap, g1, g2, g3, g4, g5⟩ := h.2 he
 exact g4.2.1
theorem RS.gb {w w' : World} {Q R : Nat} {s : Rst} {r : List Int} {e : Int} (h : RS w Q R s) (hg : w.grownBy w' (some R)) (hs : St w' R r e) : RS w' Q R (r, e, s.2.2) :=
 ⟨hs, h.mr.gb hg, there_gbR h.qt hg h.mr.lt (by have := h.mr.ne; omega)⟩
theorem RS.low {w w' : World} {Q R n : Nat} {s : Rst} (h : RS w Q R s) (hb : Below n w w') (hQ : Q < n) : RS w' Q R s :=
 ⟨h.st.belowN hb (Nat.lt_trans h.mr.ne hQ), h.mr.at (hb.block Q hQ) hb.size, there_blk h.qt (hb.block Q hQ)⟩
theorem RS.below {w w' : World} {Q R : Nat} {s : Rst} (h : RS w Q R s) (hb : Below w.heap.size w w') : RS w' Q R s := h.low hb h.mr.lt
theorem Kept.low {w W W' : World} {R Q n : Nat} (h : Kept w R Q W) (hb : Below n W W') (hn : w.heap.size ≤ n) : Kept w R Q W' :=
 ⟨hb.os.trans h.os, hb.tape.trans h.tape, hb.output.trans h.output, Nat.le_trans h.size hb.size, fun i hi k1 k2 => (hb.block i (by omega)).trans (h.block i hi k1 k2)⟩
theorem own_kept {w w' : World} {B k n : Nat} {t : TypeId} {v : Value} {xs : List Value} {R Q : Nat} (h : w.ownsRow B t k v n xs) (hk : Kept w R Q w') (hR : R < B) (hQ : Q < B) : w'.ownsRow B t k v n xs := by
 refine ⟨h.1, ?_⟩
 rcases h.2 with hn | ⟨g, cap, cur, rfl, hb, hgg, rest⟩
 ·exact .inl hn
 ·refine .inr ⟨g, cap, cur, rfl, hb, ?_, rest⟩
  rw [hk.block g (Array.getElem?_eq_some_iff.1 hgg).1 (by omega) (by omega)]
  exact hgg
theorem own_low {B : Nat} {w w1 w2 : World} {v : Value} {n k : Nat} {t : TypeId} {xs : List Value} (hb : Below B w w1) (hB : B ≤ w1.heap.size) (ho : w1.ownsRow B t k v n xs) (hg : w1.grownBy w2 v.ownBlock) : Below B w w2 :=
 hb.grown hg hB (fun k hk => (ho.lt k hk).1)
def Sl.Bk {α : Type} (x : Sl α) (P : Nat → Prop) : Prop := ∀ b, x.xs ≠ [] → x.a = some b → P b.block
theorem Sl.Bk.mono {α : Type} {x : Sl α} {P P' : Nat → Prop} (h : x.Bk P) (hp : ∀ b, P b → P' b) : x.Bk P' := fun b h1 h2 => hp _ (h b h1 h2)
theorem Sl.At.on {α : Type} {E : El α} {w w' : World} {x : Sl α} {P : Nat → Prop} (h : x.At E w) (hs : w.heap.size ≤ w'.heap.size) (hb : x.Bk P) (hp : ∀ b, P b → b < w.heap.size → w'.heap[b]? = w.heap[b]?) : x.At E w' := by
 refine ⟨h.1, h.2.1, ?_⟩
 by_cases h0 : x.xs = []
 ·exact .inl h0
 ·rcases h.2.2 with q | ⟨b, off, e, h1, h2⟩
  ·exact .inl q
  ·exact .inr ⟨b, off, e, Nat.lt_of_lt_of_le h1 hs, range_blk h2 (hp _ (hb _ h0 e) h1)⟩
theorem Sl.At.kept {α : Type} {E : El α} {w w' : World} {R Q n : Nat} {x : Sl α} {P : Nat → Prop} (h : x.At E w) (k : Kept w R Q w') (hR : R < n) (hQ : Q < n) (hb : x.Bk P) (hp : ∀ b, P b → n ≤ b) : x.At E w' :=
 h.on k.size hb (fun b hP hlt => k.block b hlt (by have := hp b hP; omega) (by have := hp b hP; omega))
theorem own_rows {α : Type} {E : El α} {w : World} {B : Nat} {t : TypeId} {v : Value} {ys : List α} (h : w.ownsRow B t E.k v ys.length (ys.flatMap E.f)) (hok : ∀ y ∈ ys, E.ok y) (hm : ys.length ≤ maxLen) :
  ∃ x : Sl α, v = x.val ∧ x.xs = ys ∧ x.At E w ∧ (∀ b, x.a = some b → B ≤ b.block ∧ b.block < w.heap.size ∧ v.ownBlock = some b.block) := by
 rcases h.2 with ⟨rfl, h0⟩ | ⟨g, cap, cur, rfl, hb, hg, hn, hcm, hcs, ht⟩
 ·have : ys = [] := List.eq_nil_of_length_eq_zero h0
  subst this
  exact ⟨⟨none, 0, []⟩, rfl, rfl, RowsAt.none, fun x hx => by cases hx⟩
 ·refine ⟨⟨some ⟨g, 0, none⟩, cap, ys⟩, rfl, rfl, ⟨hm, hok, Or.inr ⟨g, 0, rfl, (Array.getElem?_eq_some_iff.1 hg).1, fun j u hu => ?_⟩⟩, fun x hx => by cases hx; exact ⟨hb, (Array.getElem?_eq_some_iff.1 hg).1, rfl⟩⟩
  have := h.cells (g := g) rfl j u hu
  rwa [Addr.add_mid] at this
theorem run_bs1 {P : Program} (t e : TypeId) (i : TypeInfo) (z : Value) (u : List Value) (ht : P.underlying t = some (.slice e)) (hi : P.info? e = some i) (hz : i.zero = some z) (hs : i.size = u.length) (h0 : 0 < u.length) (hm : u.length ≤ 1000) (w : World) :
  (Instr.buildSlice t 1 #[(0, .agg u.toArray)]).run P w = .ok (.slice (some ⟨w.heap.size, 0, none⟩) 1 1) (w.alloc (.cells u.toArray e)) := by
 have h1 : ¬ 2 ^ 24 < u.length := by omega
 have h2 : u ≠ [] := fun h => by rw [h] at h0; simp at h0
 have hf := fold_u ((Array.range u.length).map (z.cells[· % z.cells.size]!)) u (by simp)
 unfold Instr.buildSlice
 simp [run_underlying ht, sizeOf, zeroValue, typeInfo, hi, hz, hs, h1, h2, Instr.fill, Value.cells, newRow]
 rw [fold_u _ u (by simp)]
theorem exec_bs1 {P : Program} {o : Oper} {a : Act} {w : World} {t e : TypeId} {x : Operand} {u : List Value} (ho : o.op = .buildSlice t 1 #[(0, x)]) (hx : a.eval x = .agg u.toArray) (hr : (Instr.buildSlice t 1 #[(0, .agg u.toArray)]).run P w = .ok (.slice (some ⟨w.heap.size, 0, none⟩) 1 1) (w.alloc (.cells u.toArray e))) :
   (execOp a.eval o).run P w = .ok (.value (.slice (some ⟨w.heap.size, 0, none⟩) 1 1)) (w.alloc (.cells u.toArray e)) := by
  unfold execOp
  simp [ho, hx, hr]
theorem exec_append1 {P : Program} {o : Oper} {a : Act} {w w' : World} {s x : Operand} {t tx : TypeId} {v xv v' : Value} (ho : o.op = .call { callee := .builtin .append, args := #[s, x], argTypes := #[t, tx] }) (hv : a.eval s = v) (hx : a.eval x = xv)
    (hr : (Builtin.append_ #[t, tx] o.type #[v, xv]).run P w = .ok v' w') : (execOp a.eval o).run P w = .ok (.value v') w' := by
  unfold execOp
  simp [ho, resolve, invoke, builtin, hv, hx, hr]
theorem pl_runX {P : Program} {ops : Array Oper} {Q : Exit → Act → World → Prop} {o : Oper} {rest : List Oper} {d : Option Nat} {a : Act} {w : World} {R : Value → World → Prop} (hw : Region.wanted o (yielded ops a.tmps) = true) (hd : o.dst = d) (hy : ∃ v w', (execOp a.eval o).run P w = .ok (.value v) w' ∧ R v w')
  (h : ∀ v w', R v w' → Pl P ops Q rest (a.put d v) w') : Pl P ops Q (o :: rest) a w := by
 obtain ⟨v, w', h1, h2⟩ := hy
 exact pl_run hw h1 hd (h v w' h2)
theorem ex_mk {P : Program} {o : Oper} {a : Act} {w : World} {t e : TypeId} {x : Operand} {i : TypeInfo} {z : Value} {k B : Nat} {c : Int} (ho : o.op = .makeSlice t (.const (.int .i64 0)) x) (hx : a.eval x = .int .i64 c) (h0 : 0 ≤ c) (hc : c ≤ 1000) (ht : P.underlying t = some (.slice e)) (hi : P.info? e = some i) (hz : i.zero = some z) (hs : i.size = k) (hb : i.bytes ≤ 100000) (hB : B ≤ w.heap.size) :
  ∃ v w', (execOp a.eval o).run P w = .ok (.value v) w' ∧ w'.ownsRow B e k v 0 [] ∧ w.grownBy w' none := by
 obtain ⟨n, rfl⟩ : ∃ n : Nat, c = (n : Int) := ⟨c.toNat, by omega⟩
 obtain ⟨w', h1, h2, h3⟩ := run_make_own (P := P) (w := w) B t e i z k ht hi hz hs .i64 .i64 n (Nat.le_trans (Nat.mul_le_mul hb (show n ≤ 1000 by omega)) (by decide)) (by unfold maxLen; omega) hB
 refine ⟨_, w', ?_, h2, h3⟩
 unfold execOp
 have h4 : a.eval (.const (.int .i64 0)) = .int .i64 0 := rfl
 simp only [ho, hx, h4, Sem.run_bind, h1, Result.andThen_ok, Sem.run_pure]
theorem ex_app1 {P : Program} {o : Oper} {a : Act} {w : World} {s x : Operand} {t e : TypeId} {i : TypeInfo} {z : Value} {B cb k : Nat} {v : Value} {n : Nat} {xs u : List Value} (ho : o.op = .call { callee := .builtin .append, args := #[s, x], argTypes := #[t, t] }) (hv : a.eval s = v) (hx : a.eval x = .slice (some ⟨cb, 0, none⟩) 1 1)
    (ht : P.underlying t = some (.slice e)) (hi : P.info? e = some i) (hz : i.zero = some z) (hs : i.size = k) (hb : i.bytes ≤ 100000) (hty : o.type = t)
    (hown : w.ownsRow B e k v n xs) (hB : B ≤ w.heap.size) (hr : w.rangeAt cb 0 u) (hu : u.length = k) (h1 : ∀ y ∈ u, y.oneCell' = true) (hn : n ≤ 1000) (hzk : z.cells.size = k) :
    ∃ v' w', (execOp a.eval o).run P w = .ok (.value v') w' ∧ (w'.ownsRow B e k v' (n + 1) (xs ++ u) ∧ w.grownBy w' v.ownBlock ∧ ∀ g, v'.ownBlock = some g → v.ownBlock = some g ∨ w.heap.size ≤ g) := by
  have hsrc : Src P k t (.slice (some ⟨cb, 0, none⟩) 1 1) 1 u w := Src.ofSlice _ ht ⟨cb, 0, none⟩ 1 1 _ (by simpa using hu) (fun j y hy => by have := hr j y hy; rw [Addr.add_mid]; exact this) h1
  obtain ⟨v', w', hrun, ho2, hg, hap⟩ := run_append_own_src2 (P := P) w B t t o.type e i _ k i.bytes ht hi hz hs rfl (by rw [hzk]) v n xs hown _ 1 u hsrc (by unfold maxLen; omega) (Nat.le_trans (Nat.mul_le_mul (show n + 1 ≤ 1001 by omega) hb) (by decide)) hB
  exact ⟨v', w', exec_append1 ho hv hx hrun, ho2, hg, fun g hg' => (hap g hg').imp id (fun e => by omega)⟩
theorem numS_bz {rest : List Int} {e most : Int} (hb : e = 0 → Bs rest) : (numS rest e most).2.2 = 0 → Bs (numS rest e most).2.1 := fun h => by
 obtain ⟨k, hk⟩ := numS_sub rest e most
 rw [hk]
 exact (hb (numS_err h)).sub _
theorem textS_bz {rest : List Int} {e most : Int} (hb : e = 0 → Bs rest) : (textS rest e most).2.2 = 0 → Bs (textS rest e most).2.1 := fun h => by
 obtain ⟨k, hk⟩ := textS_sub rest e most
 rw [hk]
 exact (hb (textS_err h)).sub _
theorem padN_bs {n : Nat} {zs : List Int} (h : Bs zs) : Bs (padN n zs) := by
 unfold padN
 split
 ·exact h
 ·intro z hz
  have := List.eq_of_mem_replicate hz
  omega
theorem siS_ok (s : Rst) (hb : s.2.1 = 0 → Bs s.1) : SgE.ok (siS s).1 := by
 have h1 := numS_bd (most := 64) hb (by omega)
 exact ⟨padN_len _ _, padN_bs (rawS_t (numS_bz hb)), by show -9223372036854775808 ≤ (numS s.1 s.2.1 64).1; omega, by show (numS s.1 s.2.1 64).1 ≤ _; omega⟩
theorem enS_ok (s : Rst) (hb : s.2.1 = 0 → Bs s.1) : EvE.ok (enS s).1 := by
 have h1 := numS_bd (most := 64) hb (by omega)
 have h2 := textS_s (rest := (numS s.1 s.2.1 64).2.1) (e := (numS s.1 s.2.1 64).2.2) (most := 4194304) (by omega)
 refine ⟨padN_len _ _, padN_bs (rawS_t (textS_bz (numS_bz hb))), ?_, by show -9223372036854775808 ≤ (numS s.1 s.2.1 64).1; omega, by show (numS s.1 s.2.1 64).1 ≤ _; omega⟩
 show (strOf (textS (numS s.1 s.2.1 64).2.1 (numS s.1 s.2.1 64).2.2 4194304).1).size ≤ maxLen
 rw [strOf_size]
 unfold maxLen
 omega
theorem voS_ok (s : Rst) (hb : s.2.1 = 0 → Bs s.1) : (voS s).1.ok := by
 have b1 := numS_bz (most := 2) hb
 have b2 := numS_bz (most := 1048576) b1
 have b3 := numS_bz (most := 1099511627776) b2
 have b4 := numS_bz (most := 1099511627776) b3
 have h1 := (numS_bd (most := 2) hb (by omega)).2
 have h2 := (numS_bd (most := 1048576) b1 (by omega)).2
 have h3 := (numS_bd (most := 1099511627776) b2 (by omega)).2
 have h4 := (numS_bd (most := 1099511627776) b3 (by omega)).2
 exact ⟨Int.le_trans h1 (by decide), Int.le_trans h2 (by decide), Int.le_trans h3 (by decide), Int.le_trans h4 (by decide), padN_len _ _, padN_bs (rawS_t b4)⟩
theorem rsignS (Q R : Nat) (s : Rst) (w : World) (h : RS w Q R s) (hl : s.1.length ≤ 40000) : Calls Tryz.prog 70 #[.pointer (some ⟨Q, 0, none⟩)] w fun en w' => en = .returned (.agg (SgE.f (siS s).1).toArray) ∧ RS w' Q R (siS s).2 ∧ Kept w R Q w' :=
 (rsign_any Q R s.2.2 s.1 s.2.1 w h.st h.mr hl).mono (by rintro _ w1 ⟨rfl, h1, h2⟩; exact ⟨rfl, h.gb h2 h1, Kept.of h2⟩)
theorem renvS (Q R : Nat) (s : Rst) (w : World) (h : RS w Q R s) (hl : s.1.length ≤ 40000) : Calls Tryz.prog 65 #[.pointer (some ⟨Q, 0, none⟩)] w fun en w' => en = .returned (.agg (EvE.f (enS s).1).toArray) ∧ RS w' Q R (enS s).2 ∧ Kept w R Q w' :=
 (renv_any Q R s.2.2 s.1 s.2.1 w h.st h.mr hl).mono (by rintro _ w1 ⟨rfl, h1, h2⟩; exact ⟨rfl, h.gb h2 h1, Kept.of h2⟩)
theorem rvoteS (Q R : Nat) (s : Rst) (w : World) (h : RS w Q R s) (hl : s.1.length ≤ 40000) : Calls Tryz.prog 62 #[.pointer (some ⟨Q, 0, none⟩)] w fun en w' => en = .returned (.agg (voS s).1.cells.toArray) ∧ RS w' Q R (voS s).2 ∧ Kept w R Q w' :=
 (rvote_any Q R s.2.2 s.1 s.2.1 w h.st h.mr h.qt hl).mono (by rintro _ w1 ⟨rfl, h1, h2, h3, h4⟩; exact ⟨rfl, ⟨h1, h2, h4⟩, h3⟩)
structure LR {α : Type} (w : World) (Q R : Nat) (E : El α) (Te : TypeId) (one : Rst → α × Rst) (t : Rst) (k : Nat) (v : Value) (W : World) : Prop where
 own : W.ownsRow w.heap.size Te E.k v k ((itG one t k).1.flatMap E.f)
 rs : RS W Q R (itG one t k).2
 kept : Kept w R Q W
 ok : ∀ y ∈ (itG one t k).1, E.ok y
theorem itG_okS {α : Type} {E : El α} {one : Rst → α × Rst} {t : Rst} {k : Nat} (h : ∀ y ∈ (itG one t k).1, E.ok y) (h1 : E.ok (one (itG one t k).2).1) : ∀ y ∈ (itG one t (k + 1)).1, E.ok y := by
 intro y hy
 rcases List.mem_append.1 (show y ∈ (itG one t k).1 ++ [(one (itG one t k).2).1] from hy) with g | g
 ·exact h y g
 ·rw [List.mem_singleton.1 g]; exact h1
def infoSg0 : List Value := [Value.int .i64 0] ++ v8 (List.replicate 16 0)
def infoEv0 : List Value := [Value.int .i64 0, .string ⟨#[]⟩] ++ v8 (List.replicate 16 0)
theorem infoSg : (Tryz.prog.info? 131).map (fun i => (i.zero, i.size, i.bytes)) = some (some (.agg infoSg0.toArray), 17, 24) := by kernel_rfl
theorem infoEv : (Tryz.prog.info? 32).map (fun i => (i.zero, i.size, i.bytes)) = some (some (.agg infoEv0.toArray), 18, 40) := by kernel_rfl
theorem zk_rlistS_any : (Value.agg (infoSg0).toArray).cells.size = 17 := by decide
set_option maxRecDepth 100000 in
set_option maxHeartbeats 1000000 in
theorem rlistS_any (Q R : Nat) (s : Rst) (w : World) (h : RS w Q R s) (hl : s.1.length ≤ 40000) : Calls Tryz.prog 69 #[.func (.func 60) #[.pointer (some ⟨R, 0, none⟩)] #[], .int .i64 64, .func (.func 70) #[.pointer (some ⟨Q, 0, none⟩)] #[]] w fun en w' => ∃ x : Sl Sg, en = .returned x.val ∧ x.xs = (lsS 64 siS s).1 ∧ x.At SgE w' ∧ x.Bk (fun b => w.heap.size ≤ b ∧ b < w'.heap.size) ∧ RS w' Q R (lsS 64 siS s).2 ∧ Kept w R Q w' := by
 obtain ⟨i1, hi1, hiz, his, hib⟩ := info_parts infoSg
 have hzk := zk_rlistS_any
 have hRw := h.st.1.1
 have hQw := h.mr.lt
 have cn := fun w0 h0 => num_any R s.1 s.2.1 64 w0 h0
 have hx1 := numS_bd (most := 64) h.st.bs (by omega)
 have hx2 := nuS_len 64 s
 have hRS := fun w0 (g : w.grownBy w0 (some R)) hs => h.gb (r := (nuS 64 s).2.1) (e := (nuS 64 s).2.2.1) g hs
 unfold lsS
 have e1 : (numS s.1 s.2.1 64).1 = (nuS 64 s).1 := rfl
 have e2 : (numS s.1 s.2.1 64).2.1 = (nuS 64 s).2.1 := rfl
 have e3 : (numS s.1 s.2.1 64).2.2 = (nuS 64 s).2.2.1 := rfl
 have e4 : s.2.2 = (nuS 64 s).2.2.2 := rfl
 rw [e1] at hx1
 simp only [e1, e2, e3] at cn
 simp only [e4] at hRS
 clear e1 e2 e3 e4
 generalize nuS 64 s = p_ at hx1 hx2 cn hRS ⊢
 obtain ⟨n, t⟩ := p_
 simp only at hx1 hx2 cn hRS ⊢
 obtain ⟨N, rfl⟩ : ∃ N : Nat, n = (N : Int) := ⟨n.toNat, by omega⟩
 have hN : N ≤ 64 := by omega
 rw [Int.toNat_natCast]
 have hlt2 : t.1.length ≤ 40000 := Nat.le_trans hx2 hl
 clear hx1 hx2 hl
 go_enter Tryz.func69, Tryz.ntmps69
 go_upto_region 1 with fail
 try simp only [Act.put]
 refine pl_begin ?_
 refine pl_t 9 (?_) (by rfl) ?_ rfl ?_
 rotate_left
 ·go_simp
  try with_reducible rfl
 simp only [nz]
 refine pl_t 10 (?_) (by rfl) ?_ rfl ?_
 rotate_left
 ·go_simp
  try with_reducible rfl
 simp only [nz]
 refine pl_call (d := some 11) (by rfl) (by go_simp; first | done | exact ⟨rfl, rfl⟩ | with_reducible rfl) rfl ?_
 refine (cn w h.st).mono ?_
 rintro _ w2 ⟨rfl, h2, g2⟩
 refine ⟨_, rfl, ?_⟩
 simp only [nz]
 refine pl_t 7 (?_) (by rfl) ?_ rfl ?_
 rotate_left
 ·go_simp
  try with_reducible rfl
 simp only [nz]
 refine pl_nil ?_
 have S2 := hRS w2 g2 h2
 have k2 : Kept w R Q w2 := Kept.of g2
 clear cn hRS h2 g2
 go_upto_region 2 with fail
 try simp only [Act.put]
 refine pl_begin ?_
 refine pl_t 12 (?_) (by rfl) ?_ rfl ?_
 rotate_left
 ·go_simp
  try with_reducible rfl
 simp only [nz]
 refine pl_runX (d := some 13) (by rfl) rfl (ex_mk (B := w.heap.size) (c := (N : Int)) rfl rfl (by omega) (by omega) Tryz.underlying105 hi1 hiz his (by rw [hib]; decide) k2.size) ?_
 rintro v3 w3 ⟨o3, g3⟩
 simp only [nz]
 refine pl_t 8 (?_) (by rfl) ?_ rfl ?_
 rotate_left
 ·go_simp
  try with_reducible rfl
 simp only [nz]
 refine pl_nil ?_
 have hb3 : Below w2.heap.size w2 w3 := (Below.refl _ _).grown g3 (Nat.le_refl _) (fun k hk => by cases hk)
 have HL0 : Hid (LR w Q R SgE 131 siS t 0 v3 w3) := hide ⟨o3, S2.below hb3, k2.below hb3, fun y hy => by cases hy⟩
 clear o3 g3 hb3 S2 k2 h
 go_wp2_with fail
 go_loopw [8, 15] (fun ov iv wr => ∃ k : Nat, k ≤ N ∧ iv = .int .i64 (k : Int) ∧ Hid (LR w Q R SgE 131 siS t k ov wr)) (fun _ iv _ => N - (intOf iv).toNat)
 case atStart => exact ⟨0, by omega, rfl, HL0⟩
 case round =>
  clear HL0
  obtain ⟨k, hk, rfl, HL⟩ := hrel
  by_cases hlt : k < N
  ·have k1 : (k : Int) < N := by omega
   have HL := HL.out
   have hle := Nat.le_trans (itG_len siS_len t k) hlt2
   have cE := rsignS Q R (itG siS t k).2 wr HL.rs hle
   have hok := siS_ok (itG siS t k).2 HL.rs.st.bs
   have HS : Hid ((itG siS t (k + 1)).1.flatMap SgE.f = (itG siS t k).1.flatMap SgE.f ++ SgE.f (siS (itG siS t k).2).1) := hide (by
    show ((itG siS t k).1 ++ [(siS (itG siS t k).2).1]).flatMap SgE.f = _
    rw [List.flatMap_append]
    simp)
   have HT : Hid ((itG siS t (k + 1)).2 = (siS (itG siS t k).2).2) := hide rfl
   have hul : (SgE.f (siS (itG siS t k).2).1).length = 17 := SgE.len _ hok
   have hone := SgE.one (siS (itG siS t k).2).1
   obtain ⟨u, hu⟩ : ∃ u, Hid (SgE.f (siS (itG siS t k).2).1 = u) := ⟨_, hide rfl⟩
   obtain ⟨t', ht'⟩ : ∃ t', Hid ((siS (itG siS t k).2).2 = t') := ⟨_, hide rfl⟩
   have cE : Calls Tryz.prog 70 #[.pointer (some ⟨Q, 0, none⟩)] wr fun en w' => en = .returned (.agg (SgE.f (siS (itG siS t k).2).1).toArray) ∧ RS w' Q R (siS (itG siS t k).2).2 ∧ Kept wr R Q w' := cE
   rw [hu.out] at HS hul hone cE
   rw [ht'.out] at HT cE
   have HO : Hid (∀ y ∈ (itG siS t (k + 1)).1, SgE.ok y) := hide (itG_okS HL.ok hok)
   clear hu ht' hok hle
   go_upto_region 5 with fail
   try simp only [Act.put]
   refine pl_begin ?_
   refine pl_t 17 (?_) (by rfl) ?_ rfl ?_
   rotate_left
   ·go_simp
    try with_reducible rfl
   simp only [nz]
   refine pl_t 18 (?_) (by rfl) ?_ rfl ?_
   rotate_left
   ·go_simp
    try with_reducible rfl
   simp only [nz]
   refine pl_call (d := some 19) (by rfl) (by go_simp; first | done | exact ⟨rfl, rfl⟩ | with_reducible rfl) rfl ?_
   refine (cE).mono ?_
   rintro _ w4 hfin
   obtain ⟨rfl, S4, k4⟩ := hfin
   refine ⟨_, rfl, ?_⟩
   simp only [nz]
   have o4 := own_kept HL.own k4 (by omega) (by omega)
   have hb5 : Below w4.heap.size w4 (w4.alloc (.cells u.toArray 131)) := (Below.refl _ _).alloc (Nat.le_refl _) _
   have r5 : (w4.alloc (.cells u.toArray 131)).rangeAt w4.heap.size 0 u := by simpa using range_new w4 u.toArray 131
   have o5 := o4.alloc (.cells u.toArray 131)
   refine pl_run (d := some 20) (v := .slice (some ⟨w4.heap.size, 0, none⟩) 1 1) (w' := w4.alloc (.cells u.toArray 131)) (by rfl) (exec_bs1 rfl rfl (run_bs1 105 131 i1 _ u Tryz.underlying105 hi1 hiz (by rw [his, hul]) (by omega) (by omega) _)) rfl ?_
   simp only [nz]
   have s4 : w.heap.size ≤ w4.heap.size := Nat.le_trans HL.kept.size k4.size
   obtain ⟨w5, hw5⟩ : ∃ W, w4.alloc (.cells u.toArray 131) = W := ⟨_, rfl⟩
   rw [hw5] at hb5 r5 o5 ⊢
   clear hw5
   refine pl_runX (d := some 21) (by rfl) rfl (ex_app1 rfl rfl rfl Tryz.underlying105 hi1 hiz his (by rw [hib]; decide) rfl o5 (Nat.le_trans s4 hb5.size) r5 hul hone (by omega) hzk) ?_
   rintro v6 w6 ⟨o6, g6, -⟩
   simp only [nz]
   refine pl_t 8 (?_) (by rfl) ?_ rfl ?_
   rotate_left
   ·go_simp
    try with_reducible rfl
   simp only [nz]
   refine pl_nil ?_
   have b6 : Below w.heap.size w4 w6 := own_low (hb5.mono s4) (Nat.le_trans s4 hb5.size) o5 g6
   have HL6 : Hid (LR w Q R SgE 131 siS t (k + 1) v6 w6) := hide ⟨by rw [HS.out]; exact o6, by rw [HT.out]; exact S4.low b6 hQw, (HL.kept.trans k4).low b6 (Nat.le_refl _), HO.out⟩
   clear HL o4 o5 o6 g6 b6 S4 k4 hb5 r5 HS HT cE
   go_wp2_with fail
   go_roundw
   case rel => exact ⟨k + 1, by omega, by go_num, HL6⟩
   case measure => simp [intOf]; omega
  ·obtain rfl : k = N := by omega
   have HL := HL.out
   have hok := HL.ok
   obtain ⟨x, rfl, hx, hA, hB⟩ := own_rows (E := SgE) (ys := (itG siS t k).1) (by rw [itG_length]; exact HL.own) hok (by rw [itG_length]; unfold maxLen; omega)
   have HF : Hid (∃ y : Sl Sg, Ending.returned x.val = .returned y.val ∧ y.xs = (itG siS t k).1 ∧ y.At SgE wr ∧ y.Bk (fun b => w.heap.size ≤ b ∧ b < wr.heap.size) ∧ RS wr Q R (itG siS t k).2 ∧ Kept w R Q wr) := hide ⟨x, rfl, hx, hA, fun b _ hb => ⟨(hB b hb).1, (hB b hb).2.1⟩, HL.rs, HL.kept⟩
   clear HL hok hA hB hx
   go_wp2_with fail
   go_ret
   exact HF.out
theorem zk_rlistE_any : (Value.agg (infoEv0).toArray).cells.size = 18 := by decide
set_option maxRecDepth 100000 in
set_option maxHeartbeats 1000000 in
theorem rlistE_any (Q R : Nat) (s : Rst) (w : World) (h : RS w Q R s) (hl : s.1.length ≤ 40000) : Calls Tryz.prog 64 #[.func (.func 60) #[.pointer (some ⟨R, 0, none⟩)] #[], .int .i64 64, .func (.func 65) #[.pointer (some ⟨Q, 0, none⟩)] #[]] w fun en w' => ∃ x : Sl Ev, en = .returned x.val ∧ x.xs = (lsS 64 enS s).1 ∧ x.At EvE w' ∧ x.Bk (fun b => w.heap.size ≤ b ∧ b < w'.heap.size) ∧ RS w' Q R (lsS 64 enS s).2 ∧ Kept w R Q w' := by
 obtain ⟨i1, hi1, hiz, his, hib⟩ := info_parts infoEv
 have hzk := zk_rlistE_any
 have hRw := h.st.1.1
 have hQw := h.mr.lt
 have cn := fun w0 h0 => num_any R s.1 s.2.1 64 w0 h0
 have hx1 := numS_bd (most := 64) h.st.bs (by omega)
 have hx2 := nuS_len 64 s
 have hRS := fun w0 (g : w.grownBy w0 (some R)) hs => h.gb (r := (nuS 64 s).2.1) (e := (nuS 64 s).2.2.1) g hs
 unfold lsS
 have e1 : (numS s.1 s.2.1 64).1 = (nuS 64 s).1 := rfl
 have e2 : (numS s.1 s.2.1 64).2.1 = (nuS 64 s).2.1 := rfl
 have e3 : (numS s.1 s.2.1 64).2.2 = (nuS 64 s).2.2.1 := rfl
 have e4 : s.2.2 = (nuS 64 s).2.2.2 := rfl
 rw [e1] at hx1
 simp only [e1, e2, e3] at cn
 simp only [e4] at hRS
 clear e1 e2 e3 e4
 generalize nuS 64 s = p_ at hx1 hx2 cn hRS ⊢
 obtain ⟨n, t⟩ := p_
 simp only at hx1 hx2 cn hRS ⊢
 obtain ⟨N, rfl⟩ : ∃ N : Nat, n = (N : Int) := ⟨n.toNat, by omega⟩
 have hN : N ≤ 64 := by omega
 rw [Int.toNat_natCast]
 have hlt2 : t.1.length ≤ 40000 := Nat.le_trans hx2 hl
 clear hx1 hx2 hl
 go_enter Tryz.func64, Tryz.ntmps64
 go_upto_region 1 with fail
 try simp only [Act.put]
 refine pl_begin ?_
 refine pl_t 9 (?_) (by rfl) ?_ rfl ?_
 rotate_left
 ·go_simp
  try with_reducible rfl
 simp only [nz]
 refine pl_t 10 (?_) (by rfl) ?_ rfl ?_
 rotate_left
 ·go_simp
  try with_reducible rfl
 simp only [nz]
 refine pl_call (d := some 11) (by rfl) (by go_simp; first | done | exact ⟨rfl, rfl⟩ | with_reducible rfl) rfl ?_
 refine (cn w h.st).mono ?_
 rintro _ w2 ⟨rfl, h2, g2⟩
 refine ⟨_, rfl, ?_⟩
 simp only [nz]
 refine pl_t 7 (?_) (by rfl) ?_ rfl ?_
 rotate_left
 ·go_simp
  try with_reducible rfl
 simp only [nz]
 refine pl_nil ?_
 have S2 := hRS w2 g2 h2
 have k2 : Kept w R Q w2 := Kept.of g2
 clear cn hRS h2 g2
 go_upto_region 2 with fail
 try simp only [Act.put]
 refine pl_begin ?_
 refine pl_t 12 (?_) (by rfl) ?_ rfl ?_
 rotate_left
 ·go_simp
  try with_reducible rfl
 simp only [nz]
 refine pl_runX (d := some 13) (by rfl) rfl (ex_mk (B := w.heap.size) (c := (N : Int)) rfl rfl (by omega) (by omega) Tryz.underlying51 hi1 hiz his (by rw [hib]; decide) k2.size) ?_
 rintro v3 w3 ⟨o3, g3⟩
 simp only [nz]
 refine pl_t 8 (?_) (by rfl) ?_ rfl ?_
 rotate_left
 ·go_simp
  try with_reducible rfl
 simp only [nz]
 refine pl_nil ?_
 have hb3 : Below w2.heap.size w2 w3 := (Below.refl _ _).grown g3 (Nat.le_refl _) (fun k hk => by cases hk)
 have HL0 : Hid (LR w Q R EvE 32 enS t 0 v3 w3) := hide ⟨o3, S2.below hb3, k2.below hb3, fun y hy => by cases hy⟩
 clear o3 g3 hb3 S2 k2 h
 go_wp2_with fail
 go_loopw [8, 15] (fun ov iv wr => ∃ k : Nat, k ≤ N ∧ iv = .int .i64 (k : Int) ∧ Hid (LR w Q R EvE 32 enS t k ov wr)) (fun _ iv _ => N - (intOf iv).toNat)
 case atStart => exact ⟨0, by omega, rfl, HL0⟩
 case round =>
  clear HL0
  obtain ⟨k, hk, rfl, HL⟩ := hrel
  by_cases hlt : k < N
  ·have k1 : (k : Int) < N := by omega
   have HL := HL.out
   have hle := Nat.le_trans (itG_len enS_len t k) hlt2
   have cE := renvS Q R (itG enS t k).2 wr HL.rs hle
   have hok := enS_ok (itG enS t k).2 HL.rs.st.bs
   have HS : Hid ((itG enS t (k + 1)).1.flatMap EvE.f = (itG enS t k).1.flatMap EvE.f ++ EvE.f (enS (itG enS t k).2).1) := hide (by
    show ((itG enS t k).1 ++ [(enS (itG enS t k).2).1]).flatMap EvE.f = _
    rw [List.flatMap_append]
    simp)
   have HT : Hid ((itG enS t (k + 1)).2 = (enS (itG enS t k).2).2) := hide rfl
   have hul : (EvE.f (enS (itG enS t k).2).1).length = 18 := EvE.len _ hok
   have hone := EvE.one (enS (itG enS t k).2).1
   obtain ⟨u, hu⟩ : ∃ u, Hid (EvE.f (enS (itG enS t k).2).1 = u) := ⟨_, hide rfl⟩
   obtain ⟨t', ht'⟩ : ∃ t', Hid ((enS (itG enS t k).2).2 = t') := ⟨_, hide rfl⟩
   have cE : Calls Tryz.prog 65 #[.pointer (some ⟨Q, 0, none⟩)] wr fun en w' => en = .returned (.agg (EvE.f (enS (itG enS t k).2).1).toArray) ∧ RS w' Q R (enS (itG enS t k).2).2 ∧ Kept wr R Q w' := cE
   rw [hu.out] at HS hul hone cE
   rw [ht'.out] at HT cE
   have HO : Hid (∀ y ∈ (itG enS t (k + 1)).1, EvE.ok y) := hide (itG_okS HL.ok hok)
   clear hu ht' hok hle
   go_upto_region 5 with fail
   try simp only [Act.put]
   refine pl_begin ?_
   refine pl_t 17 (?_) (by rfl) ?_ rfl ?_
   rotate_left
   ·go_simp
    try with_reducible rfl
   simp only [nz]
   refine pl_t 18 (?_) (by rfl) ?_ rfl ?_
   rotate_left
   ·go_simp
    try with_reducible rfl
   simp only [nz]
   refine pl_call (d := some 19) (by rfl) (by go_simp; first | done | exact ⟨rfl, rfl⟩ | with_reducible rfl) rfl ?_
   refine (cE).mono ?_
   rintro _ w4 hfin
   obtain ⟨rfl, S4, k4⟩ := hfin
   refine ⟨_, rfl, ?_⟩
   simp only [nz]
   have o4 := own_kept HL.own k4 (by omega) (by omega)
   have hb5 : Below w4.heap.size w4 (w4.alloc (.cells u.toArray 32)) := (Below.refl _ _).alloc (Nat.le_refl _) _
   have r5 : (w4.alloc (.cells u.toArray 32)).rangeAt w4.heap.size 0 u := by simpa using range_new w4 u.toArray 32
   have o5 := o4.alloc (.cells u.toArray 32)
   refine pl_run (d := some 20) (v := .slice (some ⟨w4.heap.size, 0, none⟩) 1 1) (w' := w4.alloc (.cells u.toArray 32)) (by rfl) (exec_bs1 rfl rfl (run_bs1 51 32 i1 _ u Tryz.underlying51 hi1 hiz (by rw [his, hul]) (by omega) (by omega) _)) rfl ?_
   simp only [nz]
   have s4 : w.heap.size ≤ w4.heap.size := Nat.le_trans HL.kept.size k4.size
   obtain ⟨w5, hw5⟩ : ∃ W, w4.alloc (.cells u.toArray 32) = W := ⟨_, rfl⟩
   rw [hw5] at hb5 r5 o5 ⊢
   clear hw5
   refine pl_runX (d := some 21) (by rfl) rfl (ex_app1 rfl rfl rfl Tryz.underlying51 hi1 hiz his (by rw [hib]; decide) rfl o5 (Nat.le_trans s4 hb5.size) r5 hul hone (by omega) hzk) ?_
   rintro v6 w6 ⟨o6, g6, -⟩
   simp only [nz]
   refine pl_t 8 (?_) (by rfl) ?_ rfl ?_
   rotate_left
   ·go_simp
    try with_reducible rfl
   simp only [nz]
   refine pl_nil ?_
   have b6 : Below w.heap.size w4 w6 := own_low (hb5.mono s4) (Nat.le_trans s4 hb5.size) o5 g6
   have HL6 : Hid (LR w Q R EvE 32 enS t (k + 1) v6 w6) := hide ⟨by rw [HS.out]; exact o6, by rw [HT.out]; exact S4.low b6 hQw, (HL.kept.trans k4).low b6 (Nat.le_refl _), HO.out⟩
   clear HL o4 o5 o6 g6 b6 S4 k4 hb5 r5 HS HT cE
   go_wp2_with fail
   go_roundw
   case rel => exact ⟨k + 1, by omega, by go_num, HL6⟩
   case measure => simp [intOf]; omega
  ·obtain rfl : k = N := by omega
   have HL := HL.out
   have hok := HL.ok
   obtain ⟨x, rfl, hx, hA, hB⟩ := own_rows (E := EvE) (ys := (itG enS t k).1) (by rw [itG_length]; exact HL.own) hok (by rw [itG_length]; unfold maxLen; omega)
   have HF : Hid (∃ y : Sl Ev, Ending.returned x.val = .returned y.val ∧ y.xs = (itG enS t k).1 ∧ y.At EvE wr ∧ y.Bk (fun b => w.heap.size ≤ b ∧ b < wr.heap.size) ∧ RS wr Q R (itG enS t k).2 ∧ Kept w R Q wr) := hide ⟨x, rfl, hx, hA, fun b _ hb => ⟨(hB b hb).1, (hB b hb).2.1⟩, HL.rs, HL.kept⟩
   clear HL hok hA hB hx
   go_wp2_with fail
   go_ret
   exact HF.out
end Go.Proofs.YtilbjeeabecfjaaGreat
