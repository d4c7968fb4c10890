/- the reader's votes -/
import Derived.Test.YtahdmajppnffeaaJM15
namespace Go.Proofs.Ytahdmajppnffeaa
open Go.RowKit
open Sha Tal
set_option linter.unusedVariables false
set_option linter.unusedSimpArgs false
theorem Kept.blk {w W : World} {R Q b : Nat} (h : Kept w R Q W) (hb : b < w.heap.size) (h1 : b ≠ R) (h2 : b ≠ Q) : W.heap[b]? = w.heap[b]? := h.block b hb h1 h2
theorem range_blk {w w' : World} {b o : Nat} {cs : List Value} (h : w.rangeAt b o cs) (hb : w'.heap[b]? = w.heap[b]?) : w'.rangeAt b o cs := fun j v hv => by
  rw [(@cell_block w w' b (o + j) hb).1]
  exact h j v hv
/-- what is read lies in the block B; the answer will lie in the block A -/
structure VS (w : World) (Q R A B n : Nat) (q : List Value) (z : Bool) (W : World) : Prop where
  row : W.rangeAt B 0 q
  box : W.there B 0 n
  ans : W.there A 0 n
  kept : Kept w R Q W
  mr : MrAt W Q R z
  qt : W.there Q 0 2
  la : A < W.heap.size
  lb : B < W.heap.size
  na : w.heap.size ≤ A
  nb : w.heap.size ≤ B
  ne : A ≠ B
  rq : R < w.heap.size ∧ Q < w.heap.size
theorem VS.on {w W W' : World} {Q R A B n : Nat} {q : List Value} {z z' : Bool} (h : VS w Q R A B n q z W) (k : Kept W R Q W') (m : MrAt W' Q R z') (t : W'.there Q 0 2) : VS w Q R A B n q z' W' := by
  have h1 := h.na
  have h2 := h.nb
  have h3 := h.rq
  exact ⟨range_blk h.row (k.blk h.lb (by omega) (by omega)), there_blk h.box (k.blk h.lb (by omega) (by omega)), there_blk h.ans (k.blk h.la (by omega) (by omega)), h.kept.trans k, m, t, Nat.lt_of_lt_of_le h.la k.size, Nat.lt_of_lt_of_le h.lb k.size, h1, h2, h.ne, h3⟩
theorem VS.gb {w W W' : World} {Q R A B n : Nat} {q : List Value} {z : Bool} (h : VS w Q R A B n q z W) (g : W.grownBy W' (some R)) : VS w Q R A B n q z W' :=
  h.on (Kept.of g) (h.mr.gb g) (there_gbR h.qt g h.mr.lt (by have := h.mr.ne; omega))
theorem VS.set {w W : World} {Q R A B n : Nat} {q q' : List Value} {z : Bool} (h : VS w Q R A B n q z W) (o : Nat) (vs : List Value) (hq : (W.setCells B o vs).rangeAt B 0 q') : VS w Q R A B n q' z (W.setCells B o vs) := by
  have h1 := h.na
  have h2 := h.nb
  have h3 := h.rq
  exact ⟨hq, World.there_setCells h.box _ _ _, World.there_setCells h.ans _ _ _, h.kept.newSets h2 _ _, h.mr.at (blk_sets (by omega)) (by rw [size_sets]; exact Nat.le_refl _), World.there_setCells h.qt _ _ _, by rw [size_sets]; exact h.la, by rw [size_sets]; exact h.lb, h1, h2, h.ne, h3⟩
theorem VS.drew {w W : World} {Q R A B n : Nat} {q : List Value} {z : Bool} (h : VS w Q R A B n q z W) : VS w Q R A B n q z W.drew :=
  ⟨(World.rangeAt_drew _ _ _ _).2 h.row, h.box, h.ans, h.kept.below ((Below.refl _ _).drew), h.mr.below ((Below.refl _ _).drew), h.qt, h.la, h.lb, h.na, h.nb, h.ne, h.rq⟩
theorem VS.st {w W : World} {Q R A B n o : Nat} {q vs rest : List Value} {z : Bool} {zs : List Int} {e : Int} (h : VS w Q R A B n q z W) (hs : St W R zs e) : St (W.setCells B o vs) R zs e :=
  hs.gb (gb_setsR W B vs o) (by have := h.nb; have := h.rq; omega)
/-- a vote that is read -/
def vtS (rest : List Int) (e : Int) : Vt × List Int × Int :=
  let x0 := numS rest e 2
  let x1 := numS x0.2.1 x0.2.2 1048576
  let x2 := numS x1.2.1 x1.2.2 1099511627776
  let x3 := numS x2.2.1 x2.2.2 1099511627776
  let x4 := rawS x3.2.1 x3.2.2 32
  (⟨x0.1, x1.1, x2.1, x3.1, padN 32 x4.1⟩, x4.2.1, x4.2.2)
theorem vtS_len (rest : List Int) (e : Int) : (vtS rest e).2.1.length ≤ rest.length := Nat.le_trans (rawS_len _ _ _) (Nat.le_trans (numS_len _ _ _) (Nat.le_trans (numS_len _ _ _) (Nat.le_trans (numS_len _ _ _) (numS_len _ _ _))))
theorem vt_put {W : World} {B : Nat} {a b c d : Value} {t : List Value} (h : W.rangeAt B 0 (a :: b :: c :: d :: t)) (x : Value) :
    (W.setCells B 0 [x]).rangeAt B 0 (x :: b :: c :: d :: t) ∧ (W.setCells B 1 [x]).rangeAt B 0 (a :: x :: c :: d :: t) ∧ (W.setCells B 2 [x]).rangeAt B 0 (a :: b :: x :: d :: t) ∧ (W.setCells B 3 [x]).rangeAt B 0 (a :: b :: c :: x :: t) := by
  have k0 := range_set h 0 x
  have k1 := range_set h 1 x
  have k2 := range_set h 2 x
  have k3 := range_set h 3 x
  exact ⟨k0, k1, k2, k3⟩
theorem zeroVt : ∃ z : List Value, (∀ w : World, (zeroValue 28).run Try.prog w = .ok (.agg z.toArray) w) ∧ z.length = 36 ∧ ∃ t, t.length = 32 ∧ z = .int .i64 0 :: .int .i64 0 :: .int .i64 0 :: .int .i64 0 :: t := ⟨Vt.zero.cells, fun w => by kernel_rfl, by decide, _, by decide, rfl⟩
theorem range_tail4 {W : World} {B : Nat} {a b c d : Value} {t dv : List Value} (h : W.rangeAt B 0 (a :: b :: c :: d :: t)) (hT : W.there B 4 dv.length) : (W.setCells B 4 dv).rangeAt B 0 (a :: b :: c :: d :: dv) := by
  have h1 : W.rangeAt B 0 ([a, b, c, d] ++ t) := h
  have k1 := World.rangeAt_setCells_apart (range_left h1) B 4 dv (.inr (.inl (by simp)))
  have k2 := World.rangeAt_setCells_same W B 4 dv hT
  exact range_join (cs := [a, b, c, d]) k1 k2
set_option maxRecDepth 100000 in
set_option maxHeartbeats 1000000 in
theorem rvote_any (Q R : Nat) (z : Bool) (rest : List Int) (e : Int) (w : World) (h : St w R rest e) (hq : MrAt w Q R z) (thQ : w.there Q 0 2) (hl : rest.length ≤ 40000) : Calls Try.prog 40 #[.pointer (some ⟨Q, 0, none⟩)] w fun en w' => en = .returned (.agg (vtS rest e).1.cells.toArray) ∧ St w' R (vtS rest e).2.1 (vtS rest e).2.2 ∧ MrAt w' Q R (kdZ rest e 2 z) ∧ Kept w R Q w' ∧ w'.there Q 0 2 := by
  obtain ⟨zc, hzr, hzl, tz, htl, hzc⟩ := zeroVt
  have hRw := h.1.1
  have hQw := hq.lt
  obtain ⟨z1, hz1⟩ : ∃ x, kdZ rest e 2 z = x := ⟨_, rfl⟩
  have ck := fun w0 h0 m0 t0 => rkind_any Q R z rest e 2 w0 h0 m0 t0
  have l0 := numS_len rest e 2
  simp only [hz1] at ck ⊢
  clear hz1
  show Calls Try.prog 40 _ w fun en w' => en = .returned (.agg (Vt.cells ⟨(numS rest e 2).1, (numS (numS rest e 2).2.1 (numS rest e 2).2.2 1048576).1, (numS (numS (numS rest e 2).2.1 (numS rest e 2).2.2 1048576).2.1 (numS (numS rest e 2).2.1 (numS rest e 2).2.2 1048576).2.2 1099511627776).1, (numS (numS (numS (numS rest e 2).2.1 (numS rest e 2).2.2 1048576).2.1 (numS (numS rest e 2).2.1 (numS rest e 2).2.2 1048576).2.2 1099511627776).2.1 (numS (numS (numS rest e 2).2.1 (numS rest e 2).2.2 1048576).2.1 (numS (numS rest e 2).2.1 (numS rest e 2).2.2 1048576).2.2 1099511627776).2.2 1099511627776).1, padN 32 (rawS (numS (numS (numS (numS rest e 2).2.1 (numS rest e 2).2.2 1048576).2.1 (numS (numS rest e 2).2.1 (numS rest e 2).2.2 1048576).2.2 1099511627776).2.1 (numS (numS (numS rest e 2).2.1 (numS rest e 2).2.2 1048576).2.1 (numS (numS rest e 2).2.1 (numS rest e 2).2.2 1048576).2.2 1099511627776).2.2 1099511627776).2.1 (numS (numS (numS (numS rest e 2).2.1 (numS rest e 2).2.2 1048576).2.1 (numS (numS rest e 2).2.1 (numS rest e 2).2.2 1048576).2.2 1099511627776).2.1 (numS (numS (numS rest e 2).2.1 (numS rest e 2).2.2 1048576).2.1 (numS (numS rest e 2).2.1 (numS rest e 2).2.2 1048576).2.2 1099511627776).2.2 1099511627776).2.2 32).1⟩).toArray) ∧ St w' R (rawS (numS (numS (numS (numS rest e 2).2.1 (numS rest e 2).2.2 1048576).2.1 (numS (numS rest e 2).2.1 (numS rest e 2).2.2 1048576).2.2 1099511627776).2.1 (numS (numS (numS rest e 2).2.1 (numS rest e 2).2.2 1048576).2.1 (numS (numS rest e 2).2.1 (numS rest e 2).2.2 1048576).2.2 1099511627776).2.2 1099511627776).2.1 (numS (numS (numS (numS rest e 2).2.1 (numS rest e 2).2.2 1048576).2.1 (numS (numS rest e 2).2.1 (numS rest e 2).2.2 1048576).2.2 1099511627776).2.1 (numS (numS (numS rest e 2).2.1 (numS rest e 2).2.2 1048576).2.1 (numS (numS rest e 2).2.1 (numS rest e 2).2.2 1048576).2.2 1099511627776).2.2 1099511627776).2.2 32).2.1 (rawS (numS (numS (numS (numS rest e 2).2.1 (numS rest e 2).2.2 1048576).2.1 (numS (numS rest e 2).2.1 (numS rest e 2).2.2 1048576).2.2 1099511627776).2.1 (numS (numS (numS rest e 2).2.1 (numS rest e 2).2.2 1048576).2.1 (numS (numS rest e 2).2.1 (numS rest e 2).2.2 1048576).2.2 1099511627776).2.2 1099511627776).2.1 (numS (numS (numS (numS rest e 2).2.1 (numS rest e 2).2.2 1048576).2.1 (numS (numS rest e 2).2.1 (numS rest e 2).2.2 1048576).2.2 1099511627776).2.1 (numS (numS (numS rest e 2).2.1 (numS rest e 2).2.2 1048576).2.1 (numS (numS rest e 2).2.1 (numS rest e 2).2.2 1048576).2.2 1099511627776).2.2 1099511627776).2.2 32).2.2 ∧ MrAt w' Q R z1 ∧ Kept w R Q w' ∧ w'.there Q 0 2
  obtain ⟨v0, hv0⟩ : ∃ x, (numS rest e 2).1 = x := ⟨_, rfl⟩
  obtain ⟨r0, hr0⟩ : ∃ x, (numS rest e 2).2.1 = x := ⟨_, rfl⟩
  obtain ⟨e0, he0⟩ : ∃ x, (numS rest e 2).2.2 = x := ⟨_, rfl⟩
  simp only [hv0, hr0, he0] at ck l0 ⊢
  clear hv0 hr0 he0
  have l1 := numS_len r0 e0 1048576
  have c1 := fun w0 h0 => num_any R r0 e0 1048576 w0 h0
  obtain ⟨v1, hv1⟩ : ∃ x, (numS r0 e0 1048576).1 = x := ⟨_, rfl⟩
  obtain ⟨r1, hr1⟩ : ∃ x, (numS r0 e0 1048576).2.1 = x := ⟨_, rfl⟩
  obtain ⟨e1, he1⟩ : ∃ x, (numS r0 e0 1048576).2.2 = x := ⟨_, rfl⟩
  simp only [hv1, hr1, he1] at c1 l1 ⊢
  clear hv1 hr1 he1
  have l2 := numS_len r1 e1 1099511627776
  have c2 := fun w0 h0 => num_any R r1 e1 1099511627776 w0 h0
  obtain ⟨v2, hv2⟩ : ∃ x, (numS r1 e1 1099511627776).1 = x := ⟨_, rfl⟩
  obtain ⟨r2, hr2⟩ : ∃ x, (numS r1 e1 1099511627776).2.1 = x := ⟨_, rfl⟩
  obtain ⟨e2, he2⟩ : ∃ x, (numS r1 e1 1099511627776).2.2 = x := ⟨_, rfl⟩
  simp only [hv2, hr2, he2] at c2 l2 ⊢
  clear hv2 hr2 he2
  have l3 := numS_len r2 e2 1099511627776
  have c3 := fun w0 h0 => num_any R r2 e2 1099511627776 w0 h0
  obtain ⟨v3, hv3⟩ : ∃ x, (numS r2 e2 1099511627776).1 = x := ⟨_, rfl⟩
  obtain ⟨r3, hr3⟩ : ∃ x, (numS r2 e2 1099511627776).2.1 = x := ⟨_, rfl⟩
  obtain ⟨e3, he3⟩ : ∃ x, (numS r2 e2 1099511627776).2.2 = x := ⟨_, rfl⟩
  simp only [hv3, hr3, he3] at c3 l3 ⊢
  clear hv3 hr3 he3
  have c4 := fun w0 h0 m0 => rdigest_any Q R z1 r3 e3 w0 h0 m0 (by omega)
  have hdl : (v8 (padN 32 (rawS r3 e3 32).1)).length = 32 := by rw [v8_length, padN_len]
  have hd1 := v8_one (padN 32 (rawS r3 e3 32).1)
  show Calls Try.prog 40 _ w fun en w' => en = .returned (.agg (Value.int .i64 v0 :: .int .i64 v1 :: .int .i64 v2 :: .int .i64 v3 :: v8 (padN 32 (rawS r3 e3 32).1)).toArray) ∧ _
  obtain ⟨dv, hdv⟩ : ∃ t, v8 (padN 32 (rawS r3 e3 32).1) = t := ⟨_, rfl⟩
  obtain ⟨r4, hr4⟩ : ∃ x, (rawS r3 e3 32).2.1 = x := ⟨_, rfl⟩
  obtain ⟨e4, he4⟩ : ∃ x, (rawS r3 e3 32).2.2 = x := ⟨_, rfl⟩
  simp only [hdv, hr4, he4] at c4 hdl hd1 ⊢
  clear hdv hr4 he4
  have hpl : (Value.int .i64 v0 :: .int .i64 v1 :: .int .i64 v2 :: .int .i64 v3 :: dv).length = 36 := by simp only [List.length_cons, hdl]
  have hip : (Try.prog.info? 28).map (·.size) = some (Value.int .i64 v0 :: .int .i64 v1 :: .int .i64 v2 :: .int .i64 v3 :: dv).length := by rw [hpl]; exact iszVo
  have hp1 : ∀ v ∈ (Value.int .i64 v0 :: .int .i64 v1 :: .int .i64 v2 :: .int .i64 v3 :: dv), v.oneCell' = true := fun v hv => by
    simp only [List.mem_cons] at hv
    rcases hv with rfl | rfl | rfl | rfl | hv
    · rfl
    · rfl
    · rfl
    · rfl
    · exact hd1 v hv
  obtain ⟨hB1, hr1, hs1⟩ := boxed_new w zc 28
  have ht1 := there_newN w zc.toArray 28 (n := 36) (by simp [hzl])
  obtain ⟨pc, hpc⟩ : ∃ p, Hid (Value.int .i64 v0 :: .int .i64 v1 :: .int .i64 v2 :: .int .i64 v3 :: dv = p) := ⟨_, hide rfl⟩
  rw [hpc.out] at hpl hip hp1 ⊢
  go_enter Try.func40, Try.ntmps40
  go_upto_region 0 with fail
  try simp only [Act.put]
  refine pl_begin ?_
  refine pl_run (d := some 2) (v := .pointer (some ⟨w.heap.size, 0, none⟩)) (w' := w.alloc (.cells zc.toArray 28)) (by rfl) (ex_alloc rfl (hzr _)) rfl ?_
  simp only [Act.put, List.setIfInBounds_toArray, List.set_cons_zero, List.set_cons_succ]
  refine pl_nil ?_
  obtain ⟨W1, hW1⟩ : ∃ W, w.alloc (.cells zc.toArray 28) = W := ⟨_, rfl⟩
  rw [hW1] at hB1 hr1 hs1 ht1 ⊢
  clear hW1 hr1
  obtain ⟨hB2, hr2, hs2⟩ := boxed_new W1 zc 28
  have ht2 := there_newN W1 zc.toArray 28 (n := 36) (by simp [hzl])
  go_upto_region 1 with fail
  try simp only [Act.put]
  refine pl_begin ?_
  refine pl_run (d := some 3) (v := .pointer (some ⟨W1.heap.size, 0, none⟩)) (w' := W1.alloc (.cells zc.toArray 28)) (by rfl) (ex_alloc rfl (hzr _)) rfl ?_
  simp only [Act.put, List.setIfInBounds_toArray, List.set_cons_zero, List.set_cons_succ]
  refine pl_nil ?_
  obtain ⟨W2, hW2⟩ : ∃ W, W1.alloc (.cells zc.toArray 28) = W := ⟨_, rfl⟩
  rw [hW2] at hB2 hr2 hs2 ht2 ⊢
  clear hW2
  rw [hzc] at hr2
  have hBW := hB1.trans (hB2.mono hB1.size)
  have V0 : VS w Q R w.heap.size W1.heap.size 36 _ z W2 := ⟨hr2, ht2, there_belowN ht1 hB2 hs1, (Kept.refl w R Q).below hBW, hq.below hBW, there_belowN thQ hBW hQw, Nat.lt_of_lt_of_le hs1 hB2.size, hs2, Nat.le_refl _, hB1.size, by omega, hRw, hQw⟩
  have st2 := h.below hBW
  clear hr2 ht2 ht1 hzr hzc hzl hB1 hB2 hBW hs2 h hq thQ
  go_upto_region 2 with fail
  try simp only [Act.put]
  refine pl_begin ?_
  refine pl_take (d := some 4) (v := ?_) (by rfl) ?_ rfl ?_
  rotate_left
  · go_simp
    try with_reducible rfl
  simp only [Act.put, List.setIfInBounds_toArray, List.set_cons_zero, List.set_cons_succ]
  refine pl_call (d := some 5) (by rfl) (by go_simp; first | done | exact ⟨rfl, rfl⟩ | with_reducible rfl) rfl ?_
  refine (ck W2 st2 V0.mr V0.qt).mono ?_
  rintro _ w3 ⟨rfl, st3, m3, k3, t3⟩
  refine ⟨_, rfl, ?_⟩
  simp only [Act.put, List.setIfInBounds_toArray, List.set_cons_zero, List.set_cons_succ]
  refine pl_take (d := some 6) (v := ?_) (by rfl) ?_ rfl ?_
  rotate_left
  · go_simp
    try with_reducible rfl
  simp only [Act.put, List.setIfInBounds_toArray, List.set_cons_zero, List.set_cons_succ]
  have V3 := V0.on k3 m3 t3
  have V4 := V3.set 0 [.int .i64 v0] (vt_put V3.row _).1
  have st4 := V3.st (o := 0) (vs := [.int .i64 v0]) (rest := []) st3
  refine pl_store (w' := w3.setCells W1.heap.size 0 [.int .i64 v0]) (by rfl) (ex_put1 (n := 36) rfl rfl rfl V3.box (by decide) iszI rfl rfl) rfl ?_
  refine pl_nil ?_
  obtain ⟨w4, hw4⟩ : ∃ W, w3.setCells W1.heap.size 0 [.int .i64 v0] = W := ⟨_, rfl⟩
  rw [hw4] at V4 st4 ⊢
  clear hw4 V3 st3 m3 k3 t3 V0 st2 ck
  go_upto_region 3 with fail
  have V8 := V4.drew
  have st8 := st4.below (Below.refl _ _).drew
  refine hs_begin (S := (fun W' => MrAt W' Q R z1)) 21 rfl (by kernel_rfl) ?_
  obtain ⟨w8, hw8⟩ : ∃ W, w4.drew = W := ⟨_, rfl⟩
  rw [hw8] at V8 st8 ⊢
  clear hw8 V4 st4
  have hS : (fun W' => MrAt W' Q R z1) w8 := V8.mr
  refine hs_take (i := 0) (d := some 7) (v := ?_) rfl (by kernel_rfl) (by kernel_rfl) (by kernel_rfl) (by rfl) ?_ hS rfl ?_
  rotate_left
  · intro w' hw
    go_simp
    try with_reducible rfl
  simp only [Act.put, List.setIfInBounds_toArray, List.set_cons_zero, List.set_cons_succ]
  refine hs_take (i := 1) (d := some 8) (v := ?_) rfl (by kernel_rfl) (by kernel_rfl) (by kernel_rfl) (by rfl) ?_ hS rfl ?_
  rotate_left
  · intro w' hw
    go_simp
    try with_reducible rfl
  simp only [Act.put, List.setIfInBounds_toArray, List.set_cons_zero, List.set_cons_succ]
  refine hs_take (i := 2) (d := some 9) (v := ?_) rfl (by kernel_rfl) (by kernel_rfl) (by kernel_rfl) (by rfl) ?_ hS rfl ?_
  rotate_left
  · intro w' hw
    go_simp
    try with_reducible rfl
  simp only [Act.put, List.setIfInBounds_toArray, List.set_cons_zero, List.set_cons_succ]
  refine hs_take (i := 3) (d := some 10) (v := .pointer (some ⟨R, 0, none⟩)) rfl (by kernel_rfl) (by kernel_rfl) (by kernel_rfl) (by rfl) (fun w' hw => pl_one rfl rfl hw.c0 Try.underlying88 rfl) hS rfl ?_
  simp only [Act.put, List.setIfInBounds_toArray, List.set_cons_zero, List.set_cons_succ]
  refine hs_take (i := 5) (d := some 12) (v := ?_) rfl (by kernel_rfl) (by kernel_rfl) (by kernel_rfl) (by rfl) ?_ hS rfl ?_
  rotate_left
  · intro w' hw
    go_simp
    try with_reducible rfl
  simp only [Act.put, List.setIfInBounds_toArray, List.set_cons_zero, List.set_cons_succ]
  refine hs_take (i := 6) (d := some 13) (v := ?_) rfl (by kernel_rfl) (by kernel_rfl) (by kernel_rfl) (by rfl) ?_ hS rfl ?_
  rotate_left
  · intro w' hw
    go_simp
    try with_reducible rfl
  simp only [Act.put, List.setIfInBounds_toArray, List.set_cons_zero, List.set_cons_succ]
  refine hs_take (i := 7) (d := some 14) (v := ?_) rfl (by kernel_rfl) (by kernel_rfl) (by kernel_rfl) (by rfl) ?_ hS rfl ?_
  rotate_left
  · intro w' hw
    go_simp
    try with_reducible rfl
  simp only [Act.put, List.setIfInBounds_toArray, List.set_cons_zero, List.set_cons_succ]
  refine hs_take (i := 8) (d := some 15) (v := .pointer (some ⟨R, 0, none⟩)) rfl (by kernel_rfl) (by kernel_rfl) (by kernel_rfl) (by rfl) (fun w' hw => pl_one rfl rfl hw.c0 Try.underlying88 rfl) hS rfl ?_
  simp only [Act.put, List.setIfInBounds_toArray, List.set_cons_zero, List.set_cons_succ]
  refine hs_take (i := 10) (d := some 17) (v := ?_) rfl (by kernel_rfl) (by kernel_rfl) (by kernel_rfl) (by rfl) ?_ hS rfl ?_
  rotate_left
  · intro w' hw
    go_simp
    try with_reducible rfl
  simp only [Act.put, List.setIfInBounds_toArray, List.set_cons_zero, List.set_cons_succ]
  refine hs_take (i := 11) (d := some 18) (v := ?_) rfl (by kernel_rfl) (by kernel_rfl) (by kernel_rfl) (by rfl) ?_ hS rfl ?_
  rotate_left
  · intro w' hw
    go_simp
    try with_reducible rfl
  simp only [Act.put, List.setIfInBounds_toArray, List.set_cons_zero, List.set_cons_succ]
  refine hs_take (i := 12) (d := some 19) (v := ?_) rfl (by kernel_rfl) (by kernel_rfl) (by kernel_rfl) (by rfl) ?_ hS rfl ?_
  rotate_left
  · intro w' hw
    go_simp
    try with_reducible rfl
  simp only [Act.put, List.setIfInBounds_toArray, List.set_cons_zero, List.set_cons_succ]
  refine hs_take (i := 13) (d := some 20) (v := .pointer (some ⟨R, 0, none⟩)) rfl (by kernel_rfl) (by kernel_rfl) (by kernel_rfl) (by rfl) (fun w' hw => pl_one rfl rfl hw.c0 Try.underlying88 rfl) hS rfl ?_
  simp only [Act.put, List.setIfInBounds_toArray, List.set_cons_zero, List.set_cons_succ]
  refine hs_call (i := 4) (d := some 11) rfl (by kernel_rfl) (by rfl) (by go_simp; first | done | exact ⟨rfl, rfl⟩ | with_reducible rfl) rfl ?_
  refine (c1 w8 st8).mono ?_
  rintro _ w5 ⟨rfl, st5, g5⟩
  have hS : (fun W' => MrAt W' Q R z1) w5 := hS.gb g5
  refine ⟨_, rfl, hS, ?_⟩
  simp only [Act.put, List.setIfInBounds_toArray, List.set_cons_zero, List.set_cons_succ]
  refine hs_take (i := 15) (d := some 22) (v := ?_) rfl (by kernel_rfl) (by kernel_rfl) (by kernel_rfl) (by rfl) ?_ hS rfl ?_
  rotate_left
  · intro w' hw
    go_simp
    try with_reducible rfl
  simp only [Act.put, List.setIfInBounds_toArray, List.set_cons_zero, List.set_cons_succ]
  refine hs_call (i := 9) (d := some 16) rfl (by kernel_rfl) (by rfl) (by go_simp; first | done | exact ⟨rfl, rfl⟩ | with_reducible rfl) rfl ?_
  refine (c2 w5 st5).mono ?_
  rintro _ w6 ⟨rfl, st6, g6⟩
  have hS : (fun W' => MrAt W' Q R z1) w6 := hS.gb g6
  refine ⟨_, rfl, hS, ?_⟩
  simp only [Act.put, List.setIfInBounds_toArray, List.set_cons_zero, List.set_cons_succ]
  refine hs_call (i := 14) (d := some 21) rfl (by kernel_rfl) (by rfl) (by go_simp; first | done | exact ⟨rfl, rfl⟩ | with_reducible rfl) rfl ?_
  refine (c3 w6 st6).mono ?_
  rintro _ w7 ⟨rfl, st7, g7⟩
  have hS : (fun W' => MrAt W' Q R z1) w7 := hS.gb g7
  refine ⟨_, rfl, hS, ?_⟩
  simp only [Act.put, List.setIfInBounds_toArray, List.set_cons_zero, List.set_cons_succ]
  have V7 := ((V8.gb g5).gb g6).gb g7
  have Va := V7.set 1 [.int .i64 v1] (vt_put V7.row _).2.1
  have sta := V7.st (o := 1) (vs := [.int .i64 v1]) (rest := []) st7
  refine hs_store (i := 16) (w' := w7.setCells W1.heap.size 1 [.int .i64 v1]) rfl (by kernel_rfl) (by rfl) (ex_put1 (n := 36) rfl rfl rfl V7.box (by decide) iszI rfl rfl) rfl Va.mr ?_
  obtain ⟨w_16, hw_16⟩ : ∃ W, w7.setCells W1.heap.size 1 [.int .i64 v1] = W := ⟨_, rfl⟩
  rw [hw_16] at Va sta ⊢
  clear hw_16
  have hS : (fun W' => MrAt W' Q R z1) w_16 := Va.mr
  refine hs_take (i := 17) (d := some 23) (v := ?_) rfl (by kernel_rfl) (by kernel_rfl) (by kernel_rfl) (by rfl) ?_ hS rfl ?_
  rotate_left
  · intro w' hw
    go_simp
    try with_reducible rfl
  simp only [Act.put, List.setIfInBounds_toArray, List.set_cons_zero, List.set_cons_succ]
  have Vb := Va.set 2 [.int .i64 v2] (vt_put Va.row _).2.2.1
  have stb := Va.st (o := 2) (vs := [.int .i64 v2]) (rest := []) sta
  refine hs_store (i := 18) (w' := w_16.setCells W1.heap.size 2 [.int .i64 v2]) rfl (by kernel_rfl) (by rfl) (ex_put1 (n := 36) rfl rfl rfl Va.box (by decide) iszI rfl rfl) rfl Vb.mr ?_
  obtain ⟨w_18, hw_18⟩ : ∃ W, w_16.setCells W1.heap.size 2 [.int .i64 v2] = W := ⟨_, rfl⟩
  rw [hw_18] at Vb stb ⊢
  clear hw_18
  have hS : (fun W' => MrAt W' Q R z1) w_18 := Vb.mr
  refine hs_take (i := 19) (d := some 24) (v := ?_) rfl (by kernel_rfl) (by kernel_rfl) (by kernel_rfl) (by rfl) ?_ hS rfl ?_
  rotate_left
  · intro w' hw
    go_simp
    try with_reducible rfl
  simp only [Act.put, List.setIfInBounds_toArray, List.set_cons_zero, List.set_cons_succ]
  have Vc := Vb.set 3 [.int .i64 v3] (vt_put Vb.row _).2.2.2
  have stc := Vb.st (o := 3) (vs := [.int .i64 v3]) (rest := []) stb
  refine hs_store (i := 20) (w' := w_18.setCells W1.heap.size 3 [.int .i64 v3]) rfl (by kernel_rfl) (by rfl) (ex_put1 (n := 36) rfl rfl rfl Vb.box (by decide) iszI rfl rfl) rfl Vc.mr ?_
  obtain ⟨w_20, hw_20⟩ : ∃ W, w_18.setCells W1.heap.size 3 [.int .i64 v3] = W := ⟨_, rfl⟩
  rw [hw_20] at Vc stc ⊢
  clear hw_20
  have hS : (fun W' => MrAt W' Q R z1) w_20 := Vc.mr
  refine hs_done (by kernel_rfl) ?_
  clear V7 Va Vb sta stb st5 st6 st7 g5 g6 g7 V8 st8 hS c1 c2 c3
  go_upto_region 4 with fail
  try simp only [Act.put]
  refine pl_begin ?_
  refine pl_take (d := some 25) (v := ?_) (by rfl) ?_ rfl ?_
  rotate_left
  · go_simp
    try with_reducible rfl
  simp only [Act.put, List.setIfInBounds_toArray, List.set_cons_zero, List.set_cons_succ]
  refine pl_call (d := some 26) (by rfl) (by go_simp; first | done | exact ⟨rfl, rfl⟩ | with_reducible rfl) rfl ?_
  refine (c4 w_20 stc Vc.mr).mono ?_
  rintro _ wd ⟨rfl, std, gd⟩
  refine ⟨_, rfl, ?_⟩
  simp only [Act.put, List.setIfInBounds_toArray, List.set_cons_zero, List.set_cons_succ]
  refine pl_take (d := some 27) (v := ?_) (by rfl) ?_ rfl ?_
  rotate_left
  · go_simp
    try with_reducible rfl
  simp only [Act.put, List.setIfInBounds_toArray, List.set_cons_zero, List.set_cons_succ]
  have Vd := Vc.gb gd
  have Ve := Vd.set 4 dv (range_tail4 Vd.row (by rw [hdl]; exact there_part1 Vd.box (by decide)))
  have ste := Vd.st (o := 4) (vs := dv) (rest := []) std
  refine pl_store (w' := wd.setCells W1.heap.size 4 dv) (by rfl) (ex_put (cs := dv.toArray) rfl rfl rfl (by simpa [hdl] using there_part1 Vd.box (o := 4) (m := 32) (by decide)) (by simpa [hdl] using iszD) (all_one hd1)) rfl ?_
  refine pl_nil ?_
  obtain ⟨we, hwe⟩ : ∃ W, wd.setCells W1.heap.size 4 dv = W := ⟨_, rfl⟩
  rw [hwe] at Ve ste ⊢
  clear hwe Vd std gd Vc stc c4
  have rpc := Ve.row
  rw [hpc.out] at rpc
  have hlow : Below w.heap.size we (we.setCells w.heap.size 0 pc) := below_sets (Nat.le_refl _) pc 0 _ (Below.refl _ we)
  go_upto_region 5 with fail
  try simp only [Act.put]
  refine pl_begin ?_
  refine pl_take (d := some 28) (v := .agg pc.toArray) (by rfl) (ex_mid rfl rfl rpc Try.underlying28 rfl hip) rfl ?_
  simp only [Act.put, List.setIfInBounds_toArray, List.set_cons_zero, List.set_cons_succ]
  refine pl_store (w' := we.setCells w.heap.size 0 pc) (by rfl) (ex_put (cs := pc.toArray) rfl rfl rfl (by simpa [hpl] using Ve.ans) (by simpa using hip) (all_one hp1)) rfl ?_
  refine pl_nil ?_
  have hrs := run_loadVar_mid (P := Try.prog) (we.setCells w.heap.size 0 pc) w.heap.size 0 28 pc _ (World.rangeAt_setCells_same we w.heap.size 0 pc (by rw [hpl]; exact Ve.ans)) Try.underlying28 rfl hip
  have HF : Hid (St (we.setCells w.heap.size 0 pc) R r4 e4 ∧ MrAt (we.setCells w.heap.size 0 pc) Q R z1 ∧ Kept w R Q (we.setCells w.heap.size 0 pc) ∧ (we.setCells w.heap.size 0 pc).there Q 0 2) := hide ⟨ste.belowN hlow hRw, Ve.mr.at (blk_sets (by omega)) (by rw [size_sets]; exact Nat.le_refl _), Ve.kept.newSets (Nat.le_refl _) _ _, World.there_setCells Ve.qt _ _ _⟩
  clear Ve ste hlow rpc
  go_wp2_with fail
  refine bodyPost_ret (v := .agg pc.toArray) ?_ rfl ?_
  · simp [results, Try.results40, Act.put, asAddr, hrs]
  · exact ⟨rfl, HF.out⟩
end Go.Proofs.Ytahdmajppnffeaa
