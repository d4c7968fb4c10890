/- the reader's changes; messages, read; what is read comes back, and has one form: the words; messages, read: kind 0; messages, read: kind 1 -/
import Derived.Test.YtahdmajppnffeaaJM18
import Derived.Test.YtahdmajppnffeaaJM4
namespace Go.Proofs.Ytahdmajppnffeaa
open Go.RowKit
open Sha Tal
set_option linter.unusedVariables false
set_option linter.unusedSimpArgs false
/-- what is read lies in the block B, cell by cell; the answer will lie in the block A -/
structure MV (w : World) (Q R A B n : Nat) (q : List Value) (s : Rst) (W : World) : Prop where
  row : W.rangeAt B 0 q
  box : W.there B 0 n
  ans : W.there A 0 n
  kept : Kept w R Q W
  rs : RS W Q R s
  la : A < W.heap.size
  lb : B < W.heap.size
  na : w.heap.size ≤ A
  nb : w.heap.size ≤ B
  ne : A ≠ B
  rq : R < w.heap.size ∧ Q < w.heap.size
theorem MV.on {w W W' : World} {Q R A B n : Nat} {q : List Value} {s s' : Rst} (h : MV w Q R A B n q s W) (k : Kept W R Q W') (S : RS W' Q R s') : MV w Q R A B n q s' W' := by
  have h1 := h.na
  have h2 := h.nb
  have h3 := h.rq
  exact ⟨range_blk h.row (k.blk h.lb (by omega) (by omega)), there_blk h.box (k.blk h.lb (by omega) (by omega)), there_blk h.ans (k.blk h.la (by omega) (by omega)), h.kept.trans k, S, Nat.lt_of_lt_of_le h.la k.size, Nat.lt_of_lt_of_le h.lb k.size, h1, h2, h.ne, h3⟩
theorem MV.set {w W : World} {Q R A B n : Nat} {q q' : List Value} {s : Rst} (h : MV w Q R A B n q s W) (o : Nat) (vs : List Value) (hq : (W.setCells B o vs).rangeAt B 0 q') : MV w Q R A B n q' s (W.setCells B o vs) := by
  have h1 := h.na
  have h2 := h.nb
  have h3 := h.rq
  exact ⟨hq, World.there_setCells h.box _ _ _, World.there_setCells h.ans _ _ _, h.kept.newSets h2 _ _, h.rs.low (below_sets h2 vs o _ (Below.refl _ W)) h3.2, by rw [size_sets]; exact h.la, by rw [size_sets]; exact h.lb, h1, h2, h.ne, h3⟩
theorem MV.drew {w W : World} {Q R A B n : Nat} {q : List Value} {s : Rst} (h : MV w Q R A B n q s W) : MV w Q R A B n q s W.drew :=
  ⟨(World.rangeAt_drew _ _ _ _).2 h.row, h.box, h.ans, h.kept.below ((Below.refl _ _).drew), h.rs.below ((Below.refl _ _).drew), h.la, h.lb, h.na, h.nb, h.ne, h.rq⟩
theorem MV.below {w W W' : World} {Q R A B n : Nat} {q : List Value} {s : Rst} (h : MV w Q R A B n q s W) (hb : Below W.heap.size W W') : MV w Q R A B n q s W' :=
  h.on ((Kept.refl W R Q).below hb) (h.rs.below hb)
theorem MV.part {w W : World} {Q R A B n : Nat} {q : List Value} {s : Rst} (h : MV w Q R A B n q s W) (o m : Nat) (hm : o + m ≤ n) : W.there B o m := there_part1 h.box hm
/-- a row that lies elsewhere stays where something is put into the box -/
theorem Sl.At.put {α : Type} {E : El α} {W : World} {x : Sl α} {P : Nat → Prop} {B o : Nat} {vs : List Value} (h : x.At E W) (hb : x.Bk P) (hp : ∀ b, P b → b ≠ B) : x.At E (W.setCells B o vs) :=
  h.on (by rw [size_sets]; exact Nat.le_refl _) hb (fun b hP _ => blk_sets (hp b hP))
theorem HdsAt.put {W : World} {x : Sl Hd} {P : Nat → Prop} {B o : Nat} {vs : List Value} (h : HdsAt W x) (hb : x.Bk P) (hb2 : ∀ y ∈ x.xs, y.Bk P) (hp : ∀ b, P b → b ≠ B) : HdsAt (W.setCells B o vs) x :=
  ⟨Sl.At.put h.1 hb hp, fun y hy => (h.2 y hy).on (by rw [size_sets]; exact Nat.le_refl _) (hb2 y hy) (fun b hP _ => blk_sets (hp b hP))⟩
theorem HdsAt.kept {w w' : World} {R Q n : Nat} {x : Sl Hd} {P : Nat → Prop} (h : HdsAt w x) (k : Kept w R Q w') (hR : R < n) (hQ : Q < n) (hb : x.Bk P) (hb2 : ∀ y ∈ x.xs, y.Bk P) (hp : ∀ b, P b → n ≤ b) : HdsAt w' x :=
  ⟨Sl.At.kept h.1 k hR hQ hb hp, fun y hy => ⟨Sl.At.kept (h.2 y hy).1 k hR hQ (hb2 y hy).1 hp, Sl.At.kept (h.2 y hy).2 k hR hQ (hb2 y hy).2 hp⟩⟩
/-- a change, without its places -/
structure Cp where
  e : Int
  l : Int
  v : Int
  he : List Hp
def chS (s : Rst) : Cp × Rst :=
  (⟨(nuS 1048576 s).1, (nuS 64 (nuS 1048576 s).2).1, (nuS 1099511627776 (nuS 64 (nuS 1048576 s).2).2).1, (lsS 4 heS (nuS 1099511627776 (nuS 64 (nuS 1048576 s).2).2).2).1⟩, (lsS 4 heS (nuS 1099511627776 (nuS 64 (nuS 1048576 s).2).2).2).2)
theorem chS_len (s : Rst) : (chS s).2.1.length ≤ s.1.length := Nat.le_trans (lsS_len heS_len _ _) (Nat.le_trans (nuS_len _ _) (Nat.le_trans (nuS_len _ _) (nuS_len _ _)))
theorem zeroChE (w : World) : (zeroValue 31).run Try.prog w = .ok (.agg ([.int .i64 0, .int .i64 0, .int .i64 0, .slice none 0 0] : List Value).toArray) w := by kernel_rfl
theorem iszHds : (Try.prog.info? 29).map (·.size) = some 1 := by kernel_rfl
theorem ch_put {W : World} {B : Nat} {a b c d : Value} (h : W.rangeAt B 0 [a, b, c, d]) (x : Value) :
    (W.setCells B 0 [x]).rangeAt B 0 [x, b, c, d] ∧ (W.setCells B 1 [x]).rangeAt B 0 [a, x, c, d] ∧ (W.setCells B 2 [x]).rangeAt B 0 [a, b, x, d] ∧ (W.setCells B 3 [x]).rangeAt B 0 [a, b, c, x] :=
  ⟨range_set h 0 x, range_set h 1 x, range_set h 2 x, range_set h 3 x⟩
set_option maxRecDepth 100000 in
set_option maxHeartbeats 1000000 in
theorem rchangeS (Q R : Nat) (s : Rst) (w : World) (h : RS w Q R s) (hl : s.1.length ≤ 40000) : Calls Try.prog 41 #[.pointer (some ⟨Q, 0, none⟩)] w fun en w' => ∃ x : Sl Hd, en = .returned (.agg ([.int .i64 (chS s).1.e, .int .i64 (chS s).1.l, .int .i64 (chS s).1.v, x.val] : List Value).toArray) ∧ x.xs.map Hd.pure = (chS s).1.he ∧ HdsAt w' x ∧ x.Bk (fun b => w.heap.size ≤ b ∧ b < w'.heap.size) ∧ (∀ y ∈ x.xs, y.Bk (fun b => w.heap.size ≤ b ∧ b < w'.heap.size)) ∧ RS w' Q R (chS s).2 ∧ Kept w R Q w' := by
  obtain ⟨zc, hzl, hzr, hzc⟩ : ∃ z : List Value, z.length = 4 ∧ (∀ w : World, (zeroValue 31).run Try.prog w = .ok (.agg z.toArray) w) ∧ Hid (z = [.int .i64 0, .int .i64 0, .int .i64 0, .slice none 0 0]) := ⟨_, rfl, zeroChE, hide rfl⟩
  have hRw := h.st.1.1
  have hQw := h.mr.lt
  unfold chS
  have c1 := fun w0 h0 => numRS Q R 1048576 s w0 h0
  have l1 := nuS_len 1048576 s
  generalize nuS 1048576 s = p_ at c1 l1 ⊢
  obtain ⟨v1, s1⟩ := p_
  simp only at c1 l1 ⊢
  have c2 := fun w0 h0 => numRS Q R 64 s1 w0 h0
  have l2 := nuS_len 64 s1
  generalize nuS 64 s1 = p_ at c2 l2 ⊢
  obtain ⟨v2, s2⟩ := p_
  simp only at c2 l2 ⊢
  have c3 := fun w0 h0 => numRS Q R 1099511627776 s2 w0 h0
  have l3 := nuS_len 1099511627776 s2
  generalize nuS 1099511627776 s2 = p_ at c3 l3 ⊢
  obtain ⟨v3, s3⟩ := p_
  simp only at c3 l3 ⊢
  have c4 := fun w0 h0 => rlistH_any Q R s3 w0 h0 (by omega)
  generalize lsS 4 heS s3 = p_ at c4 ⊢
  obtain ⟨ls, s4⟩ := p_
  simp only at c4 ⊢
  obtain ⟨hB1, hr1, hs1⟩ := boxed_new w zc 31
  have ht1 := there_newN w zc.toArray 31 (n := 4) (by simp [hzl])
  go_enter Try.func41, Try.ntmps41
  go_upto_region 0 with fail
  try simp only [Act.put]
  refine pl_begin ?_
  refine pl_run (d := some 2) (v := .pointer (some ⟨w.heap.size, 0, none⟩)) (w' := w.alloc (.cells zc.toArray 31)) (by rfl) (ex_alloc rfl (hzr _)) rfl ?_
  simp only [Act.put, List.setIfInBounds_toArray, List.set_cons_zero, List.set_cons_succ]
  refine pl_nil ?_
  obtain ⟨W1, hW1⟩ : ∃ W, w.alloc (.cells zc.toArray 31) = W := ⟨_, rfl⟩
  rw [hW1] at hB1 hr1 hs1 ht1 ⊢
  clear hW1 hr1
  obtain ⟨hB2, hr2, hs2⟩ := boxed_new W1 zc 31
  have ht2 := there_newN W1 zc.toArray 31 (n := 4) (by simp [hzl])
  go_upto_region 1 with fail
  try simp only [Act.put]
  refine pl_begin ?_
  refine pl_run (d := some 3) (v := .pointer (some ⟨W1.heap.size, 0, none⟩)) (w' := W1.alloc (.cells zc.toArray 31)) (by rfl) (ex_alloc rfl (hzr _)) rfl ?_
  simp only [Act.put, List.setIfInBounds_toArray, List.set_cons_zero, List.set_cons_succ]
  refine pl_nil ?_
  obtain ⟨W2, hW2⟩ : ∃ W, W1.alloc (.cells zc.toArray 31) = W := ⟨_, rfl⟩
  rw [hW2] at hB2 hr2 hs2 ht2 ⊢
  clear hW2
  rw [hzc.out] at hr2
  have hBW := hB1.trans (hB2.mono hB1.size)
  have V0 : MV w Q R w.heap.size W1.heap.size 4 _ s W2 := ⟨hr2, ht2, there_belowN ht1 hB2 hs1, (Kept.refl w R Q).below hBW, h.below hBW, Nat.lt_of_lt_of_le hs1 hB2.size, hs2, Nat.le_refl _, hB1.size, by omega, hRw, hQw⟩
  clear hr2 ht2 ht1 hzr hzc hzl hB1 hB2 hBW hs2 h
  go_upto_region 2 with fail
  have V8 := V0.drew
  refine hs_begin (S := (fun W' => W'.cell? ⟨Q, 0, none⟩ = some (.pointer (some ⟨R, 0, none⟩)))) 21 rfl (by kernel_rfl) ?_
  obtain ⟨w8, hw8⟩ : ∃ W, W2.drew = W := ⟨_, rfl⟩
  rw [hw8] at V8 ⊢
  clear hw8 V0
  have hS : (fun W' => W'.cell? ⟨Q, 0, none⟩ = some (.pointer (some ⟨R, 0, none⟩))) w8 := V8.rs.mr.c0
  refine hs_take (i := 0) (d := some 4) (v := ?_) rfl (by kernel_rfl) (by kernel_rfl) (by kernel_rfl) (by rfl) ?_ hS rfl ?_
  rotate_left
  · intro w' hw
    go_simp
    try with_reducible rfl
  simp only [Act.put, List.setIfInBounds_toArray, List.set_cons_zero, List.set_cons_succ]
  refine hs_take (i := 1) (d := some 5) (v := ?_) rfl (by kernel_rfl) (by kernel_rfl) (by kernel_rfl) (by rfl) ?_ hS rfl ?_
  rotate_left
  · intro w' hw
    go_simp
    try with_reducible rfl
  simp only [Act.put, List.setIfInBounds_toArray, List.set_cons_zero, List.set_cons_succ]
  refine hs_take (i := 2) (d := some 6) (v := ?_) rfl (by kernel_rfl) (by kernel_rfl) (by kernel_rfl) (by rfl) ?_ hS rfl ?_
  rotate_left
  · intro w' hw
    go_simp
    try with_reducible rfl
  simp only [Act.put, List.setIfInBounds_toArray, List.set_cons_zero, List.set_cons_succ]
  refine hs_take (i := 3) (d := some 7) (v := .pointer (some ⟨R, 0, none⟩)) rfl (by kernel_rfl) (by kernel_rfl) (by kernel_rfl) (by rfl) (fun w' hw => pl_one rfl rfl hw Try.underlying88 rfl) hS rfl ?_
  simp only [Act.put, List.setIfInBounds_toArray, List.set_cons_zero, List.set_cons_succ]
  refine hs_take (i := 5) (d := some 9) (v := ?_) rfl (by kernel_rfl) (by kernel_rfl) (by kernel_rfl) (by rfl) ?_ hS rfl ?_
  rotate_left
  · intro w' hw
    go_simp
    try with_reducible rfl
  simp only [Act.put, List.setIfInBounds_toArray, List.set_cons_zero, List.set_cons_succ]
  refine hs_take (i := 6) (d := some 10) (v := ?_) rfl (by kernel_rfl) (by kernel_rfl) (by kernel_rfl) (by rfl) ?_ hS rfl ?_
  rotate_left
  · intro w' hw
    go_simp
    try with_reducible rfl
  simp only [Act.put, List.setIfInBounds_toArray, List.set_cons_zero, List.set_cons_succ]
  refine hs_take (i := 7) (d := some 11) (v := ?_) rfl (by kernel_rfl) (by kernel_rfl) (by kernel_rfl) (by rfl) ?_ hS rfl ?_
  rotate_left
  · intro w' hw
    go_simp
    try with_reducible rfl
  simp only [Act.put, List.setIfInBounds_toArray, List.set_cons_zero, List.set_cons_succ]
  refine hs_take (i := 8) (d := some 12) (v := .pointer (some ⟨R, 0, none⟩)) rfl (by kernel_rfl) (by kernel_rfl) (by kernel_rfl) (by rfl) (fun w' hw => pl_one rfl rfl hw Try.underlying88 rfl) hS rfl ?_
  simp only [Act.put, List.setIfInBounds_toArray, List.set_cons_zero, List.set_cons_succ]
  refine hs_take (i := 10) (d := some 14) (v := ?_) rfl (by kernel_rfl) (by kernel_rfl) (by kernel_rfl) (by rfl) ?_ hS rfl ?_
  rotate_left
  · intro w' hw
    go_simp
    try with_reducible rfl
  simp only [Act.put, List.setIfInBounds_toArray, List.set_cons_zero, List.set_cons_succ]
  refine hs_take (i := 11) (d := some 15) (v := ?_) rfl (by kernel_rfl) (by kernel_rfl) (by kernel_rfl) (by rfl) ?_ hS rfl ?_
  rotate_left
  · intro w' hw
    go_simp
    try with_reducible rfl
  simp only [Act.put, List.setIfInBounds_toArray, List.set_cons_zero, List.set_cons_succ]
  refine hs_take (i := 12) (d := some 16) (v := ?_) rfl (by kernel_rfl) (by kernel_rfl) (by kernel_rfl) (by rfl) ?_ hS rfl ?_
  rotate_left
  · intro w' hw
    go_simp
    try with_reducible rfl
  simp only [Act.put, List.setIfInBounds_toArray, List.set_cons_zero, List.set_cons_succ]
  refine hs_take (i := 13) (d := some 17) (v := .pointer (some ⟨R, 0, none⟩)) rfl (by kernel_rfl) (by kernel_rfl) (by kernel_rfl) (by rfl) (fun w' hw => pl_one rfl rfl hw Try.underlying88 rfl) hS rfl ?_
  simp only [Act.put, List.setIfInBounds_toArray, List.set_cons_zero, List.set_cons_succ]
  refine hs_call (i := 4) (d := some 8) rfl (by kernel_rfl) (by rfl) (by go_simp; first | done | exact ⟨rfl, rfl⟩ | with_reducible rfl) rfl ?_
  refine (c1 w8 V8.rs).mono ?_
  rintro _ w5 ⟨rfl, S5, k5⟩
  have hS : (fun W' => W'.cell? ⟨Q, 0, none⟩ = some (.pointer (some ⟨R, 0, none⟩))) w5 := S5.mr.c0
  refine ⟨_, rfl, hS, ?_⟩
  simp only [Act.put, List.setIfInBounds_toArray, List.set_cons_zero, List.set_cons_succ]
  refine hs_take (i := 15) (d := some 19) (v := ?_) rfl (by kernel_rfl) (by kernel_rfl) (by kernel_rfl) (by rfl) ?_ hS rfl ?_
  rotate_left
  · intro w' hw
    go_simp
    try with_reducible rfl
  simp only [Act.put, List.setIfInBounds_toArray, List.set_cons_zero, List.set_cons_succ]
  refine hs_call (i := 9) (d := some 13) rfl (by kernel_rfl) (by rfl) (by go_simp; first | done | exact ⟨rfl, rfl⟩ | with_reducible rfl) rfl ?_
  refine (c2 w5 S5).mono ?_
  rintro _ w6 ⟨rfl, S6, k6⟩
  have hS : (fun W' => W'.cell? ⟨Q, 0, none⟩ = some (.pointer (some ⟨R, 0, none⟩))) w6 := S6.mr.c0
  refine ⟨_, rfl, hS, ?_⟩
  simp only [Act.put, List.setIfInBounds_toArray, List.set_cons_zero, List.set_cons_succ]
  refine hs_call (i := 14) (d := some 18) rfl (by kernel_rfl) (by rfl) (by go_simp; first | done | exact ⟨rfl, rfl⟩ | with_reducible rfl) rfl ?_
  refine (c3 w6 S6).mono ?_
  rintro _ w7 ⟨rfl, S7, k7⟩
  have hS : (fun W' => W'.cell? ⟨Q, 0, none⟩ = some (.pointer (some ⟨R, 0, none⟩))) w7 := S7.mr.c0
  refine ⟨_, rfl, hS, ?_⟩
  simp only [Act.put, List.setIfInBounds_toArray, List.set_cons_zero, List.set_cons_succ]
  have V7 := ((V8.on k5 S5).on k6 S6).on k7 S7
  have Va := V7.set 0 [.int .i64 v1] ((ch_put V7.row _).1)
  refine hs_store (i := 16) (w' := w7.setCells W1.heap.size 0 [.int .i64 v1]) rfl (by kernel_rfl) (by rfl) (ex_put1 (n := 4) rfl rfl rfl V7.box (by decide) iszI rfl rfl) rfl Va.rs.mr.c0 ?_
  obtain ⟨w_16, hw_16⟩ : ∃ W, w7.setCells W1.heap.size 0 [.int .i64 v1] = W := ⟨_, rfl⟩
  rw [hw_16] at Va ⊢
  clear hw_16
  have hS : (fun W' => W'.cell? ⟨Q, 0, none⟩ = some (.pointer (some ⟨R, 0, none⟩))) w_16 := Va.rs.mr.c0
  refine hs_take (i := 17) (d := some 20) (v := ?_) rfl (by kernel_rfl) (by kernel_rfl) (by kernel_rfl) (by rfl) ?_ hS rfl ?_
  rotate_left
  · intro w' hw
    go_simp
    try with_reducible rfl
  simp only [Act.put, List.setIfInBounds_toArray, List.set_cons_zero, List.set_cons_succ]
  have Vb := Va.set 1 [.int .i64 v2] ((ch_put Va.row _).2.1)
  refine hs_store (i := 18) (w' := w_16.setCells W1.heap.size 1 [.int .i64 v2]) rfl (by kernel_rfl) (by rfl) (ex_put1 (n := 4) rfl rfl rfl Va.box (by decide) iszI rfl rfl) rfl Vb.rs.mr.c0 ?_
  obtain ⟨w_18, hw_18⟩ : ∃ W, w_16.setCells W1.heap.size 1 [.int .i64 v2] = W := ⟨_, rfl⟩
  rw [hw_18] at Vb ⊢
  clear hw_18
  have hS : (fun W' => W'.cell? ⟨Q, 0, none⟩ = some (.pointer (some ⟨R, 0, none⟩))) w_18 := Vb.rs.mr.c0
  refine hs_take (i := 19) (d := some 21) (v := ?_) rfl (by kernel_rfl) (by kernel_rfl) (by kernel_rfl) (by rfl) ?_ hS rfl ?_
  rotate_left
  · intro w' hw
    go_simp
    try with_reducible rfl
  simp only [Act.put, List.setIfInBounds_toArray, List.set_cons_zero, List.set_cons_succ]
  have Vc := Vb.set 2 [.int .i64 v3] ((ch_put Vb.row _).2.2.1)
  refine hs_store (i := 20) (w' := w_18.setCells W1.heap.size 2 [.int .i64 v3]) rfl (by kernel_rfl) (by rfl) (ex_put1 (n := 4) rfl rfl rfl Vb.box (by decide) iszI rfl rfl) rfl Vc.rs.mr.c0 ?_
  obtain ⟨w_20, hw_20⟩ : ∃ W, w_18.setCells W1.heap.size 2 [.int .i64 v3] = W := ⟨_, rfl⟩
  rw [hw_20] at Vc ⊢
  clear hw_20
  have hS : (fun W' => W'.cell? ⟨Q, 0, none⟩ = some (.pointer (some ⟨R, 0, none⟩))) w_20 := Vc.rs.mr.c0
  refine hs_done (by kernel_rfl) ?_
  clear V7 Va Vb S5 S6 S7 k5 k6 k7 V8 hS c1 c2 c3
  go_upto_region 3 with fail
  try simp only [Act.put]
  refine pl_begin ?_
  refine pl_take (d := some 22) (v := ?_) (by rfl) ?_ rfl ?_
  rotate_left
  · go_simp
    try with_reducible rfl
  simp only [Act.put, List.setIfInBounds_toArray, List.set_cons_zero, List.set_cons_succ]
  refine pl_take (d := some 23) (v := ?_) (by rfl) ?_ rfl ?_
  rotate_left
  · go_simp
    try with_reducible rfl
  simp only [Act.put, List.setIfInBounds_toArray, List.set_cons_zero, List.set_cons_succ]
  refine pl_take (d := some 24) (v := ?_) (by rfl) ?_ rfl ?_
  rotate_left
  · go_simp
    try with_reducible rfl
  simp only [Act.put, List.setIfInBounds_toArray, List.set_cons_zero, List.set_cons_succ]
  refine pl_take (d := some 25) (v := .pointer (some ⟨R, 0, none⟩)) (by rfl) (pl_one rfl rfl Vc.rs.mr.c0 Try.underlying88 rfl) rfl ?_
  simp only [Act.put, List.setIfInBounds_toArray, List.set_cons_zero, List.set_cons_succ]
  refine pl_take (d := some 26) (v := ?_) (by rfl) ?_ rfl ?_
  rotate_left
  · go_simp
    try with_reducible rfl
  simp only [Act.put, List.setIfInBounds_toArray, List.set_cons_zero, List.set_cons_succ]
  refine pl_take (d := some 27) (v := ?_) (by rfl) ?_ rfl ?_
  rotate_left
  · go_simp
    try with_reducible rfl
  simp only [Act.put, List.setIfInBounds_toArray, List.set_cons_zero, List.set_cons_succ]
  refine pl_take (d := some 28) (v := ?_) (by rfl) ?_ rfl ?_
  rotate_left
  · go_simp
    try with_reducible rfl
  simp only [Act.put, List.setIfInBounds_toArray, List.set_cons_zero, List.set_cons_succ]
  refine pl_call (d := some 29) (by rfl) (by go_simp; first | done | exact ⟨rfl, rfl⟩ | with_reducible rfl) rfl ?_
  refine (c4 w_20 Vc.rs).mono ?_
  rintro _ wd ⟨x, rfl, hx, hA, hB, hB2, Sd, kd⟩
  refine ⟨_, rfl, ?_⟩
  simp only [Act.put, List.setIfInBounds_toArray, List.set_cons_zero, List.set_cons_succ]
  refine pl_take (d := some 30) (v := ?_) (by rfl) ?_ rfl ?_
  rotate_left
  · go_simp
    try with_reducible rfl
  simp only [Act.put, List.setIfInBounds_toArray, List.set_cons_zero, List.set_cons_succ]
  have Vd := Vc.on kd Sd
  have Ve := Vd.set 3 [x.val] (ch_put Vd.row _).2.2.2
  refine pl_store (w' := wd.setCells W1.heap.size 3 [x.val]) (by rfl) (ex_put1 (n := 4) rfl rfl rfl Vd.box (by decide) iszHds rfl rfl) rfl ?_
  refine pl_nil ?_
  have hne : ∀ b, w_20.heap.size ≤ b ∧ b < wd.heap.size → b ≠ W1.heap.size := fun b hb => by have := Vc.lb; omega
  have hA1 : HdsAt (wd.setCells W1.heap.size 3 [x.val]) x := hA.put hB hB2 hne
  have kz := Vc.kept.size
  obtain ⟨we, hwe⟩ : ∃ W, wd.setCells W1.heap.size 3 [x.val] = W := ⟨_, rfl⟩
  have hse : we.heap.size = wd.heap.size := by rw [← hwe, size_sets]
  rw [hwe] at Ve hA1 ⊢
  clear hwe hA
  have rpc := Ve.row
  have hpl : ([.int .i64 v1, .int .i64 v2, .int .i64 v3, x.val] : List Value).length = 4 := rfl
  have hip : (Try.prog.info? 31).map (·.size) = some ([.int .i64 v1, .int .i64 v2, .int .i64 v3, x.val] : List Value).length := iszCh
  have hp1 : ∀ v ∈ ([.int .i64 v1, .int .i64 v2, .int .i64 v3, x.val] : List Value), v.oneCell' = true := by
    intro v hv
    simp only [List.mem_cons, List.not_mem_nil, or_false] at hv
    rcases hv with rfl | rfl | rfl | rfl <;> rfl
  obtain ⟨pc, hpc⟩ : ∃ p, Hid (([.int .i64 v1, .int .i64 v2, .int .i64 v3, x.val] : List Value) = p) := ⟨_, hide rfl⟩
  rw [hpc.out] at hpl hip hp1 rpc
  go_upto_region 4 with fail
  try simp only [Act.put]
  refine pl_begin ?_
  refine pl_take (d := some 31) (v := .agg pc.toArray) (by rfl) (ex_mid rfl rfl rpc Try.underlying31 rfl hip) rfl ?_
  simp only [Act.put, List.setIfInBounds_toArray, List.set_cons_zero, List.set_cons_succ]
  refine pl_store (w' := we.setCells w.heap.size 0 pc) (by rfl) (ex_put (cs := pc.toArray) rfl rfl rfl (by simpa [hpl] using Ve.ans) (by simpa using hip) (all_one hp1)) rfl ?_
  refine pl_nil ?_
  have hlow : Below w.heap.size we (we.setCells w.heap.size 0 pc) := below_sets (Nat.le_refl _) pc 0 _ (Below.refl _ we)
  have hrs := run_loadVar_mid (P := Try.prog) (we.setCells w.heap.size 0 pc) w.heap.size 0 31 pc _ (World.rangeAt_setCells_same we w.heap.size 0 pc (by rw [hpl]; exact Ve.ans)) Try.underlying31 rfl hip
  have HF : Hid (∃ g : Sl Hd, Ending.returned (.agg pc.toArray) = .returned (.agg ([.int .i64 v1, .int .i64 v2, .int .i64 v3, g.val] : List Value).toArray) ∧ g.xs.map Hd.pure = ls ∧ HdsAt (we.setCells w.heap.size 0 pc) g ∧ g.Bk (fun b => w.heap.size ≤ b ∧ b < (we.setCells w.heap.size 0 pc).heap.size) ∧ (∀ y ∈ g.xs, y.Bk (fun b => w.heap.size ≤ b ∧ b < (we.setCells w.heap.size 0 pc).heap.size)) ∧ RS (we.setCells w.heap.size 0 pc) Q R s4 ∧ Kept w R Q (we.setCells w.heap.size 0 pc)) := by
    have la := Vc.la
    refine hide ⟨x, by rw [hpc.out], hx, hA1.put hB hB2 (fun b hb => by omega), hB.mono (fun b hb => ⟨by omega, by rw [size_sets]; omega⟩), fun y hy => (hB2 y hy).mono (fun b hb => ⟨by omega, by rw [size_sets]; omega⟩), Ve.rs.low hlow hQw, Ve.kept.low hlow (Nat.le_refl _)⟩
  clear Ve hlow rpc hA1 hB hB2 Vd Vc Sd kd
  go_wp2_with fail
  refine bodyPost_ret (v := .agg pc.toArray) ?_ rfl ?_
  · simp [results, Try.results41, Act.put, asAddr, hrs]
  · exact HF.out
end Go.Proofs.Ytahdmajppnffeaa
namespace Go.Proofs.Ytahdmajppnffeaa
open Go.RowKit
open Sha Tal
set_option linter.unusedVariables false
set_option linter.unusedSimpArgs false
/-- a message, without its places -/
structure Mp where
  k : Int
  e : Int
  l : Int
  v : Int
  s : Int
  q : Bool
  rs : List Rq
  vt : Vt
  ce : Int
  cl : Int
  cv : Int
  he : List Hp
  ne : List Ev
  d : List Int
  ct : Vt
  cs : List Sg
  st : ByteArray
  sg : List Sg
def Mg.pure (m : Mg) : Mp := ⟨m.k, m.e, m.l, m.v, m.s, m.q, m.rs.xs, m.vt, m.ce, m.cl, m.cv, m.he.xs.map Hd.pure, m.ne.xs, m.d, m.ct, m.cs.xs, m.st, m.sg.xs⟩
def mg1 (s : Rst) : Mp × Rst := (⟨1, (nuS 1048576 s).1, 0, 0, (nuS 1099511627776 (nuS 1048576 s).2).1, (baS (nuS 1099511627776 (nuS 1048576 s).2).2).1.1, (baS (nuS 1099511627776 (nuS 1048576 s).2).2).1.2, Vt.zero, 0, 0, 0, [], [], zeros32, Vt.zero, [], ⟨#[]⟩, []⟩, (baS (nuS 1099511627776 (nuS 1048576 s).2).2).2)
def mg2 (s : Rst) : Mp × Rst := (⟨2, 0, 0, 0, 0, false, [], (voS s).1, 0, 0, 0, [], [], zeros32, Vt.zero, [], ⟨#[]⟩, []⟩, (voS s).2)
def mg3 (s : Rst) : Mp × Rst := (⟨3, 0, 0, 0, 0, false, [], Vt.zero, (chS s).1.e, (chS s).1.l, (chS s).1.v, (chS s).1.he, [], zeros32, Vt.zero, [], ⟨#[]⟩, []⟩, (chS s).2)
def mg4 (s : Rst) : Mp × Rst := (⟨4, (nuS 1048576 s).1, (nuS 64 (nuS 1048576 s).2).1, (nuS 1099511627776 (nuS 64 (nuS 1048576 s).2).2).1, 0, false, [], Vt.zero, 0, 0, 0, [], (lsS 64 enS (nuS 1099511627776 (nuS 64 (nuS 1048576 s).2).2).2).1, zeros32, Vt.zero, [], ⟨#[]⟩, []⟩, (lsS 64 enS (nuS 1099511627776 (nuS 64 (nuS 1048576 s).2).2).2).2)
def mg5 (s : Rst) : Mp × Rst := (⟨5, (nuS 1048576 s).1, 0, 0, 0, false, [], Vt.zero, 0, 0, 0, [], [], (dgS (nuS 1048576 s).2).1, Vt.zero, [], ⟨#[]⟩, []⟩, (dgS (nuS 1048576 s).2).2)
def mg6 (s : Rst) : Mp × Rst := (⟨6, (nuS 1048576 s).1, 0, 0, (nuS 1099511627776 (nuS 1048576 s).2).1, false, [], Vt.zero, 0, 0, 0, [], [], zeros32, Vt.zero, [], ⟨#[]⟩, []⟩, (nuS 1099511627776 (nuS 1048576 s).2).2)
def mg7 (s : Rst) : Mp × Rst := (⟨7, 0, 0, 0, 0, (baS s).1.1, (baS s).1.2, Vt.zero, 0, 0, 0, [], [], zeros32, (ceS (baS s).2).1.1, (ceS (baS s).2).1.2, ⟨#[]⟩, []⟩, (ceS (baS s).2).2)
def mg8 (s : Rst) : Mp × Rst := (⟨8, 0, 0, 0, 0, false, [], Vt.zero, 0, 0, 0, [], [], zeros32, Vt.zero, [], (txS 4194304 s).1, (lsS 64 siS (txS 4194304 s).2).1⟩, (lsS 64 siS (txS 4194304 s).2).2)
def mgF (k : Int) (s : Rst) : Mp × Rst := if k = 1 then mg1 s else if k = 2 then mg2 s else if k = 3 then mg3 s else if k = 4 then mg4 s else if k = 5 then mg5 s else if k = 6 then mg6 s else if k = 7 then mg7 s else if k = 8 then mg8 s else (⟨k, 0, 0, 0, 0, false, [], Vt.zero, 0, 0, 0, [], [], zeros32, Vt.zero, [], ⟨#[]⟩, []⟩, s)
def mgS (s : Rst) : Mp × Rst := mgF (kiS 8 s).1 (kiS 8 s).2
theorem iszEvs : (Try.prog.info? 32).map (·.size) = some 1 := by kernel_rfl
theorem iszSgs : (Try.prog.info? 33).map (·.size) = some 1 := by kernel_rfl
theorem iszStr : (Try.prog.info? 9).map (·.size) = some 1 := by kernel_rfl
theorem ms0_ok (k : Int) : (Ms.plain k 0 0 Vt.zero zeros32).ok := Ms.plain_ok k 0 0 Vt.zero_ok zeros32_len zeros32_byte
/-- where the rows of a message lie -/
def Mg.Bk (m : Mg) (P : Nat → Prop) : Prop := m.rs.Bk P ∧ m.he.Bk P ∧ (∀ y ∈ m.he.xs, y.Bk P) ∧ m.ne.Bk P ∧ m.cs.Bk P ∧ m.sg.Bk P
theorem no_bk {α : Type} {P : Nat → Prop} : (⟨none, 0, []⟩ : Sl α).Bk P := fun b h => absurd rfl h
theorem no_bk2 {P : Nat → Prop} : ∀ y ∈ (⟨none, 0, []⟩ : Sl Hd).xs, y.Bk P := fun y h => by cases h
theorem mg0_at {W : World} {m : Mg} (h1 : m.rs.At RqE W) (h2 : HdsAt W m.he) (h3 : m.ne.At EvE W) (h4 : m.cs.At SgE W) (h5 : m.sg.At SgE W) : m.At W := ⟨h1, h2, h3, h4, h5⟩
end Go.Proofs.Ytahdmajppnffeaa
namespace Go.Proofs.Ytahdmajppnffeaa
open Go.RowKit
open Sha Tal
set_option linter.unusedVariables false
set_option linter.unusedSimpArgs false
/-- what the program's reader will tell, if it is bad -/
def cod (s : Rst) : Int := if s.2.2 = true then 130 else s.2.1
theorem itG_bad {α : Type} {one : Rst → α × Rst} (h : ∀ s, cod s ≠ 0 → cod (one s).2 = cod s) {s : Rst} (hs : cod s ≠ 0) : ∀ k, cod (itG one s k).2 = cod s := by
  intro k
  induction k with
  | zero => rfl
  | succ k ih => show cod (one (itG one s k).2).2 = _; rw [h _ (by rw [ih]; exact hs), ih]
theorem numS_bad (most : Int) (r : List Int) (e : Int) (h : e ≠ 0) : (numS r e most).2.2 = e := by
  unfold numS
  rw [if_neg h]
theorem textS_bad (most : Int) (r : List Int) (e : Int) (h : e ≠ 0) : (textS r e most).2.2 = e := by
  have := numS_bad 9223372036854775807 r e h
  unfold textS
  rw [if_neg (by rw [this]; exact h)]
  exact this
theorem rawS_bad (n : Int) (r : List Int) (e : Int) (h : e ≠ 0) : (rawS r e n).2.2 = e := by
  unfold rawS
  rw [if_neg h]
/-- f reads what enc lays, and nothing else -/
structure Codec {α : Type} (f : Rst → α × Rst) (enc : α → List Int) (ok : α → Prop) : Prop where
  bad : ∀ s, cod s ≠ 0 → cod (f s).2 = cod s
  back : ∀ a q, ok a → f (enc a ++ q, 0, false) = (a, q, 0, false)
  form : ∀ r, Bs r → cod (f (r, 0, false)).2 = 0 → ∃ a q, ok a ∧ f (r, 0, false) = (a, q, 0, false) ∧ r = enc a ++ q
theorem Bs.right {a q : List Int} (h : Bs (a ++ q)) : Bs q := fun z hz => h z (List.mem_append_right _ hz)
theorem Bs.left {a q : List Int} (h : Bs (a ++ q)) : Bs a := fun z hz => h z (List.mem_append_left _ hz)
theorem cod0 {r : List Int} {e : Int} {z : Bool} (h : cod (r, e, z) = 0) : z = false ∧ e = 0 := by
  unfold cod at h
  cases z
  · exact ⟨rfl, h⟩
  · exact absurd h (show (130 : Int) ≠ 0 by decide)
theorem Codec.simple {α : Type} {g : List Int → Int → α × List Int × Int} {enc : α → List Int} {ok : α → Prop} (h1 : ∀ r e, e ≠ 0 → (g r e).2.2 = e) (h2 : ∀ a q, ok a → g (enc a ++ q) 0 = (a, q, 0)) (h3 : ∀ r, Bs r → (g r 0).2.2 = 0 → ∃ a q, ok a ∧ g r 0 = (a, q, 0) ∧ r = enc a ++ q) :
    Codec (fun s => ((g s.1 s.2.1).1, (g s.1 s.2.1).2.1, (g s.1 s.2.1).2.2, s.2.2)) enc ok := by
  refine ⟨fun s h => ?_, fun a q ha => ?_, fun r hb hc => ?_⟩
  · obtain ⟨r, e, z⟩ := s
    cases z
    · exact h1 r e h
    · rfl
  · show ((g (enc a ++ q) 0).1, (g (enc a ++ q) 0).2.1, (g (enc a ++ q) 0).2.2, false) = _
    rw [h2 a q ha]
  · obtain ⟨a, q, k1, k2, k3⟩ := h3 r hb (cod0 hc).2
    exact ⟨a, q, k1, by show ((g r 0).1, (g r 0).2.1, (g r 0).2.2, false) = _; rw [k2], k3⟩
theorem Codec.bind {α β : Type} {f : Rst → α × Rst} {g : Rst → β × Rst} {e1 : α → List Int} {e2 : β → List Int} {o1 : α → Prop} {o2 : β → Prop} (p : Codec f e1 o1) (q : Codec g e2 o2) : Codec (fun s => (((f s).1, (g (f s).2).1), (g (f s).2).2)) (fun c => e1 c.1 ++ e2 c.2) (fun c => o1 c.1 ∧ o2 c.2) := by
  refine ⟨fun s hs => ?_, fun c t hc => ?_, fun r hb hc => ?_⟩
  · show cod (g (f s).2).2 = cod s
    rw [q.bad _ (by rw [p.bad s hs]; exact hs), p.bad s hs]
  · obtain ⟨a, b⟩ := c
    show (((f (e1 a ++ e2 b ++ t, 0, false)).1, (g (f (e1 a ++ e2 b ++ t, 0, false)).2).1), (g (f (e1 a ++ e2 b ++ t, 0, false)).2).2) = _
    rw [List.append_assoc, p.back a _ hc.1]
    show ((a, (g (e2 b ++ t, 0, false)).1), (g (e2 b ++ t, 0, false)).2) = _
    rw [q.back b t hc.2]
  · have hc1 : cod (f (r, 0, false)).2 = 0 := by
      by_cases c : cod (f (r, 0, false)).2 = 0
      · exact c
      · exact absurd ((q.bad _ c).symm.trans hc) c
    obtain ⟨a, r1, k1, k2, k3⟩ := p.form r hb hc1
    have hc2 : cod (g (f (r, 0, false)).2).2 = 0 := hc
    rw [k2] at hc2
    obtain ⟨b, r2, m1, m2, m3⟩ := q.form r1 (by rw [k3] at hb; exact hb.right) hc2
    refine ⟨(a, b), r2, ⟨k1, m1⟩, ?_, by rw [k3, m3, List.append_assoc]⟩
    show (((f (r, 0, false)).1, (g (f (r, 0, false)).2).1), (g (f (r, 0, false)).2).2) = _
    rw [k2]
    show ((a, (g (r1, 0, false)).1), (g (r1, 0, false)).2) = _
    rw [m2]
theorem Codec.map {α β : Type} {f : Rst → α × Rst} {enc : α → List Int} {ok : α → Prop} (h : α → β) (g : β → α) (hg : ∀ a, g (h a) = a) (p : Codec f enc ok) : Codec (fun s => (h (f s).1, (f s).2)) (fun b => enc (g b)) (fun b => ok (g b) ∧ h (g b) = b) := by
  refine ⟨p.bad, fun b q hb => ?_, fun r hb hc => ?_⟩
  · show (h (f (enc (g b) ++ q, 0, false)).1, (f (enc (g b) ++ q, 0, false)).2) = _
    rw [p.back _ q hb.1]
    show (h (g b), _) = _
    rw [hb.2]
  · obtain ⟨a, q, k1, k2, k3⟩ := p.form r hb hc
    refine ⟨h a, q, ⟨by rw [hg]; exact k1, by rw [hg]⟩, ?_, by rw [hg]; exact k3⟩
    show (h (f (r, 0, false)).1, (f (r, 0, false)).2) = _
    rw [k2]
theorem it_back {α : Type} {one : Rst → α × Rst} {enc : α → List Int} {ok : α → Prop} (p : Codec one enc ok) (q : List Int) (xs : List α) (h : ∀ x ∈ xs, ok x) : ∀ k, k ≤ xs.length → itG one (xs.flatMap enc ++ q, 0, false) k = (xs.take k, (xs.drop k).flatMap enc ++ q, 0, false) := by
  intro k
  induction k with
  | zero => intro _; simp [itG]
  | succ k ih =>
    intro hk
    have i := ih (by omega)
    have hd : xs.drop k = xs[k] :: xs.drop (k + 1) := List.drop_eq_getElem_cons (by omega)
    show ((itG one (xs.flatMap enc ++ q, 0, false) k).1 ++ [(one (itG one (xs.flatMap enc ++ q, 0, false) k).2).1], (one (itG one (xs.flatMap enc ++ q, 0, false) k).2).2) = _
    rw [i]
    show (xs.take k ++ [(one ((xs.drop k).flatMap enc ++ q, 0, false)).1], (one ((xs.drop k).flatMap enc ++ q, 0, false)).2) = _
    rw [hd, List.flatMap_cons, List.append_assoc, p.back _ _ (h _ (List.getElem_mem (by omega))), List.take_succ_eq_append_getElem (by omega)]
theorem it_form {α : Type} {one : Rst → α × Rst} {enc : α → List Int} {ok : α → Prop} (p : Codec one enc ok) (r : List Int) (hb : Bs r) : ∀ k, cod (itG one (r, 0, false) k).2 = 0 → ∃ xs q, xs.length = k ∧ (∀ x ∈ xs, ok x) ∧ itG one (r, 0, false) k = (xs, q, 0, false) ∧ r = xs.flatMap enc ++ q := by
  intro k
  induction k with
  | zero => intro _; exact ⟨[], r, rfl, (fun x hx => by cases hx), rfl, rfl⟩
  | succ k ih =>
    intro hc
    have hc : cod (one (itG one (r, 0, false) k).2).2 = 0 := hc
    have c0 : cod (itG one (r, 0, false) k).2 = 0 := by
      by_cases c : cod (itG one (r, 0, false) k).2 = 0
      · exact c
      · exact absurd ((p.bad _ c).symm.trans hc) c
    obtain ⟨xs, q, h1, h2, h3, h4⟩ := ih c0
    rw [h3] at hc
    obtain ⟨a, q', k1, k2, k3⟩ := p.form q (by rw [h4] at hb; exact hb.right) hc
    refine ⟨xs ++ [a], q', by simp [h1], fun x hx => ?_, ?_, by rw [h4, k3, List.flatMap_append]; simp⟩
    · rcases List.mem_append.1 hx with g | g
      · exact h2 x g
      · rw [List.mem_singleton.1 g]; exact k1
    · show ((itG one (r, 0, false) k).1 ++ [(one (itG one (r, 0, false) k).2).1], (one (itG one (r, 0, false) k).2).2) = _
      rw [h3]
      show (xs ++ [(one (q, 0, false)).1], (one (q, 0, false)).2) = _
      rw [k2]
theorem num_form {most : Int} {r : List Int} (hb : Bs r) (h : (numS r 0 most).2.2 = 0) : ∃ n q, (0 ≤ n ∧ n ≤ most ∧ n ≤ 9223372036854775807) ∧ numS r 0 most = (n, q, 0) ∧ r = putL n ++ q := by
  unfold numS at h ⊢
  rw [if_pos rfl] at h ⊢
  by_cases h1 : (numR r).2.2 = 0
  · rw [if_pos h1] at h ⊢
    obtain ⟨k1, k2, k3, k4⟩ := numR_form r hb h1
    by_cases h2 : most < (numR r).1
    · rw [if_pos h2] at h; exact absurd h (show (3 : Int) ≠ 0 by decide)
    · rw [if_neg h2]
      refine ⟨(numR r).1, _, ⟨k3, by omega, k4⟩, rfl, ?_⟩
      rw [k1, List.take_append_drop]
  · rw [if_neg h1] at h
    exact absurd h h1
theorem nu_codec (most : Int) (hm : most ≤ 9223372036854775807) : Codec (nuS most) putL (fun n => 0 ≤ n ∧ n ≤ most) :=
  Codec.simple (g := fun r e => numS r e most) (numS_bad most) (fun a q h => numS_back a most h.1 (by omega) h.2 q) (fun r hb h => by
    obtain ⟨n, q, k1, k2, k3⟩ := num_form hb h
    exact ⟨n, q, ⟨k1.1, k1.2.1⟩, k2, k3⟩)
theorem ki_codec (most : Int) (hm : most ≤ 9223372036854775807) : Codec (kiS most) putL (fun n => 1 ≤ n ∧ n ≤ most) := by
  refine ⟨fun s h => ?_, fun a q ha => ?_, fun r hb hc => ?_⟩
  · obtain ⟨r, e, z⟩ := s
    cases z
    · have h : e ≠ 0 := h
      have h1 := numS_bad most r e h
      have k : kdZ r e most false = false := by
        unfold kdZ
        rw [h1]
        have : (e == 0) = false := by simpa using h
        rw [this]
        simp
      show (if kdZ r e most false = true then 130 else (numS r e most).2.2) = e
      rw [k, if_neg (by decide)]
      exact h1
    · have k : kdZ r e most true = true := by
        unfold kdZ
        simp
      show (if kdZ r e most true = true then 130 else (numS r e most).2.2) = 130
      rw [k, if_pos rfl]
  · show ((numS (putL a ++ q) 0 most).1, (numS (putL a ++ q) 0 most).2.1, (numS (putL a ++ q) 0 most).2.2, kdZ (putL a ++ q) 0 most false) = _
    unfold kdZ
    rw [numS_back a most (by omega) (by omega) ha.2 q]
    have : (a == 0) = false := by simp; omega
    simp [this]
  · have hc : cod ((numS r 0 most).2.1, (numS r 0 most).2.2, kdZ r 0 most false) = 0 := hc
    obtain ⟨z0, e0⟩ := cod0 hc
    obtain ⟨n, q, k1, k2, k3⟩ := num_form hb e0
    have hz : kdZ r 0 most false = false := z0
    unfold kdZ at z0
    rw [k2] at z0
    have hn : n ≠ 0 := fun q => by rw [q] at z0; simp at z0
    refine ⟨n, q, ⟨by omega, k1.2.1⟩, ?_, k3⟩
    show ((numS r 0 most).1, (numS r 0 most).2.1, (numS r 0 most).2.2, kdZ r 0 most false) = _
    rw [hz, k2]
theorem raw_back (n : Nat) (d q : List Int) (h : d.length = n) : rawS (d ++ q) 0 n = (d, q, 0) := by
  unfold rawS
  rw [if_pos rfl, if_neg (by omega), if_neg (by rw [List.length_append]; omega)]
  have e : (n : Int).toNat = d.length := by omega
  rw [e, List.take_left, List.drop_left]
theorem raw_form {n : Nat} {r : List Int} (h : (rawS r 0 n).2.2 = 0) : ∃ d q, d.length = n ∧ rawS r 0 n = (d, q, 0) ∧ r = d ++ q := by
  unfold rawS at h ⊢
  rw [if_pos rfl, if_neg (by omega)] at h ⊢
  by_cases h1 : (r.length : Int) < n
  · rw [if_pos h1] at h; exact absurd h (show (10 : Int) ≠ 0 by decide)
  · rw [if_neg h1]
    exact ⟨_, _, by rw [List.length_take]; omega, rfl, (List.take_append_drop _ _).symm⟩
theorem pad_codec (n : Nat) (m : Int) (hm : m = (n : Int)) : Codec (fun s => (padN n (rawS s.1 s.2.1 m).1, (rawS s.1 s.2.1 m).2.1, (rawS s.1 s.2.1 m).2.2, s.2.2)) (fun d => d) (fun d => d.length = n ∧ Bs d) := by
  subst hm
  exact Codec.simple (g := fun r e => (padN n (rawS r e n).1, (rawS r e n).2)) (fun r e h => rawS_bad n r e h) (fun a q h => by
    show (padN n (rawS (a ++ q) 0 n).1, (rawS (a ++ q) 0 n).2) = _
    rw [raw_back n a q h.1]
    show (padN n a, _) = _
    unfold padN
    rw [if_pos h.1]) (fun r hb h => by
    obtain ⟨d, q, k1, k2, k3⟩ := raw_form (n := n) h
    refine ⟨d, q, ⟨k1, by rw [k3] at hb; exact hb.left⟩, ?_, k3⟩
    show (padN n (rawS r 0 n).1, (rawS r 0 n).2) = _
    rw [k2]
    show (padN n d, _) = _
    unfold padN
    rw [if_pos k1])
theorem strL_strOf {zs : List Int} (h : ∀ z ∈ zs, 0 ≤ z ∧ z < 256) : strL (strOf zs) = zs := strOf_inj (strL_byte _) h (by rw [strOf_strL])
theorem tx_codec (most : Int) (hm : most ≤ 1099511627) : Codec (txS most) textL (fun s => (s.size : Int) ≤ most) :=
  Codec.simple (g := fun r e => (strOf (textS r e most).1, (textS r e most).2)) (fun r e h => textS_bad most r e h) (fun s q h => by
    show (strOf (textS (textL s ++ q) 0 most).1, (textS (textL s ++ q) 0 most).2) = _
    rw [textS_back s most (by omega) h q]
    show (strOf (strL s), _) = _
    rw [strOf_strL]) (fun r hb h => by
    have h : (textS r 0 most).2.2 = 0 := h
    have hn : (numS r 0 9223372036854775807).2.2 = 0 := by
      by_cases c : (numS r 0 9223372036854775807).2.2 = 0
      · exact c
      · unfold textS at h; rw [if_neg c] at h; exact absurd h c
    obtain ⟨n, q, k1, k2, k3⟩ := num_form hb hn
    show ∃ a q, _ ∧ (strOf (textS r 0 most).1, (textS r 0 most).2) = _ ∧ _
    unfold textS at h ⊢
    rw [if_pos hn, k2] at h ⊢
    by_cases c1 : most < n
    · rw [if_pos c1] at h; exact absurd h (show (3 : Int) ≠ 0 by decide)
    · rw [if_neg c1] at h ⊢
      by_cases c2 : (q.length : Int) < n
      · rw [if_pos c2] at h; exact absurd h (show (10 : Int) ≠ 0 by decide)
      · rw [if_neg c2]
        have hl : (q.take n.toNat).length = n.toNat := by rw [List.length_take]; omega
        have hbt : Bs (q.take n.toNat) := (show Bs q from by rw [k3] at hb; exact hb.right).subT _
        have hsz : (strOf (q.take n.toNat)).size = n.toNat := by rw [strOf_size, hl]
        refine ⟨strOf (q.take n.toNat), q.drop n.toNat, by omega, rfl, ?_⟩
        unfold textL
        rw [strL_strOf hbt, hsz, List.append_assoc, List.take_append_drop, show ((n.toNat : Nat) : Int) = n by omega]
        exact k3)
/-- a sign, an envelope, a vote, a list -/
def sgOk (g : Sg) : Prop := (0 ≤ g.n ∧ g.n ≤ 64) ∧ (g.t.length = 16 ∧ Bs g.t)
def evOk (g : Ev) : Prop := (0 ≤ g.n ∧ g.n ≤ 64) ∧ ((g.s.size : Int) ≤ 4194304 ∧ (g.t.length = 16 ∧ Bs g.t))
def vtOk (x : Vt) : Prop := (1 ≤ x.k ∧ x.k ≤ 2) ∧ ((0 ≤ x.e ∧ x.e ≤ 1048576) ∧ ((0 ≤ x.v ∧ x.v ≤ 1099511627776) ∧ ((0 ≤ x.s ∧ x.s ≤ 1099511627776) ∧ (x.d.length = 32 ∧ Bs x.d))))
theorem Codec.as {α : Type} {f f' : Rst → α × Rst} {enc enc' : α → List Int} {ok ok' : α → Prop} (p : Codec f enc ok) (hf : f' = f) (he : ∀ a, enc' a = enc a) (ho : ∀ a, ok' a ↔ ok a) : Codec f' enc' ok' := by
  subst hf
  obtain rfl : enc' = enc := funext he
  obtain rfl : ok' = ok := funext fun a => propext (ho a)
  exact p
theorem si_codec : Codec siS sgL sgOk :=
  (Codec.map (fun (c : Int × List Int) => (⟨c.1, c.2⟩ : Sg)) (fun g => (g.n, g.t)) (fun _ => rfl) (Codec.bind (nu_codec 64 (by decide)) (pad_codec 16 16 rfl))).as rfl (fun _ => rfl) (fun a => ⟨fun h => ⟨h, rfl⟩, fun h => h.1⟩)
theorem en_codec : Codec enS evL evOk :=
  (Codec.map (fun (c : Int × (ByteArray × List Int)) => (⟨c.1, c.2.1, c.2.2⟩ : Ev)) (fun g => (g.n, (g.s, g.t))) (fun _ => rfl) (Codec.bind (nu_codec 64 (by decide)) (Codec.bind (tx_codec 4194304 (by decide)) (pad_codec 16 16 rfl)))).as rfl (fun _ => rfl) (fun a => ⟨fun h => ⟨h, rfl⟩, fun h => h.1⟩)
theorem vo_codec : Codec voS vtL vtOk :=
  (Codec.map (fun (c : Int × (Int × (Int × (Int × List Int)))) => (⟨c.1, c.2.1, c.2.2.1, c.2.2.2.1, c.2.2.2.2⟩ : Vt)) (fun x => (x.k, (x.e, (x.v, (x.s, x.d))))) (fun _ => rfl) (Codec.bind (ki_codec 2 (by decide)) (Codec.bind (nu_codec 1048576 (by decide)) (Codec.bind (nu_codec 1099511627776 (by decide)) (Codec.bind (nu_codec 1099511627776 (by decide)) (pad_codec 32 32 rfl)))))).as rfl (fun x => by simp [vtL, List.append_assoc]) (fun a => ⟨fun h => ⟨h, rfl⟩, fun h => h.1⟩)
theorem ls_codec {α : Type} {one : Rst → α × Rst} {enc : α → List Int} {ok : α → Prop} (most : Int) (hm : most ≤ 1000) (p : Codec one enc ok) : Codec (lsS most one) (fun xs => putL xs.length ++ xs.flatMap enc) (fun xs => (xs.length : Int) ≤ most ∧ ∀ x ∈ xs, ok x) := by
  have pn := nu_codec most (by omega)
  refine ⟨fun s h => ?_, fun xs q h => ?_, fun r hb hc => ?_⟩
  · have c := pn.bad s h
    show cod (itG one (nuS most s).2 _).2 = _
    rw [itG_bad p.bad (by rw [c]; exact h), c]
  · show itG one (nuS most (putL xs.length ++ xs.flatMap enc ++ q, 0, false)).2 (nuS most (putL xs.length ++ xs.flatMap enc ++ q, 0, false)).1.toNat = _
    rw [List.append_assoc, pn.back _ _ ⟨by omega, h.1⟩]
    show itG one (xs.flatMap enc ++ q, 0, false) (xs.length : Int).toNat = _
    rw [Int.toNat_natCast, it_back p q xs h.2 xs.length (Nat.le_refl _)]
    simp
  · have hc : cod (itG one (nuS most (r, 0, false)).2 (nuS most (r, 0, false)).1.toNat).2 = 0 := hc
    have c0 : cod (nuS most (r, 0, false)).2 = 0 := by
      by_cases c : cod (nuS most (r, 0, false)).2 = 0
      · exact c
      · exact absurd ((itG_bad p.bad c _).symm.trans hc) c
    obtain ⟨n, q, k1, k2, k3⟩ := pn.form r hb c0
    rw [k2] at hc
    obtain ⟨xs, q', h1, h2, h3, h4⟩ := it_form p q (by rw [k3] at hb; exact hb.right) _ hc
    have hn : ((xs.length : Nat) : Int) = n := by rw [h1]; have := k1.1; omega
    refine ⟨xs, q', ⟨by rw [hn]; exact k1.2, h2⟩, ?_, by rw [hn, k3, h4, List.append_assoc]⟩
    show itG one (nuS most (r, 0, false)).2 (nuS most (r, 0, false)).1.toNat = _
    rw [k2]
    exact h3
end Go.Proofs.Ytahdmajppnffeaa
namespace Go.Proofs.Ytahdmajppnffeaa
open Go.RowKit
open Sha Tal
set_option linter.unusedVariables false
set_option linter.unusedSimpArgs false
set_option maxRecDepth 100000 in
set_option maxHeartbeats 1000000 in
theorem rmsgK0 (Q R : Nat) (s : Rst) (w : World) (h : RS w Q R s) (hl : s.1.length ≤ 40000) (n1 : (kiS 8 s).1 ≠ 1) (n2 : (kiS 8 s).1 ≠ 2) (n3 : (kiS 8 s).1 ≠ 3) (n4 : (kiS 8 s).1 ≠ 4) (n5 : (kiS 8 s).1 ≠ 5) (n6 : (kiS 8 s).1 ≠ 6) (n7 : (kiS 8 s).1 ≠ 7) (n8 : (kiS 8 s).1 ≠ 8) : Calls Try.prog 15 #[.pointer (some ⟨Q, 0, none⟩)] w fun en w' => ∃ m : Mg, en = .returned (.agg m.ms.cells.toArray) ∧ m.pure = ((⟨(kiS 8 s).1, 0, 0, 0, 0, false, [], Vt.zero, 0, 0, 0, [], [], zeros32, Vt.zero, [], ⟨#[]⟩, []⟩, (kiS 8 s).2) : Mp × Rst).1 ∧ m.ok ∧ m.At w' ∧ m.Bk (fun b => w.heap.size ≤ b) ∧ RS w' Q R ((⟨(kiS 8 s).1, 0, 0, 0, 0, false, [], Vt.zero, 0, 0, 0, [], [], zeros32, Vt.zero, [], ⟨#[]⟩, []⟩, (kiS 8 s).2) : Mp × Rst).2 ∧ Kept w R Q w' := by
  have hRw := h.st.1.1
  have hQw := h.mr.lt
  have ck := fun w0 h0 => kindRS Q R 8 s w0 h0
  have l0 := kiS_len 8 s
  generalize kiS 8 s = p_ at ck l0 n1 n2 n3 n4 n5 n6 n7 n8 ⊢
  obtain ⟨k, s0⟩ := p_
  simp only at ck l0 n1 n2 n3 n4 n5 n6 n7 n8 ⊢
  have b1 : (k == 1) = false := by simpa using n1
  have b2 : (k == 2) = false := by simpa using n2
  have b3 : (k == 3) = false := by simpa using n3
  have b4 : (k == 4) = false := by simpa using n4
  have b5 : (k == 5) = false := by simpa using n5
  have b6 : (k == 6) = false := by simpa using n6
  have b7 : (k == 7) = false := by simpa using n7
  have b8 : (k == 8) = false := by simpa using n8
  clear n1 n2 n3 n4 n5 n6 n7 n8
  obtain ⟨zc, hzl, hzr⟩ : ∃ z : List Value, z.length = 119 ∧ ∀ w : World, (zeroValue 37).run Try.prog w = .ok (.agg z.toArray) w := ⟨_, (Ms.plain_ok 0 0 0 Vt.zero_ok zeros32_len zeros32_byte).len, zeroM⟩
  have hbk := build_kind k
  have hql := (ms0_ok k).len
  have hq1 := (ms0_ok k).one
  have hiq : (Try.prog.info? 37).map (·.size) = some (Ms.plain k 0 0 Vt.zero zeros32).cells.length := by rw [hql]; exact iszM
  have hk0 : ∀ (w' : World) b, w'.rangeAt b 0 (Ms.plain k 0 0 Vt.zero zeros32).cells → w'.cell? ⟨b, 0, none⟩ = some (.int .i64 k) := fun w' b h => ((ms0_ok k).at h).k
  obtain ⟨qk, hqk⟩ : ∃ q, Hid ((Ms.plain k 0 0 Vt.zero zeros32).cells = q) := ⟨_, hide rfl⟩
  simp only [hqk.out] at hbk hql hq1 hiq hk0
  obtain ⟨hB1, hr1, hs1⟩ := boxed_new w zc 37
  have ht1 := there_newN w zc.toArray 37 (n := 119) (by simp [hzl])
  go_enter Try.func15, Try.ntmps15
  go_upto_region 0 with fail
  try simp only [Act.put]
  refine pl_begin ?_
  refine pl_run (d := some 2) (v := .pointer (some ⟨w.heap.size, 0, none⟩)) (w' := w.alloc (.cells zc.toArray 37)) (by rfl) (ex_alloc rfl (hzr _)) rfl ?_
  simp only [Act.put, List.setIfInBounds_toArray, List.set_cons_zero, List.set_cons_succ]
  refine pl_nil ?_
  obtain ⟨W1, hW1⟩ : ∃ W, w.alloc (.cells zc.toArray 37) = W := ⟨_, rfl⟩
  rw [hW1] at hB1 hr1 hs1 ht1 ⊢
  clear hW1 hr1
  have S1 := h.below hB1
  go_upto_region 1 with fail
  try simp only [Act.put]
  refine pl_begin ?_
  refine pl_take (d := some 4) (v := ?_) (by rfl) ?_ rfl ?_
  rotate_left
  · go_simp
    try with_reducible rfl
  simp only [Act.put, List.setIfInBounds_toArray, List.set_cons_zero, List.set_cons_succ]
  refine pl_call (d := some 5) (by rfl) (by go_simp; first | done | exact ⟨rfl, rfl⟩ | with_reducible rfl) rfl ?_
  refine (ck W1 S1).mono ?_
  rintro _ w2 ⟨rfl, S2, k2⟩
  refine ⟨_, rfl, ?_⟩
  simp only [Act.put, List.setIfInBounds_toArray, List.set_cons_zero, List.set_cons_succ]
  refine pl_take (d := some 6) (v := .agg qk.toArray) (by rfl) (ex_build (parts := [(0, .tmp 5)]) rfl rfl (hbk _)) rfl ?_
  simp only [Act.put, List.setIfInBounds_toArray, List.set_cons_zero, List.set_cons_succ]
  refine pl_run (d := some 3) (v := .pointer (some ⟨w2.heap.size, 0, none⟩)) (w' := w2.alloc (.cells zc.toArray 37)) (by rfl) (ex_alloc rfl (hzr _)) rfl ?_
  simp only [Act.put, List.setIfInBounds_toArray, List.set_cons_zero, List.set_cons_succ]
  refine pl_store (w' := (w2.alloc (.cells zc.toArray 37)).setCells w2.heap.size 0 qk) (by rfl) (ex_put (cs := qk.toArray) rfl rfl rfl (there_newN _ _ _ (by simp [hzl, hql])) (by simpa using hiq) (all_one hq1)) rfl ?_
  refine pl_nil ?_
  obtain ⟨hF1, hF2, hF3, -⟩ := fresh_store w2 zc.toArray 37 qk (by simp [hzl, hql])
  have hF4 := World.there_setCells (there_newN w2 zc.toArray 37 (n := 119) (by simp [hzl])) w2.heap.size 0 qk
  obtain ⟨w3, hw3⟩ : ∃ W, (w2.alloc (.cells zc.toArray 37)).setCells w2.heap.size 0 qk = W := ⟨_, rfl⟩
  rw [hw3] at hF1 hF2 hF3 hF4 ⊢
  clear hw3
  have hc0 := hk0 _ _ hF1
  have k3 : Kept w R Q w3 := (((Kept.refl w R Q).below hB1).trans k2).below hF2
  have z2 := k2.size
  rw [← hqk.out] at hF1
  have V3 : MV w Q R w.heap.size w2.heap.size 119 (Ms.plain k 0 0 Vt.zero zeros32).cells s0 w3 := ⟨hF1, hF4, there_below (there_blk ht1 (k2.block _ hs1 (by omega) (by omega))) hF2 (by omega), k3, S2.below hF2, by have := hF2.size; omega, by omega, Nat.le_refl _, by have := hB1.size; omega, by omega, hRw, hQw⟩
  have hww : w.heap.size < w2.heap.size := by omega
  clear hF1 hF2 hF4 ht1 hB1 S1 S2 k2 k3 hk0 hbk hql hq1 hiq hqk h ck hzr hzl
  go_upto_region 2 with fail
  try simp only [Act.put]
  refine pl_begin ?_
  refine pl_take (d := some 7) (v := ?_) (by rfl) ?_ rfl ?_
  rotate_left
  · go_simp
    try with_reducible rfl
  simp only [Act.put, List.setIfInBounds_toArray, List.set_cons_zero, List.set_cons_succ]
  refine pl_take (d := some 8) (v := .int .i64 k) (by rfl) (pl_one rfl rfl hc0 Try.underlying3 rfl) rfl ?_
  simp only [Act.put, List.setIfInBounds_toArray, List.set_cons_zero, List.set_cons_succ]
  refine pl_nil ?_
  clear hc0
  have Ve := V3
  have rpc := Ve.row
  have hmo : Mg.ok ⟨k, 0, 0, 0, 0, false, ⟨none, 0, []⟩, Vt.zero, 0, 0, 0, ⟨none, 0, []⟩, ⟨none, 0, []⟩, zeros32, Vt.zero, ⟨none, 0, []⟩, ⟨#[]⟩, ⟨none, 0, []⟩⟩ := ⟨Vt.zero_ok, Vt.zero_ok, zeros32_len, zeros32_byte⟩
  have hpl : (Mg.ms ⟨k, 0, 0, 0, 0, false, ⟨none, 0, []⟩, Vt.zero, 0, 0, 0, ⟨none, 0, []⟩, ⟨none, 0, []⟩, zeros32, Vt.zero, ⟨none, 0, []⟩, ⟨#[]⟩, ⟨none, 0, []⟩⟩).cells.length = 119 := hmo.ms.len
  have hp1 := hmo.ms.one
  have hip : (Try.prog.info? 37).map (·.size) = some (Mg.ms ⟨k, 0, 0, 0, 0, false, ⟨none, 0, []⟩, Vt.zero, 0, 0, 0, ⟨none, 0, []⟩, ⟨none, 0, []⟩, zeros32, Vt.zero, ⟨none, 0, []⟩, ⟨#[]⟩, ⟨none, 0, []⟩⟩).cells.length := by rw [hpl]; exact iszM
  have rpc : w3.rangeAt w2.heap.size 0 (Mg.ms ⟨k, 0, 0, 0, 0, false, ⟨none, 0, []⟩, Vt.zero, 0, 0, 0, ⟨none, 0, []⟩, ⟨none, 0, []⟩, zeros32, Vt.zero, ⟨none, 0, []⟩, ⟨#[]⟩, ⟨none, 0, []⟩⟩).cells := rpc
  obtain ⟨pc, hpc⟩ : ∃ p, Hid ((Mg.ms ⟨k, 0, 0, 0, 0, false, ⟨none, 0, []⟩, Vt.zero, 0, 0, 0, ⟨none, 0, []⟩, ⟨none, 0, []⟩, zeros32, Vt.zero, ⟨none, 0, []⟩, ⟨#[]⟩, ⟨none, 0, []⟩⟩).cells = p) := ⟨_, hide rfl⟩
  simp only [hpc.out] at hpl hip hp1 rpc
  go_upto_region 22 with fail
  try simp only [Act.put]
  refine pl_begin ?_
  refine pl_take (d := some 121) (v := .agg pc.toArray) (by rfl) (ex_mid rfl rfl rpc Try.underlying37 rfl hip) rfl ?_
  simp only [Act.put, List.setIfInBounds_toArray, List.set_cons_zero, List.set_cons_succ]
  refine pl_store (w' := w3.setCells w.heap.size 0 pc) (by rfl) (ex_put (cs := pc.toArray) rfl rfl rfl (by simpa [hpl] using Ve.ans) (by simpa using hip) (all_one hp1)) rfl ?_
  refine pl_nil ?_
  have hlow : Below w.heap.size w3 (w3.setCells w.heap.size 0 pc) := below_sets (Nat.le_refl _) pc 0 _ (Below.refl _ w3)
  have hrs := run_loadVar_mid (P := Try.prog) (w3.setCells w.heap.size 0 pc) w.heap.size 0 37 pc _ (World.rangeAt_setCells_same w3 w.heap.size 0 pc (by rw [hpl]; exact Ve.ans)) Try.underlying37 rfl hip
  have HF : Hid (∃ m : Mg, Ending.returned (.agg pc.toArray) = .returned (.agg m.ms.cells.toArray) ∧ m.pure = (⟨k, 0, 0, 0, 0, false, [], Vt.zero, 0, 0, 0, [], [], zeros32, Vt.zero, [], ⟨#[]⟩, []⟩ : Mp) ∧ m.ok ∧ m.At (w3.setCells w.heap.size 0 pc) ∧ m.Bk (fun b => w.heap.size ≤ b) ∧ RS (w3.setCells w.heap.size 0 pc) Q R s0 ∧ Kept w R Q (w3.setCells w.heap.size 0 pc)) := hide ⟨⟨k, 0, 0, 0, 0, false, ⟨none, 0, []⟩, Vt.zero, 0, 0, 0, ⟨none, 0, []⟩, ⟨none, 0, []⟩, zeros32, Vt.zero, ⟨none, 0, []⟩, ⟨#[]⟩, ⟨none, 0, []⟩⟩, by rw [hpc.out], rfl, hmo, mg0_at RowsAt.none hds_none RowsAt.none RowsAt.none RowsAt.none, ⟨no_bk, no_bk, no_bk2, no_bk, no_bk, no_bk⟩, Ve.rs.low hlow hQw, Ve.kept.low hlow (Nat.le_refl _)⟩
  clear Ve hlow rpc hpc hmo V3
  go_wp2_with fail
  refine bodyPost_ret (v := .agg pc.toArray) ?_ rfl ?_
  · simp [results, Try.results15, Act.put, asAddr, hrs]
  · exact HF.out
end Go.Proofs.Ytahdmajppnffeaa
namespace Go.Proofs.Ytahdmajppnffeaa
open Go.RowKit
open Sha Tal
set_option linter.unusedVariables false
set_option linter.unusedSimpArgs false
set_option maxRecDepth 100000 in
set_option maxHeartbeats 1000000 in
theorem rmsgK1 (Q R : Nat) (s : Rst) (w : World) (h : RS w Q R s) (hl : s.1.length ≤ 40000) (hk : (kiS 8 s).1 = 1) : Calls Try.prog 15 #[.pointer (some ⟨Q, 0, none⟩)] w fun en w' => ∃ m : Mg, en = .returned (.agg m.ms.cells.toArray) ∧ m.pure = (mg1 (kiS 8 s).2).1 ∧ m.ok ∧ m.At w' ∧ m.Bk (fun b => w.heap.size ≤ b) ∧ RS w' Q R (mg1 (kiS 8 s).2).2 ∧ Kept w R Q w' := by
  have hRw := h.st.1.1
  have hQw := h.mr.lt
  have ck := fun w0 h0 => kindRS Q R 8 s w0 h0
  have l0 := kiS_len 8 s
  unfold mg1
  generalize kiS 8 s = p_ at ck l0 hk ⊢
  obtain ⟨k, s0⟩ := p_
  simp only at ck l0 hk ⊢
  subst hk
  have c_a := fun w0 h0 => numRS Q R 1048576 s0 w0 h0
  have l_a : (nuS 1048576 s0).2.1.length ≤ s0.1.length := nuS_len _ _
  generalize nuS 1048576 s0 = p_ at c_a l_a ⊢
  obtain ⟨v_a, s_a⟩ := p_
  simp only at c_a l_a ⊢
  have c_b := fun w0 h0 => numRS Q R 1099511627776 s_a w0 h0
  have l_b : (nuS 1099511627776 s_a).2.1.length ≤ s_a.1.length := nuS_len _ _
  generalize nuS 1099511627776 s_a = p_ at c_b l_b ⊢
  obtain ⟨v_b, s_b⟩ := p_
  simp only at c_b l_b ⊢
  have c_c := fun w0 h0 => bgetS Q R s_b w0 h0 (by omega)
  have l_c : (baS s_b).2.1.length ≤ s_b.1.length := baS_len _
  generalize baS s_b = p_ at c_c l_c ⊢
  obtain ⟨⟨q_c, rs_c⟩, s_c⟩ := p_
  simp only at c_c l_c ⊢
  obtain ⟨zc, hzl, hzr⟩ : ∃ z : List Value, z.length = 119 ∧ ∀ w : World, (zeroValue 37).run Try.prog w = .ok (.agg z.toArray) w := ⟨_, (Ms.plain_ok 0 0 0 Vt.zero_ok zeros32_len zeros32_byte).len, zeroM⟩
  have hbk := build_kind 1
  have hql := (ms0_ok 1).len
  have hq1 := (ms0_ok 1).one
  have hiq : (Try.prog.info? 37).map (·.size) = some (Ms.plain 1 0 0 Vt.zero zeros32).cells.length := by rw [hql]; exact iszM
  have hk0 : ∀ (w' : World) b, w'.rangeAt b 0 (Ms.plain 1 0 0 Vt.zero zeros32).cells → w'.cell? ⟨b, 0, none⟩ = some (.int .i64 1) := fun w' b h => ((ms0_ok 1).at h).k
  obtain ⟨qk, hqk⟩ : ∃ q, Hid ((Ms.plain 1 0 0 Vt.zero zeros32).cells = q) := ⟨_, hide rfl⟩
  simp only [hqk.out] at hbk hql hq1 hiq hk0
  obtain ⟨hB1, hr1, hs1⟩ := boxed_new w zc 37
  have ht1 := there_newN w zc.toArray 37 (n := 119) (by simp [hzl])
  go_enter Try.func15, Try.ntmps15
  go_upto_region 0 with fail
  try simp only [Act.put]
  refine pl_begin ?_
  refine pl_run (d := some 2) (v := .pointer (some ⟨w.heap.size, 0, none⟩)) (w' := w.alloc (.cells zc.toArray 37)) (by rfl) (ex_alloc rfl (hzr _)) rfl ?_
  simp only [Act.put, List.setIfInBounds_toArray, List.set_cons_zero, List.set_cons_succ]
  refine pl_nil ?_
  obtain ⟨W1, hW1⟩ : ∃ W, w.alloc (.cells zc.toArray 37) = W := ⟨_, rfl⟩
  rw [hW1] at hB1 hr1 hs1 ht1 ⊢
  clear hW1 hr1
  have S1 := h.below hB1
  go_upto_region 1 with fail
  try simp only [Act.put]
  refine pl_begin ?_
  refine pl_take (d := some 4) (v := ?_) (by rfl) ?_ rfl ?_
  rotate_left
  · go_simp
    try with_reducible rfl
  simp only [Act.put, List.setIfInBounds_toArray, List.set_cons_zero, List.set_cons_succ]
  refine pl_call (d := some 5) (by rfl) (by go_simp; first | done | exact ⟨rfl, rfl⟩ | with_reducible rfl) rfl ?_
  refine (ck W1 S1).mono ?_
  rintro _ w2 ⟨rfl, S2, k2⟩
  refine ⟨_, rfl, ?_⟩
  simp only [Act.put, List.setIfInBounds_toArray, List.set_cons_zero, List.set_cons_succ]
  refine pl_take (d := some 6) (v := .agg qk.toArray) (by rfl) (ex_build (parts := [(0, .tmp 5)]) rfl rfl (hbk _)) rfl ?_
  simp only [Act.put, List.setIfInBounds_toArray, List.set_cons_zero, List.set_cons_succ]
  refine pl_run (d := some 3) (v := .pointer (some ⟨w2.heap.size, 0, none⟩)) (w' := w2.alloc (.cells zc.toArray 37)) (by rfl) (ex_alloc rfl (hzr _)) rfl ?_
  simp only [Act.put, List.setIfInBounds_toArray, List.set_cons_zero, List.set_cons_succ]
  refine pl_store (w' := (w2.alloc (.cells zc.toArray 37)).setCells w2.heap.size 0 qk) (by rfl) (ex_put (cs := qk.toArray) rfl rfl rfl (there_newN _ _ _ (by simp [hzl, hql])) (by simpa using hiq) (all_one hq1)) rfl ?_
  refine pl_nil ?_
  obtain ⟨hF1, hF2, hF3, -⟩ := fresh_store w2 zc.toArray 37 qk (by simp [hzl, hql])
  have hF4 := World.there_setCells (there_newN w2 zc.toArray 37 (n := 119) (by simp [hzl])) w2.heap.size 0 qk
  obtain ⟨w3, hw3⟩ : ∃ W, (w2.alloc (.cells zc.toArray 37)).setCells w2.heap.size 0 qk = W := ⟨_, rfl⟩
  rw [hw3] at hF1 hF2 hF3 hF4 ⊢
  clear hw3
  have hc0 := hk0 _ _ hF1
  have k3 : Kept w R Q w3 := (((Kept.refl w R Q).below hB1).trans k2).below hF2
  have z2 := k2.size
  rw [← hqk.out] at hF1
  have V3 : MV w Q R w.heap.size w2.heap.size 119 (Ms.plain 1 0 0 Vt.zero zeros32).cells s0 w3 := ⟨hF1, hF4, there_below (there_blk ht1 (k2.block _ hs1 (by omega) (by omega))) hF2 (by omega), k3, S2.below hF2, by have := hF2.size; omega, by omega, Nat.le_refl _, by have := hB1.size; omega, by omega, hRw, hQw⟩
  have hww : w.heap.size < w2.heap.size := by omega
  clear hF1 hF2 hF4 ht1 hB1 S1 S2 k2 k3 hk0 hbk hql hq1 hiq hqk h ck hzr hzl
  go_upto_region 2 with fail
  try simp only [Act.put]
  refine pl_begin ?_
  refine pl_take (d := some 7) (v := ?_) (by rfl) ?_ rfl ?_
  rotate_left
  · go_simp
    try with_reducible rfl
  simp only [Act.put, List.setIfInBounds_toArray, List.set_cons_zero, List.set_cons_succ]
  refine pl_take (d := some 8) (v := .int .i64 1) (by rfl) (pl_one rfl rfl hc0 Try.underlying3 rfl) rfl ?_
  simp only [Act.put, List.setIfInBounds_toArray, List.set_cons_zero, List.set_cons_succ]
  refine pl_nil ?_
  clear hc0
  go_upto_region 4 with fail
  have V8 := V3.drew
  refine hs_begin (S := (fun W' => W'.cell? ⟨Q, 0, none⟩ = some (.pointer (some ⟨R, 0, none⟩)))) 14 rfl (by kernel_rfl) ?_
  obtain ⟨w8, hw8⟩ : ∃ W, w3.drew = W := ⟨_, rfl⟩
  rw [hw8] at V8 ⊢
  clear hw8 V3
  have hS : (fun W' => W'.cell? ⟨Q, 0, none⟩ = some (.pointer (some ⟨R, 0, none⟩))) w8 := V8.rs.mr.c0
  refine hs_take (i := 0) (d := some 11) (v := ?_) rfl (by kernel_rfl) (by kernel_rfl) (by kernel_rfl) (by rfl) ?_ hS rfl ?_
  rotate_left
  · intro w' hw
    go_simp
    try with_reducible rfl
  simp only [Act.put, List.setIfInBounds_toArray, List.set_cons_zero, List.set_cons_succ]
  refine hs_take (i := 1) (d := some 12) (v := ?_) rfl (by kernel_rfl) (by kernel_rfl) (by kernel_rfl) (by rfl) ?_ hS rfl ?_
  rotate_left
  · intro w' hw
    go_simp
    try with_reducible rfl
  simp only [Act.put, List.setIfInBounds_toArray, List.set_cons_zero, List.set_cons_succ]
  refine hs_take (i := 2) (d := some 13) (v := ?_) rfl (by kernel_rfl) (by kernel_rfl) (by kernel_rfl) (by rfl) ?_ hS rfl ?_
  rotate_left
  · intro w' hw
    go_simp
    try with_reducible rfl
  simp only [Act.put, List.setIfInBounds_toArray, List.set_cons_zero, List.set_cons_succ]
  refine hs_take (i := 3) (d := some 14) (v := .pointer (some ⟨R, 0, none⟩)) rfl (by kernel_rfl) (by kernel_rfl) (by kernel_rfl) (by rfl) (fun w' hw => pl_one rfl rfl hw Try.underlying88 rfl) hS rfl ?_
  simp only [Act.put, List.setIfInBounds_toArray, List.set_cons_zero, List.set_cons_succ]
  refine hs_take (i := 5) (d := some 16) (v := ?_) rfl (by kernel_rfl) (by kernel_rfl) (by kernel_rfl) (by rfl) ?_ hS rfl ?_
  rotate_left
  · intro w' hw
    go_simp
    try with_reducible rfl
  simp only [Act.put, List.setIfInBounds_toArray, List.set_cons_zero, List.set_cons_succ]
  refine hs_take (i := 6) (d := some 17) (v := ?_) rfl (by kernel_rfl) (by kernel_rfl) (by kernel_rfl) (by rfl) ?_ hS rfl ?_
  rotate_left
  · intro w' hw
    go_simp
    try with_reducible rfl
  simp only [Act.put, List.setIfInBounds_toArray, List.set_cons_zero, List.set_cons_succ]
  refine hs_take (i := 7) (d := some 18) (v := ?_) rfl (by kernel_rfl) (by kernel_rfl) (by kernel_rfl) (by rfl) ?_ hS rfl ?_
  rotate_left
  · intro w' hw
    go_simp
    try with_reducible rfl
  simp only [Act.put, List.setIfInBounds_toArray, List.set_cons_zero, List.set_cons_succ]
  refine hs_take (i := 8) (d := some 19) (v := .pointer (some ⟨R, 0, none⟩)) rfl (by kernel_rfl) (by kernel_rfl) (by kernel_rfl) (by rfl) (fun w' hw => pl_one rfl rfl hw Try.underlying88 rfl) hS rfl ?_
  simp only [Act.put, List.setIfInBounds_toArray, List.set_cons_zero, List.set_cons_succ]
  refine hs_call (i := 4) (d := some 15) rfl (by kernel_rfl) (by rfl) (by go_simp; first | done | exact ⟨rfl, rfl⟩ | with_reducible rfl) rfl ?_
  refine (c_a w8 V8.rs).mono ?_
  rintro _ w5 ⟨rfl, S5, k5⟩
  have hS : (fun W' => W'.cell? ⟨Q, 0, none⟩ = some (.pointer (some ⟨R, 0, none⟩))) w5 := S5.mr.c0
  refine ⟨_, rfl, hS, ?_⟩
  simp only [Act.put, List.setIfInBounds_toArray, List.set_cons_zero, List.set_cons_succ]
  refine hs_take (i := 10) (d := some 21) (v := ?_) rfl (by kernel_rfl) (by kernel_rfl) (by kernel_rfl) (by rfl) ?_ hS rfl ?_
  rotate_left
  · intro w' hw
    go_simp
    try with_reducible rfl
  simp only [Act.put, List.setIfInBounds_toArray, List.set_cons_zero, List.set_cons_succ]
  refine hs_call (i := 9) (d := some 20) rfl (by kernel_rfl) (by rfl) (by go_simp; first | done | exact ⟨rfl, rfl⟩ | with_reducible rfl) rfl ?_
  refine (c_b w5 S5).mono ?_
  rintro _ w6 ⟨rfl, S6, k6⟩
  have hS : (fun W' => W'.cell? ⟨Q, 0, none⟩ = some (.pointer (some ⟨R, 0, none⟩))) w6 := S6.mr.c0
  refine ⟨_, rfl, hS, ?_⟩
  simp only [Act.put, List.setIfInBounds_toArray, List.set_cons_zero, List.set_cons_succ]
  have V_0 := ((V8.on k5 S5).on k6 S6)
  have V_1 := V_0.set 1 [.int .i64 v_a] (put_e v_a V_0.row (V_0.part 1 1 (by decide)))
  refine hs_store (i := 11) (w' := w6.setCells w2.heap.size 1 [.int .i64 v_a]) rfl (by kernel_rfl) (by rfl) (ex_put1 (n := 119) rfl rfl rfl V_0.box (by decide) iszI rfl rfl) rfl V_1.rs.mr.c0 ?_
  obtain ⟨w_11, hw_11⟩ : ∃ W, w6.setCells w2.heap.size 1 [.int .i64 v_a] = W := ⟨_, rfl⟩
  rw [hw_11] at V_1 ⊢
  clear hw_11
  have hS : (fun W' => W'.cell? ⟨Q, 0, none⟩ = some (.pointer (some ⟨R, 0, none⟩))) w_11 := V_1.rs.mr.c0
  refine hs_take (i := 12) (d := some 22) (v := ?_) rfl (by kernel_rfl) (by kernel_rfl) (by kernel_rfl) (by rfl) ?_ hS rfl ?_
  rotate_left
  · intro w' hw
    go_simp
    try with_reducible rfl
  simp only [Act.put, List.setIfInBounds_toArray, List.set_cons_zero, List.set_cons_succ]
  have V_2 := V_1.set 4 [.int .i64 v_b] (put_s v_b V_1.row (V_1.part 4 1 (by decide)))
  refine hs_store (i := 13) (w' := w_11.setCells w2.heap.size 4 [.int .i64 v_b]) rfl (by kernel_rfl) (by rfl) (ex_put1 (n := 119) rfl rfl rfl V_1.box (by decide) iszI rfl rfl) rfl V_2.rs.mr.c0 ?_
  obtain ⟨w_13, hw_13⟩ : ∃ W, w_11.setCells w2.heap.size 4 [.int .i64 v_b] = W := ⟨_, rfl⟩
  rw [hw_13] at V_2 ⊢
  clear hw_13
  have hS : (fun W' => W'.cell? ⟨Q, 0, none⟩ = some (.pointer (some ⟨R, 0, none⟩))) w_13 := V_2.rs.mr.c0
  refine hs_done (by kernel_rfl) ?_
  clear hS V8 S5 k5 S6 k6 V_0 V_1 c_a c_b
  go_upto_region 5 with fail
  try simp only [Act.put]
  refine pl_begin ?_
  refine pl_take (d := some 23) (v := ?_) (by rfl) ?_ rfl ?_
  rotate_left
  · go_simp
    try with_reducible rfl
  simp only [Act.put, List.setIfInBounds_toArray, List.set_cons_zero, List.set_cons_succ]
  refine pl_take (d := some 24) (v := ?_) (by rfl) ?_ rfl ?_
  rotate_left
  · go_simp
    try with_reducible rfl
  simp only [Act.put, List.setIfInBounds_toArray, List.set_cons_zero, List.set_cons_succ]
  refine pl_take (d := some 25) (v := ?_) (by rfl) ?_ rfl ?_
  rotate_left
  · go_simp
    try with_reducible rfl
  simp only [Act.put, List.setIfInBounds_toArray, List.set_cons_zero, List.set_cons_succ]
  refine pl_take (d := some 26) (v := .pointer (some ⟨R, 0, none⟩)) (by rfl) (pl_one rfl rfl V_2.rs.mr.c0 Try.underlying88 rfl) rfl ?_
  simp only [Act.put, List.setIfInBounds_toArray, List.set_cons_zero, List.set_cons_succ]
  refine pl_call (d := some 27) (by rfl) (by go_simp; first | done | exact ⟨rfl, rfl⟩ | with_reducible rfl) rfl ?_
  refine (c_c w_13 V_2.rs).mono ?_
  rintro _ wd ⟨x, rfl, hx, hA, hB, Sd, kd⟩
  refine ⟨_, rfl, ?_⟩
  simp only [Act.put, List.setIfInBounds_toArray, List.set_cons_zero, List.set_cons_succ]
  refine pl_take (d := some 28) (v := ?_) (by rfl) ?_ rfl ?_
  rotate_left
  · go_simp
    try with_reducible rfl
  simp only [Act.put, List.setIfInBounds_toArray, List.set_cons_zero, List.set_cons_succ]
  have Vd := V_2.on kd Sd
  have Ve := Vd.set 5 [.bool q_c, x.val] (put_b q_c x.val Vd.row (Vd.part 5 2 (by decide)))
  have lb := V_2.lb
  have la := V_2.la
  have na := V_2.kept.size
  refine pl_store (w' := wd.setCells w2.heap.size 5 [.bool q_c, x.val]) (by rfl) (ex_put (cs := #[.bool q_c, x.val]) rfl rfl rfl (Vd.part 5 2 (by decide)) iszBa (by simp [Value.oneCell', Sl.val])) rfl ?_
  refine pl_nil ?_
  have hA1 := hA.put (B := w2.heap.size) (o := 5) (vs := [.bool q_c, x.val]) hB (fun b hb => by omega)
  obtain ⟨we, hwe⟩ : ∃ W, wd.setCells w2.heap.size 5 [.bool q_c, x.val] = W := ⟨_, rfl⟩
  rw [hwe] at Ve hA1 ⊢
  clear hwe
  clear Vd Sd kd V_2 hA
  have rpc := Ve.row
  have hmo : Mg.ok ⟨1, v_a, 0, 0, v_b, q_c, x, Vt.zero, 0, 0, 0, ⟨none, 0, []⟩, ⟨none, 0, []⟩, zeros32, Vt.zero, ⟨none, 0, []⟩, ⟨#[]⟩, ⟨none, 0, []⟩⟩ := ⟨Vt.zero_ok, Vt.zero_ok, zeros32_len, zeros32_byte⟩
  have hpl : (Mg.ms ⟨1, v_a, 0, 0, v_b, q_c, x, Vt.zero, 0, 0, 0, ⟨none, 0, []⟩, ⟨none, 0, []⟩, zeros32, Vt.zero, ⟨none, 0, []⟩, ⟨#[]⟩, ⟨none, 0, []⟩⟩).cells.length = 119 := hmo.ms.len
  have hp1 := hmo.ms.one
  have hip : (Try.prog.info? 37).map (·.size) = some (Mg.ms ⟨1, v_a, 0, 0, v_b, q_c, x, Vt.zero, 0, 0, 0, ⟨none, 0, []⟩, ⟨none, 0, []⟩, zeros32, Vt.zero, ⟨none, 0, []⟩, ⟨#[]⟩, ⟨none, 0, []⟩⟩).cells.length := by rw [hpl]; exact iszM
  have rpc : we.rangeAt w2.heap.size 0 (Mg.ms ⟨1, v_a, 0, 0, v_b, q_c, x, Vt.zero, 0, 0, 0, ⟨none, 0, []⟩, ⟨none, 0, []⟩, zeros32, Vt.zero, ⟨none, 0, []⟩, ⟨#[]⟩, ⟨none, 0, []⟩⟩).cells := rpc
  obtain ⟨pc, hpc⟩ : ∃ p, Hid ((Mg.ms ⟨1, v_a, 0, 0, v_b, q_c, x, Vt.zero, 0, 0, 0, ⟨none, 0, []⟩, ⟨none, 0, []⟩, zeros32, Vt.zero, ⟨none, 0, []⟩, ⟨#[]⟩, ⟨none, 0, []⟩⟩).cells = p) := ⟨_, hide rfl⟩
  simp only [hpc.out] at hpl hip hp1 rpc
  go_upto_region 22 with fail
  try simp only [Act.put]
  refine pl_begin ?_
  refine pl_take (d := some 121) (v := .agg pc.toArray) (by rfl) (ex_mid rfl rfl rpc Try.underlying37 rfl hip) rfl ?_
  simp only [Act.put, List.setIfInBounds_toArray, List.set_cons_zero, List.set_cons_succ]
  refine pl_store (w' := we.setCells w.heap.size 0 pc) (by rfl) (ex_put (cs := pc.toArray) rfl rfl rfl (by simpa [hpl] using Ve.ans) (by simpa using hip) (all_one hp1)) rfl ?_
  refine pl_nil ?_
  have hlow : Below w.heap.size we (we.setCells w.heap.size 0 pc) := below_sets (Nat.le_refl _) pc 0 _ (Below.refl _ we)
  have hrs := run_loadVar_mid (P := Try.prog) (we.setCells w.heap.size 0 pc) w.heap.size 0 37 pc _ (World.rangeAt_setCells_same we w.heap.size 0 pc (by rw [hpl]; exact Ve.ans)) Try.underlying37 rfl hip
  have HF : Hid (∃ m : Mg, Ending.returned (.agg pc.toArray) = .returned (.agg m.ms.cells.toArray) ∧ m.pure = (⟨1, v_a, 0, 0, v_b, q_c, rs_c, Vt.zero, 0, 0, 0, [], [], zeros32, Vt.zero, [], ⟨#[]⟩, []⟩ : Mp) ∧ m.ok ∧ m.At (we.setCells w.heap.size 0 pc) ∧ m.Bk (fun b => w.heap.size ≤ b) ∧ RS (we.setCells w.heap.size 0 pc) Q R s_c ∧ Kept w R Q (we.setCells w.heap.size 0 pc)) := hide ⟨⟨1, v_a, 0, 0, v_b, q_c, x, Vt.zero, 0, 0, 0, ⟨none, 0, []⟩, ⟨none, 0, []⟩, zeros32, Vt.zero, ⟨none, 0, []⟩, ⟨#[]⟩, ⟨none, 0, []⟩⟩, by rw [hpc.out], by rw [← hx]; rfl, hmo, mg0_at (hA1.put hB (fun b hb => by omega)) hds_none RowsAt.none RowsAt.none RowsAt.none, ⟨hB.mono (fun b hb => by omega), no_bk, no_bk2, no_bk, no_bk, no_bk⟩, Ve.rs.low hlow hQw, Ve.kept.low hlow (Nat.le_refl _)⟩
  clear Ve hlow rpc hpc hmo hA1 hB hx
  go_wp2_with fail
  refine bodyPost_ret (v := .agg pc.toArray) ?_ rfl ?_
  · simp [results, Try.results15, Act.put, asAddr, hrs]
  · exact HF.out
end Go.Proofs.Ytahdmajppnffeaa
