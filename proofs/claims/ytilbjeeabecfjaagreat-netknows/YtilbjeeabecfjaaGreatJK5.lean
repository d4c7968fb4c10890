/- the reader's changes; messages, read; messages, read: kind 0; messages, read: kind 1; messages, read: kind 2; messages, read: kind 3; messages, read: kind 4; me -/
import Derived.Test.YtilbjeeabecfjaaGreatJK0
import Derived.Test.YtilbjeeabecfjaaGreatJK4
namespace Go.Proofs.YtilbjeeabecfjaaGreat
open Go.RowKit
open Sha Tal
set_option linter.unusedVariables false
set_option linter.unusedSimpArgs false
structure MV (w : World) (Q R A B n : Nat) (q : List Value) (s : Rst) (W : World) : Prop where
 row : W.rangeAt B 0 q
 box : W.there B 0 n
 ans : W.there A 0 n
 kept : Kept w R Q W
 rs : RS W Q R s
 la : A < W.heap.size
 lb : B < W.heap.size
 na : w.heap.size ≤ A
 nb : w.heap.size ≤ B
 ne : A ≠ B
 rq : R < w.heap.size ∧ Q < w.heap.size
theorem MV.on {w W W' : World} {Q R A B n : Nat} {q : List Value} {s s' : Rst} (h : MV w Q R A B n q s W) (k : Kept W R Q W') (S : RS W' Q R s') : MV w Q R A B n q s' W' := by
 have h1 := h.na
 have h2 := h.nb
 have h3 := h.rq
 exact ⟨range_blk h.row (k.blk h.lb (by omega) (by omega)), there_blk h.box (k.blk h.lb (by omega) (by omega)), there_blk h.ans (k.blk h.la (by omega) (by omega)), h.kept.trans k, S, Nat.lt_of_lt_of_le h.la k.size, Nat.lt_of_lt_of_le h.lb k.size, h1, h2, h.ne, h3⟩
theorem MV.set {w W : World} {Q R A B n : Nat} {q q' : List Value} {s : Rst} (h : MV w Q R A B n q s W) (o : Nat) (vs : List Value) (hq : (W.setCells B o vs).rangeAt B 0 q') : MV w Q R A B n q' s (W.setCells B o vs) := by
 have h1 := h.na
 have h2 := h.nb
 have h3 := h.rq
 exact ⟨hq, World.there_setCells h.box _ _ _, World.there_setCells h.ans _ _ _, h.kept.newSets h2 _ _, h.rs.low (below_sets h2 vs o _ (Below.refl _ W)) h3.2, by rw [size_sets]; exact h.la, by rw [size_sets]; exact h.lb, h1, h2, h.ne, h3⟩
theorem MV.drew {w W : World} {Q R A B n : Nat} {q : List Value} {s : Rst} (h : MV w Q R A B n q s W) : MV w Q R A B n q s W.drew :=
 ⟨(World.rangeAt_drew _ _ _ _).2 h.row, h.box, h.ans, h.kept.below ((Below.refl _ _).drew), h.rs.below ((Below.refl _ _).drew), h.la, h.lb, h.na, h.nb, h.ne, h.rq⟩
theorem MV.below {w W W' : World} {Q R A B n : Nat} {q : List Value} {s : Rst} (h : MV w Q R A B n q s W) (hb : Below W.heap.size W W') : MV w Q R A B n q s W' :=
 h.on ((Kept.refl W R Q).below hb) (h.rs.below hb)
theorem MV.part {w W : World} {Q R A B n : Nat} {q : List Value} {s : Rst} (h : MV w Q R A B n q s W) (o m : Nat) (hm : o + m ≤ n) : W.there B o m := there_part1 h.box hm
theorem Sl.At.put {α : Type} {E : El α} {W : World} {x : Sl α} {P : Nat → Prop} {B o : Nat} {vs : List Value} (h : x.At E W) (hb : x.Bk P) (hp : ∀ b, P b → b ≠ B) : x.At E (W.setCells B o vs) :=
 h.on (by rw [size_sets]; exact Nat.le_refl _) hb (fun b hP _ => blk_sets (hp b hP))
theorem HdsAt.put {W : World} {x : Sl Hd} {P : Nat → Prop} {B o : Nat} {vs : List Value} (h : HdsAt W x) (hb : x.Bk P) (hb2 : ∀ y ∈ x.xs, y.Bk P) (hp : ∀ b, P b → b ≠ B) : HdsAt (W.setCells B o vs) x :=
 ⟨Sl.At.put h.1 hb hp, fun y hy => (h.2 y hy).on (by rw [size_sets]; exact Nat.le_refl _) (hb2 y hy) (fun b hP _ => blk_sets (hp b hP))⟩
theorem HdsAt.kept {w w' : World} {R Q n : Nat} {x : Sl Hd} {P : Nat → Prop} (h : HdsAt w x) (k : Kept w R Q w') (hR : R < n) (hQ : Q < n) (hb : x.Bk P) (hb2 : ∀ y ∈ x.xs, y.Bk P) (hp : ∀ b, P b → n ≤ b) : HdsAt w' x :=
 ⟨Sl.At.kept h.1 k hR hQ hb hp, fun y hy => ⟨Sl.At.kept (h.2 y hy).1 k hR hQ (hb2 y hy).1 hp, Sl.At.kept (h.2 y hy).2 k hR hQ (hb2 y hy).2 hp⟩⟩
structure Cp where
 e : Int
 l : Int
 v : Int
 he : List Hp
def chS (s : Rst) : Cp × Rst :=
 (⟨(nuS 1048576 s).1, (nuS 64 (nuS 1048576 s).2).1, (nuS 1099511627776 (nuS 64 (nuS 1048576 s).2).2).1, (lsS 4 heS (nuS 1099511627776 (nuS 64 (nuS 1048576 s).2).2).2).1⟩, (lsS 4 heS (nuS 1099511627776 (nuS 64 (nuS 1048576 s).2).2).2).2)
theorem chS_len (s : Rst) : (chS s).2.1.length ≤ s.1.length := Nat.le_trans (lsS_len heS_len _ _) (Nat.le_trans (nuS_len _ _) (Nat.le_trans (nuS_len _ _) (nuS_len _ _)))
theorem zeroChE (w : World) : (zeroValue 104).run Tryz.prog w = .ok (.agg ([.int .i64 0, .int .i64 0, .int .i64 0, .slice none 0 0] : List Value).toArray) w := by kernel_rfl
theorem iszHds : (Tryz.prog.info? 102).map (·.size) = some 1 := by kernel_rfl
theorem ch_put {W : World} {B : Nat} {a b c d : Value} (h : W.rangeAt B 0 [a, b, c, d]) (x : Value) :
  (W.setCells B 0 [x]).rangeAt B 0 [x, b, c, d] ∧ (W.setCells B 1 [x]).rangeAt B 0 [a, x, c, d] ∧ (W.setCells B 2 [x]).rangeAt B 0 [a, b, x, d] ∧ (W.setCells B 3 [x]).rangeAt B 0 [a, b, c, x] :=
 ⟨range_set h 0 x, range_set h 1 x, range_set h 2 x, range_set h 3 x⟩
set_option maxRecDepth 100000 in
set_option maxHeartbeats 1000000 in
theorem rchangeS (Q R : Nat) (s : Rst) (w : World) (h : RS w Q R s) (hl : s.1.length ≤ 40000) : Calls Tryz.prog 63 #[.pointer (some ⟨Q, 0, none⟩)] w fun en w' => ∃ x : Sl Hd, en = .returned (.agg ([.int .i64 (chS s).1.e, .int .i64 (chS s).1.l, .int .i64 (chS s).1.v, x.val] : List Value).toArray) ∧ x.xs.map Hd.pure = (chS s).1.he ∧ HdsAt w' x ∧ x.Bk (fun b => w.heap.size ≤ b ∧ b < w'.heap.size) ∧ (∀ y ∈ x.xs, y.Bk (fun b => w.heap.size ≤ b ∧ b < w'.heap.size)) ∧ RS w' Q R (chS s).2 ∧ Kept w R Q w' := by
 obtain ⟨zc, hzl, hzr, hzc⟩ : ∃ z : List Value, z.length = 4 ∧ (∀ w : World, (zeroValue 104).run Tryz.prog w = .ok (.agg z.toArray) w) ∧ Hid (z = [.int .i64 0, .int .i64 0, .int .i64 0, .slice none 0 0]) := ⟨_, rfl, zeroChE, hide rfl⟩
 have hRw := h.st.1.1
 have hQw := h.mr.lt
 unfold chS
 have c1 := fun w0 h0 => numRS Q R 1048576 s w0 h0
 have l1 := nuS_len 1048576 s
 generalize nuS 1048576 s = p_ at c1 l1 ⊢
 obtain ⟨v1, s1⟩ := p_
 simp only at c1 l1 ⊢
 have c2 := fun w0 h0 => numRS Q R 64 s1 w0 h0
 have l2 := nuS_len 64 s1
 generalize nuS 64 s1 = p_ at c2 l2 ⊢
 obtain ⟨v2, s2⟩ := p_
 simp only at c2 l2 ⊢
 have c3 := fun w0 h0 => numRS Q R 1099511627776 s2 w0 h0
 have l3 := nuS_len 1099511627776 s2
 generalize nuS 1099511627776 s2 = p_ at c3 l3 ⊢
 obtain ⟨v3, s3⟩ := p_
 simp only at c3 l3 ⊢
 have c4 := fun w0 h0 => rlistH_any Q R s3 w0 h0 (by omega)
 generalize lsS 4 heS s3 = p_ at c4 ⊢
 obtain ⟨ls, s4⟩ := p_
 simp only at c4 ⊢
 obtain ⟨hB1, hr1, hs1⟩ := boxed_new w zc 104
 have ht1 := there_newN w zc.toArray 104 (n := 4) (by simp [hzl])
 go_enter Tryz.func63, Tryz.ntmps63
 go_upto_region 0 with fail
 try simp only [Act.put]
 refine pl_begin ?_
 refine pl_run (d := some 2) (v := .pointer (some ⟨w.heap.size, 0, none⟩)) (w' := w.alloc (.cells zc.toArray 104)) (by rfl) (ex_alloc rfl (hzr _)) rfl ?_
 simp only [nz]
 refine pl_nil ?_
 obtain ⟨W1, hW1⟩ : ∃ W, w.alloc (.cells zc.toArray 104) = W := ⟨_, rfl⟩
 rw [hW1] at hB1 hr1 hs1 ht1 ⊢
 clear hW1 hr1
 obtain ⟨hB2, hr2, hs2⟩ := boxed_new W1 zc 104
 have ht2 := there_newN W1 zc.toArray 104 (n := 4) (by simp [hzl])
 go_upto_region 1 with fail
 try simp only [Act.put]
 refine pl_begin ?_
 refine pl_run (d := some 3) (v := .pointer (some ⟨W1.heap.size, 0, none⟩)) (w' := W1.alloc (.cells zc.toArray 104)) (by rfl) (ex_alloc rfl (hzr _)) rfl ?_
 simp only [nz]
 refine pl_nil ?_
 obtain ⟨W2, hW2⟩ : ∃ W, W1.alloc (.cells zc.toArray 104) = W := ⟨_, rfl⟩
 rw [hW2] at hB2 hr2 hs2 ht2 ⊢
 clear hW2
 rw [hzc.out] at hr2
 have hBW := hB1.trans (hB2.mono hB1.size)
 have V0 : MV w Q R w.heap.size W1.heap.size 4 _ s W2 := ⟨hr2, ht2, there_belowN ht1 hB2 hs1, (Kept.refl w R Q).below hBW, h.below hBW, Nat.lt_of_lt_of_le hs1 hB2.size, hs2, Nat.le_refl _, hB1.size, by omega, hRw, hQw⟩
 clear hr2 ht2 ht1 hzr hzc hzl hB1 hB2 hBW hs2 h
 go_upto_region 2 with fail
 have V8 := V0.drew
 refine hs_begin (S := (fun W' => W'.cell? ⟨Q, 0, none⟩ = some (.pointer (some ⟨R, 0, none⟩)))) 21 rfl (by kernel_rfl) ?_
 obtain ⟨w8, hw8⟩ : ∃ W, W2.drew = W := ⟨_, rfl⟩
 rw [hw8] at V8 ⊢
 clear hw8 V0
 have hS : (fun W' => W'.cell? ⟨Q, 0, none⟩ = some (.pointer (some ⟨R, 0, none⟩))) w8 := V8.rs.mr.c0
 refine hs_t 0 4 (?_) rfl (by kernel_rfl) (by kernel_rfl) (by kernel_rfl) (by rfl) ?_ hS rfl ?_
 rotate_left
 ·intro w' hw
  go_simp
  try with_reducible rfl
 simp only [nz]
 refine hs_t 1 5 (?_) rfl (by kernel_rfl) (by kernel_rfl) (by kernel_rfl) (by rfl) ?_ hS rfl ?_
 rotate_left
 ·intro w' hw
  go_simp
  try with_reducible rfl
 simp only [nz]
 refine hs_t 2 6 (?_) rfl (by kernel_rfl) (by kernel_rfl) (by kernel_rfl) (by rfl) ?_ hS rfl ?_
 rotate_left
 ·intro w' hw
  go_simp
  try with_reducible rfl
 simp only [nz]
 refine hs_t 3 7 (.pointer (some ⟨R, 0, none⟩)) rfl (by kernel_rfl) (by kernel_rfl) (by kernel_rfl) (by rfl) (fun w' hw => pl_one rfl rfl hw Tryz.underlying142 rfl) hS rfl ?_
 simp only [nz]
 refine hs_t 5 9 (?_) rfl (by kernel_rfl) (by kernel_rfl) (by kernel_rfl) (by rfl) ?_ hS rfl ?_
 rotate_left
 ·intro w' hw
  go_simp
  try with_reducible rfl
 simp only [nz]
 refine hs_t 6 10 (?_) rfl (by kernel_rfl) (by kernel_rfl) (by kernel_rfl) (by rfl) ?_ hS rfl ?_
 rotate_left
 ·intro w' hw
  go_simp
  try with_reducible rfl
 simp only [nz]
 refine hs_t 7 11 (?_) rfl (by kernel_rfl) (by kernel_rfl) (by kernel_rfl) (by rfl) ?_ hS rfl ?_
 rotate_left
 ·intro w' hw
  go_simp
  try with_reducible rfl
 simp only [nz]
 refine hs_t 8 12 (.pointer (some ⟨R, 0, none⟩)) rfl (by kernel_rfl) (by kernel_rfl) (by kernel_rfl) (by rfl) (fun w' hw => pl_one rfl rfl hw Tryz.underlying142 rfl) hS rfl ?_
 simp only [nz]
 refine hs_t 10 14 (?_) rfl (by kernel_rfl) (by kernel_rfl) (by kernel_rfl) (by rfl) ?_ hS rfl ?_
 rotate_left
 ·intro w' hw
  go_simp
  try with_reducible rfl
 simp only [nz]
 refine hs_t 11 15 (?_) rfl (by kernel_rfl) (by kernel_rfl) (by kernel_rfl) (by rfl) ?_ hS rfl ?_
 rotate_left
 ·intro w' hw
  go_simp
  try with_reducible rfl
 simp only [nz]
 refine hs_t 12 16 (?_) rfl (by kernel_rfl) (by kernel_rfl) (by kernel_rfl) (by rfl) ?_ hS rfl ?_
 rotate_left
 ·intro w' hw
  go_simp
  try with_reducible rfl
 simp only [nz]
 refine hs_t 13 17 (.pointer (some ⟨R, 0, none⟩)) rfl (by kernel_rfl) (by kernel_rfl) (by kernel_rfl) (by rfl) (fun w' hw => pl_one rfl rfl hw Tryz.underlying142 rfl) hS rfl ?_
 simp only [nz]
 refine hs_call (i := 4) (d := some 8) rfl (by kernel_rfl) (by rfl) (by go_simp; first | done | exact ⟨rfl, rfl⟩ | with_reducible rfl) rfl ?_
 refine (c1 w8 V8.rs).mono ?_
 rintro _ w5 ⟨rfl, S5, k5⟩
 have hS : (fun W' => W'.cell? ⟨Q, 0, none⟩ = some (.pointer (some ⟨R, 0, none⟩))) w5 := S5.mr.c0
 refine ⟨_, rfl, hS, ?_⟩
 simp only [nz]
 refine hs_t 15 19 (?_) rfl (by kernel_rfl) (by kernel_rfl) (by kernel_rfl) (by rfl) ?_ hS rfl ?_
 rotate_left
 ·intro w' hw
  go_simp
  try with_reducible rfl
 simp only [nz]
 refine hs_call (i := 9) (d := some 13) rfl (by kernel_rfl) (by rfl) (by go_simp; first | done | exact ⟨rfl, rfl⟩ | with_reducible rfl) rfl ?_
 refine (c2 w5 S5).mono ?_
 rintro _ w6 ⟨rfl, S6, k6⟩
 have hS : (fun W' => W'.cell? ⟨Q, 0, none⟩ = some (.pointer (some ⟨R, 0, none⟩))) w6 := S6.mr.c0
 refine ⟨_, rfl, hS, ?_⟩
 simp only [nz]
 refine hs_call (i := 14) (d := some 18) rfl (by kernel_rfl) (by rfl) (by go_simp; first | done | exact ⟨rfl, rfl⟩ | with_reducible rfl) rfl ?_
 refine (c3 w6 S6).mono ?_
 rintro _ w7 ⟨rfl, S7, k7⟩
 have hS : (fun W' => W'.cell? ⟨Q, 0, none⟩ = some (.pointer (some ⟨R, 0, none⟩))) w7 := S7.mr.c0
 refine ⟨_, rfl, hS, ?_⟩
 simp only [nz]
 have V7 := ((V8.on k5 S5).on k6 S6).on k7 S7
 have Va := V7.set 0 [.int .i64 v1] ((ch_put V7.row _).1)
 refine hs_store (i := 16) (w' := w7.setCells W1.heap.size 0 [.int .i64 v1]) rfl (by kernel_rfl) (by rfl) (ex_put1 (n := 4) rfl rfl rfl V7.box (by decide) iszI rfl rfl) rfl Va.rs.mr.c0 ?_
 obtain ⟨w_16, hw_16⟩ : ∃ W, w7.setCells W1.heap.size 0 [.int .i64 v1] = W := ⟨_, rfl⟩
 rw [hw_16] at Va ⊢
 clear hw_16
 have hS : (fun W' => W'.cell? ⟨Q, 0, none⟩ = some (.pointer (some ⟨R, 0, none⟩))) w_16 := Va.rs.mr.c0
 refine hs_t 17 20 (?_) rfl (by kernel_rfl) (by kernel_rfl) (by kernel_rfl) (by rfl) ?_ hS rfl ?_
 rotate_left
 ·intro w' hw
  go_simp
  try with_reducible rfl
 simp only [nz]
 have Vb := Va.set 1 [.int .i64 v2] ((ch_put Va.row _).2.1)
 refine hs_store (i := 18) (w' := w_16.setCells W1.heap.size 1 [.int .i64 v2]) rfl (by kernel_rfl) (by rfl) (ex_put1 (n := 4) rfl rfl rfl Va.box (by decide) iszI rfl rfl) rfl Vb.rs.mr.c0 ?_
 obtain ⟨w_18, hw_18⟩ : ∃ W, w_16.setCells W1.heap.size 1 [.int .i64 v2] = W := ⟨_, rfl⟩
 rw [hw_18] at Vb ⊢
 clear hw_18
 have hS : (fun W' => W'.cell? ⟨Q, 0, none⟩ = some (.pointer (some ⟨R, 0, none⟩))) w_18 := Vb.rs.mr.c0
 refine hs_t 19 21 (?_) rfl (by kernel_rfl) (by kernel_rfl) (by kernel_rfl) (by rfl) ?_ hS rfl ?_
 rotate_left
 ·intro w' hw
  go_simp
  try with_reducible rfl
 simp only [nz]
 have Vc := Vb.set 2 [.int .i64 v3] ((ch_put Vb.row _).2.2.1)
 refine hs_store (i := 20) (w' := w_18.setCells W1.heap.size 2 [.int .i64 v3]) rfl (by kernel_rfl) (by rfl) (ex_put1 (n := 4) rfl rfl rfl Vb.box (by decide) iszI rfl rfl) rfl Vc.rs.mr.c0 ?_
 obtain ⟨w_20, hw_20⟩ : ∃ W, w_18.setCells W1.heap.size 2 [.int .i64 v3] = W := ⟨_, rfl⟩
 rw [hw_20] at Vc ⊢
 clear hw_20
 have hS : (fun W' => W'.cell? ⟨Q, 0, none⟩ = some (.pointer (some ⟨R, 0, none⟩))) w_20 := Vc.rs.mr.c0
 refine hs_done (by kernel_rfl) ?_
 clear V7 Va Vb S5 S6 S7 k5 k6 k7 V8 hS c1 c2 c3
 go_upto_region 3 with fail
 try simp only [Act.put]
 refine pl_begin ?_
 refine pl_t 22 (?_) (by rfl) ?_ rfl ?_
 rotate_left
 ·go_simp
  try with_reducible rfl
 simp only [nz]
 refine pl_t 23 (?_) (by rfl) ?_ rfl ?_
 rotate_left
 ·go_simp
  try with_reducible rfl
 simp only [nz]
 refine pl_t 24 (?_) (by rfl) ?_ rfl ?_
 rotate_left
 ·go_simp
  try with_reducible rfl
 simp only [nz]
 refine pl_t 25 (.pointer (some ⟨R, 0, none⟩)) (by rfl) (pl_one rfl rfl Vc.rs.mr.c0 Tryz.underlying142 rfl) rfl ?_
 simp only [nz]
 refine pl_t 26 (?_) (by rfl) ?_ rfl ?_
 rotate_left
 ·go_simp
  try with_reducible rfl
 simp only [nz]
 refine pl_t 27 (?_) (by rfl) ?_ rfl ?_
 rotate_left
 ·go_simp
  try with_reducible rfl
 simp only [nz]
 refine pl_t 28 (?_) (by rfl) ?_ rfl ?_
 rotate_left
 ·go_simp
  try with_reducible rfl
 simp only [nz]
 refine pl_call (d := some 29) (by rfl) (by go_simp; first | done | exact ⟨rfl, rfl⟩ | with_reducible rfl) rfl ?_
 refine (c4 w_20 Vc.rs).mono ?_
 rintro _ wd ⟨x, rfl, hx, hA, hB, hB2, Sd, kd⟩
 refine ⟨_, rfl, ?_⟩
 simp only [nz]
 refine pl_t 30 (?_) (by rfl) ?_ rfl ?_
 rotate_left
 ·go_simp
  try with_reducible rfl
 simp only [nz]
 have Vd := Vc.on kd Sd
 have Ve := Vd.set 3 [x.val] (ch_put Vd.row _).2.2.2
 refine pl_store (w' := wd.setCells W1.heap.size 3 [x.val]) (by rfl) (ex_put1 (n := 4) rfl rfl rfl Vd.box (by decide) iszHds rfl rfl) rfl ?_
 refine pl_nil ?_
 have hne : ∀ b, w_20.heap.size ≤ b ∧ b < wd.heap.size → b ≠ W1.heap.size := fun b hb => by have := Vc.lb; omega
 have hA1 : HdsAt (wd.setCells W1.heap.size 3 [x.val]) x := hA.put hB hB2 hne
 have kz := Vc.kept.size
 obtain ⟨we, hwe⟩ : ∃ W, wd.setCells W1.heap.size 3 [x.val] = W := ⟨_, rfl⟩
 have hse : we.heap.size = wd.heap.size := by rw [← hwe, size_sets]
 rw [hwe] at Ve hA1 ⊢
 clear hwe hA
 have rpc := Ve.row
 have hpl : ([.int .i64 v1, .int .i64 v2, .int .i64 v3, x.val] : List Value).length = 4 := rfl
 have hip : (Tryz.prog.info? 104).map (·.size) = some ([.int .i64 v1, .int .i64 v2, .int .i64 v3, x.val] : List Value).length := iszCh
 have hp1 : ∀ v ∈ ([.int .i64 v1, .int .i64 v2, .int .i64 v3, x.val] : List Value), v.oneCell' = true := by
  intro v hv
  simp only [List.mem_cons, List.not_mem_nil, or_false] at hv
  rcases hv with rfl | rfl | rfl | rfl <;> rfl
 obtain ⟨pc, hpc⟩ : ∃ p, Hid (([.int .i64 v1, .int .i64 v2, .int .i64 v3, x.val] : List Value) = p) := ⟨_, hide rfl⟩
 rw [hpc.out] at hpl hip hp1 rpc
 go_upto_region 4 with fail
 try simp only [Act.put]
 refine pl_begin ?_
 refine pl_t 31 (.agg pc.toArray) (by rfl) (ex_mid rfl rfl rpc Tryz.underlying104 rfl hip) rfl ?_
 simp only [nz]
 refine pl_store (w' := we.setCells w.heap.size 0 pc) (by rfl) (ex_put (cs := pc.toArray) rfl rfl rfl (by simpa [hpl] using Ve.ans) (by simpa using hip) (all_one hp1)) rfl ?_
 refine pl_nil ?_
 have hlow : Below w.heap.size we (we.setCells w.heap.size 0 pc) := below_sets (Nat.le_refl _) pc 0 _ (Below.refl _ we)
 have hrs := run_loadVar_mid (P := Tryz.prog) (we.setCells w.heap.size 0 pc) w.heap.size 0 104 pc _ (World.rangeAt_setCells_same we w.heap.size 0 pc (by rw [hpl]; exact Ve.ans)) Tryz.underlying104 rfl hip
 have HF : Hid (∃ g : Sl Hd, Ending.returned (.agg pc.toArray) = .returned (.agg ([.int .i64 v1, .int .i64 v2, .int .i64 v3, g.val] : List Value).toArray) ∧ g.xs.map Hd.pure = ls ∧ HdsAt (we.setCells w.heap.size 0 pc) g ∧ g.Bk (fun b => w.heap.size ≤ b ∧ b < (we.setCells w.heap.size 0 pc).heap.size) ∧ (∀ y ∈ g.xs, y.Bk (fun b => w.heap.size ≤ b ∧ b < (we.setCells w.heap.size 0 pc).heap.size)) ∧ RS (we.setCells w.heap.size 0 pc) Q R s4 ∧ Kept w R Q (we.setCells w.heap.size 0 pc)) := by
  have la := Vc.la
  refine hide ⟨x, by rw [hpc.out], hx, hA1.put hB hB2 (fun b hb => by omega), hB.mono (fun b hb => ⟨by omega, by rw [size_sets]; omega⟩), fun y hy => (hB2 y hy).mono (fun b hb => ⟨by omega, by rw [size_sets]; omega⟩), Ve.rs.low hlow hQw, Ve.kept.low hlow (Nat.le_refl _)⟩
 clear Ve hlow rpc hA1 hB hB2 Vd Vc Sd kd
 go_wp2_with fail
 refine bodyPost_ret (v := .agg pc.toArray) ?_ rfl ?_
 ·simp [results, Tryz.results63, Act.put, asAddr, hrs]
 ·exact HF.out
structure Mp where
 k : Int
 e : Int
 l : Int
 v : Int
 s : Int
 q : Bool
 rs : List Rq
 vt : Vt
 ce : Int
 cl : Int
 cv : Int
 he : List Hp
 ne : List Ev
 d : List Int
 ct : Vt
 cs : List Sg
 st : ByteArray
 sg : List Sg
def Mg.pure (m : Mg) : Mp := ⟨m.k, m.e, m.l, m.v, m.s, m.q, m.rs.xs, m.vt, m.ce, m.cl, m.cv, m.he.xs.map Hd.pure, m.ne.xs, m.d, m.ct, m.cs.xs, m.st, m.sg.xs⟩
def mg1 (s : Rst) : Mp × Rst := (⟨1, (nuS 1048576 s).1, 0, 0, (nuS 1099511627776 (nuS 1048576 s).2).1, (baS (nuS 1099511627776 (nuS 1048576 s).2).2).1.1, (baS (nuS 1099511627776 (nuS 1048576 s).2).2).1.2, Vt.zero, 0, 0, 0, [], [], zeros32, Vt.zero, [], ⟨#[]⟩, []⟩, (baS (nuS 1099511627776 (nuS 1048576 s).2).2).2)
def mg2 (s : Rst) : Mp × Rst := (⟨2, 0, 0, 0, 0, false, [], (voS s).1, 0, 0, 0, [], [], zeros32, Vt.zero, [], ⟨#[]⟩, []⟩, (voS s).2)
def mg3 (s : Rst) : Mp × Rst := (⟨3, 0, 0, 0, 0, false, [], Vt.zero, (chS s).1.e, (chS s).1.l, (chS s).1.v, (chS s).1.he, [], zeros32, Vt.zero, [], ⟨#[]⟩, []⟩, (chS s).2)
def mg4 (s : Rst) : Mp × Rst := (⟨4, (nuS 1048576 s).1, (nuS 64 (nuS 1048576 s).2).1, (nuS 1099511627776 (nuS 64 (nuS 1048576 s).2).2).1, 0, false, [], Vt.zero, 0, 0, 0, [], (lsS 64 enS (nuS 1099511627776 (nuS 64 (nuS 1048576 s).2).2).2).1, zeros32, Vt.zero, [], ⟨#[]⟩, []⟩, (lsS 64 enS (nuS 1099511627776 (nuS 64 (nuS 1048576 s).2).2).2).2)
def mg5 (s : Rst) : Mp × Rst := (⟨5, (nuS 1048576 s).1, 0, 0, 0, false, [], Vt.zero, 0, 0, 0, [], [], (dgS (nuS 1048576 s).2).1, Vt.zero, [], ⟨#[]⟩, []⟩, (dgS (nuS 1048576 s).2).2)
def mg6 (s : Rst) : Mp × Rst := (⟨6, (nuS 1048576 s).1, 0, 0, (nuS 1099511627776 (nuS 1048576 s).2).1, false, [], Vt.zero, 0, 0, 0, [], [], zeros32, Vt.zero, [], ⟨#[]⟩, []⟩, (nuS 1099511627776 (nuS 1048576 s).2).2)
def mg7 (s : Rst) : Mp × Rst := (⟨7, 0, 0, 0, 0, (baS s).1.1, (baS s).1.2, Vt.zero, 0, 0, 0, [], [], zeros32, (ceS (baS s).2).1.1, (ceS (baS s).2).1.2, ⟨#[]⟩, []⟩, (ceS (baS s).2).2)
def mg8 (s : Rst) : Mp × Rst := (⟨8, 0, 0, 0, 0, false, [], Vt.zero, 0, 0, 0, [], [], zeros32, Vt.zero, [], (txS 4194304 s).1, (lsS 64 siS (txS 4194304 s).2).1⟩, (lsS 64 siS (txS 4194304 s).2).2)
def mgF (k : Int) (s : Rst) : Mp × Rst := if k = 1 then mg1 s else if k = 2 then mg2 s else if k = 3 then mg3 s else if k = 4 then mg4 s else if k = 5 then mg5 s else if k = 6 then mg6 s else if k = 7 then mg7 s else if k = 8 then mg8 s else (⟨k, 0, 0, 0, 0, false, [], Vt.zero, 0, 0, 0, [], [], zeros32, Vt.zero, [], ⟨#[]⟩, []⟩, s)
def mgS (s : Rst) : Mp × Rst := mgF (kiS 8 s).1 (kiS 8 s).2
theorem iszEvs : (Tryz.prog.info? 51).map (·.size) = some 1 := by kernel_rfl
theorem iszSgs : (Tryz.prog.info? 105).map (·.size) = some 1 := by kernel_rfl
theorem iszStr : (Tryz.prog.info? 9).map (·.size) = some 1 := by kernel_rfl
theorem ms0_ok (k : Int) : (Ms.plain k 0 0 Vt.zero zeros32).ok := Ms.plain_ok k 0 0 Vt.zero_ok zeros32_len zeros32_byte
def Mg.Bk (m : Mg) (P : Nat → Prop) : Prop := m.rs.Bk P ∧ m.he.Bk P ∧ (∀ y ∈ m.he.xs, y.Bk P) ∧ m.ne.Bk P ∧ m.cs.Bk P ∧ m.sg.Bk P
theorem no_bk {α : Type} {P : Nat → Prop} : (⟨none, 0, []⟩ : Sl α).Bk P := fun b h => absurd rfl h
theorem no_bk2 {P : Nat → Prop} : ∀ y ∈ (⟨none, 0, []⟩ : Sl Hd).xs, y.Bk P := fun y h => by cases h
theorem mg0_at {W : World} {m : Mg} (h1 : m.rs.At RqE W) (h2 : HdsAt W m.he) (h3 : m.ne.At EvE W) (h4 : m.cs.At SgE W) (h5 : m.sg.At SgE W) : m.At W := ⟨h1, h2, h3, h4, h5⟩
set_option maxRecDepth 100000 in
set_option maxHeartbeats 1000000 in
theorem rmsgK0 (Q R : Nat) (s : Rst) (w : World) (h : RS w Q R s) (hl : s.1.length ≤ 40000) (n1 : (kiS 8 s).1 ≠ 1) (n2 : (kiS 8 s).1 ≠ 2) (n3 : (kiS 8 s).1 ≠ 3) (n4 : (kiS 8 s).1 ≠ 4) (n5 : (kiS 8 s).1 ≠ 5) (n6 : (kiS 8 s).1 ≠ 6) (n7 : (kiS 8 s).1 ≠ 7) (n8 : (kiS 8 s).1 ≠ 8) : Calls Tryz.prog 46 #[.pointer (some ⟨Q, 0, none⟩)] w fun en w' => ∃ m : Mg, en = .returned (.agg m.ms.cells.toArray) ∧ m.pure = ((⟨(kiS 8 s).1, 0, 0, 0, 0, false, [], Vt.zero, 0, 0, 0, [], [], zeros32, Vt.zero, [], ⟨#[]⟩, []⟩, (kiS 8 s).2) : Mp × Rst).1 ∧ m.ok ∧ m.At w' ∧ m.Bk (fun b => w.heap.size ≤ b) ∧ RS w' Q R ((⟨(kiS 8 s).1, 0, 0, 0, 0, false, [], Vt.zero, 0, 0, 0, [], [], zeros32, Vt.zero, [], ⟨#[]⟩, []⟩, (kiS 8 s).2) : Mp × Rst).2 ∧ Kept w R Q w' := by
 have hRw := h.st.1.1
 have hQw := h.mr.lt
 have ck := fun w0 h0 => kindRS Q R 8 s w0 h0
 have l0 := kiS_len 8 s
 generalize kiS 8 s = p_ at ck l0 n1 n2 n3 n4 n5 n6 n7 n8 ⊢
 obtain ⟨k, s0⟩ := p_
 simp only at ck l0 n1 n2 n3 n4 n5 n6 n7 n8 ⊢
 have b1 : (k == 1) = false := by simpa using n1
 have b2 : (k == 2) = false := by simpa using n2
 have b3 : (k == 3) = false := by simpa using n3
 have b4 : (k == 4) = false := by simpa using n4
 have b5 : (k == 5) = false := by simpa using n5
 have b6 : (k == 6) = false := by simpa using n6
 have b7 : (k == 7) = false := by simpa using n7
 have b8 : (k == 8) = false := by simpa using n8
 clear n1 n2 n3 n4 n5 n6 n7 n8
 obtain ⟨zc, hzl, hzr⟩ : ∃ z : List Value, z.length = 119 ∧ ∀ w : World, (zeroValue 109).run Tryz.prog w = .ok (.agg z.toArray) w := ⟨_, (Ms.plain_ok 0 0 0 Vt.zero_ok zeros32_len zeros32_byte).len, zeroM⟩
 have hbk := build_kind k
 have hql := (ms0_ok k).len
 have hq1 := (ms0_ok k).one
 have hiq : (Tryz.prog.info? 109).map (·.size) = some (Ms.plain k 0 0 Vt.zero zeros32).cells.length := by rw [hql]; exact iszM
 have hk0 : ∀ (w' : World) b, w'.rangeAt b 0 (Ms.plain k 0 0 Vt.zero zeros32).cells → w'.cell? ⟨b, 0, none⟩ = some (.int .i64 k) := fun w' b h => ((ms0_ok k).at h).k
 obtain ⟨qk, hqk⟩ : ∃ q, Hid ((Ms.plain k 0 0 Vt.zero zeros32).cells = q) := ⟨_, hide rfl⟩
 simp only [hqk.out] at hbk hql hq1 hiq hk0
 obtain ⟨hB1, hr1, hs1⟩ := boxed_new w zc 109
 have ht1 := there_newN w zc.toArray 109 (n := 119) (by simp [hzl])
 go_enter Tryz.func46, Tryz.ntmps46
 go_upto_region 0 with fail
 try simp only [Act.put]
 refine pl_begin ?_
 refine pl_run (d := some 2) (v := .pointer (some ⟨w.heap.size, 0, none⟩)) (w' := w.alloc (.cells zc.toArray 109)) (by rfl) (ex_alloc rfl (hzr _)) rfl ?_
 simp only [nz]
 refine pl_nil ?_
 obtain ⟨W1, hW1⟩ : ∃ W, w.alloc (.cells zc.toArray 109) = W := ⟨_, rfl⟩
 rw [hW1] at hB1 hr1 hs1 ht1 ⊢
 clear hW1 hr1
 have S1 := h.below hB1
 go_upto_region 1 with fail
 try simp only [Act.put]
 refine pl_begin ?_
 refine pl_t 4 (?_) (by rfl) ?_ rfl ?_
 rotate_left
 ·go_simp
  try with_reducible rfl
 simp only [nz]
 refine pl_call (d := some 5) (by rfl) (by go_simp; first | done | exact ⟨rfl, rfl⟩ | with_reducible rfl) rfl ?_
 refine (ck W1 S1).mono ?_
 rintro _ w2 ⟨rfl, S2, k2⟩
 refine ⟨_, rfl, ?_⟩
 simp only [nz]
 refine pl_t 6 (.agg qk.toArray) (by rfl) (ex_build (parts := [(0, .tmp 5)]) rfl rfl (hbk _)) rfl ?_
 simp only [nz]
 refine pl_run (d := some 3) (v := .pointer (some ⟨w2.heap.size, 0, none⟩)) (w' := w2.alloc (.cells zc.toArray 109)) (by rfl) (ex_alloc rfl (hzr _)) rfl ?_
 simp only [nz]
 refine pl_store (w' := (w2.alloc (.cells zc.toArray 109)).setCells w2.heap.size 0 qk) (by rfl) (ex_put (cs := qk.toArray) rfl rfl rfl (there_newN _ _ _ (by simp [hzl, hql])) (by simpa using hiq) (all_one hq1)) rfl ?_
 refine pl_nil ?_
 obtain ⟨hF1, hF2, hF3, -⟩ := fresh_store w2 zc.toArray 109 qk (by simp [hzl, hql])
 have hF4 := World.there_setCells (there_newN w2 zc.toArray 109 (n := 119) (by simp [hzl])) w2.heap.size 0 qk
 obtain ⟨w3, hw3⟩ : ∃ W, (w2.alloc (.cells zc.toArray 109)).setCells w2.heap.size 0 qk = W := ⟨_, rfl⟩
 rw [hw3] at hF1 hF2 hF3 hF4 ⊢
 clear hw3
 have hc0 := hk0 _ _ hF1
 have k3 : Kept w R Q w3 := (((Kept.refl w R Q).below hB1).trans k2).below hF2
 have z2 := k2.size
 rw [← hqk.out] at hF1
 have V3 : MV w Q R w.heap.size w2.heap.size 119 (Ms.plain k 0 0 Vt.zero zeros32).cells s0 w3 := ⟨hF1, hF4, there_below (there_blk ht1 (k2.block _ hs1 (by omega) (by omega))) hF2 (by omega), k3, S2.below hF2, by have := hF2.size; omega, by omega, Nat.le_refl _, by have := hB1.size; omega, by omega, hRw, hQw⟩
 have hww : w.heap.size < w2.heap.size := by omega
 clear hF1 hF2 hF4 ht1 hB1 S1 S2 k2 k3 hk0 hbk hql hq1 hiq hqk h ck hzr hzl
 go_upto_region 2 with fail
 try simp only [Act.put]
 refine pl_begin ?_
 refine pl_t 7 (?_) (by rfl) ?_ rfl ?_
 rotate_left
 ·go_simp
  try with_reducible rfl
 simp only [nz]
 refine pl_t 8 (.int .i64 k) (by rfl) (pl_one rfl rfl hc0 Tryz.underlying3 rfl) rfl ?_
 simp only [nz]
 refine pl_nil ?_
 clear hc0
 have Ve := V3
 have rpc := Ve.row
 have hmo : Mg.ok ⟨k, 0, 0, 0, 0, false, ⟨none, 0, []⟩, Vt.zero, 0, 0, 0, ⟨none, 0, []⟩, ⟨none, 0, []⟩, zeros32, Vt.zero, ⟨none, 0, []⟩, ⟨#[]⟩, ⟨none, 0, []⟩⟩ := ⟨Vt.zero_ok, Vt.zero_ok, zeros32_len, zeros32_byte⟩
 have hpl : (Mg.ms ⟨k, 0, 0, 0, 0, false, ⟨none, 0, []⟩, Vt.zero, 0, 0, 0, ⟨none, 0, []⟩, ⟨none, 0, []⟩, zeros32, Vt.zero, ⟨none, 0, []⟩, ⟨#[]⟩, ⟨none, 0, []⟩⟩).cells.length = 119 := hmo.ms.len
 have hp1 := hmo.ms.one
 have hip : (Tryz.prog.info? 109).map (·.size) = some (Mg.ms ⟨k, 0, 0, 0, 0, false, ⟨none, 0, []⟩, Vt.zero, 0, 0, 0, ⟨none, 0, []⟩, ⟨none, 0, []⟩, zeros32, Vt.zero, ⟨none, 0, []⟩, ⟨#[]⟩, ⟨none, 0, []⟩⟩).cells.length := by rw [hpl]; exact iszM
 have rpc : w3.rangeAt w2.heap.size 0 (Mg.ms ⟨k, 0, 0, 0, 0, false, ⟨none, 0, []⟩, Vt.zero, 0, 0, 0, ⟨none, 0, []⟩, ⟨none, 0, []⟩, zeros32, Vt.zero, ⟨none, 0, []⟩, ⟨#[]⟩, ⟨none, 0, []⟩⟩).cells := rpc
 obtain ⟨pc, hpc⟩ : ∃ p, Hid ((Mg.ms ⟨k, 0, 0, 0, 0, false, ⟨none, 0, []⟩, Vt.zero, 0, 0, 0, ⟨none, 0, []⟩, ⟨none, 0, []⟩, zeros32, Vt.zero, ⟨none, 0, []⟩, ⟨#[]⟩, ⟨none, 0, []⟩⟩).cells = p) := ⟨_, hide rfl⟩
 simp only [hpc.out] at hpl hip hp1 rpc
 go_upto_region 22 with fail
 try simp only [Act.put]
 refine pl_begin ?_
 refine pl_t 121 (.agg pc.toArray) (by rfl) (ex_mid rfl rfl rpc Tryz.underlying109 rfl hip) rfl ?_
 simp only [nz]
 refine pl_store (w' := w3.setCells w.heap.size 0 pc) (by rfl) (ex_put (cs := pc.toArray) rfl rfl rfl (by simpa [hpl] using Ve.ans) (by simpa using hip) (all_one hp1)) rfl ?_
 refine pl_nil ?_
 have hlow : Below w.heap.size w3 (w3.setCells w.heap.size 0 pc) := below_sets (Nat.le_refl _) pc 0 _ (Below.refl _ w3)
 have hrs := run_loadVar_mid (P := Tryz.prog) (w3.setCells w.heap.size 0 pc) w.heap.size 0 109 pc _ (World.rangeAt_setCells_same w3 w.heap.size 0 pc (by rw [hpl]; exact Ve.ans)) Tryz.underlying109 rfl hip
 have HF : Hid (∃ m : Mg, Ending.returned (.agg pc.toArray) = .returned (.agg m.ms.cells.toArray) ∧ m.pure = (⟨k, 0, 0, 0, 0, false, [], Vt.zero, 0, 0, 0, [], [], zeros32, Vt.zero, [], ⟨#[]⟩, []⟩ : Mp) ∧ m.ok ∧ m.At (w3.setCells w.heap.size 0 pc) ∧ m.Bk (fun b => w.heap.size ≤ b) ∧ RS (w3.setCells w.heap.size 0 pc) Q R s0 ∧ Kept w R Q (w3.setCells w.heap.size 0 pc)) := hide ⟨⟨k, 0, 0, 0, 0, false, ⟨none, 0, []⟩, Vt.zero, 0, 0, 0, ⟨none, 0, []⟩, ⟨none, 0, []⟩, zeros32, Vt.zero, ⟨none, 0, []⟩, ⟨#[]⟩, ⟨none, 0, []⟩⟩, by rw [hpc.out], rfl, hmo, mg0_at RowsAt.none hds_none RowsAt.none RowsAt.none RowsAt.none, ⟨no_bk, no_bk, no_bk2, no_bk, no_bk, no_bk⟩, Ve.rs.low hlow hQw, Ve.kept.low hlow (Nat.le_refl _)⟩
 clear Ve hlow rpc hpc hmo V3
 go_wp2_with fail
 refine bodyPost_ret (v := .agg pc.toArray) ?_ rfl ?_
 ·simp [results, Tryz.results46, Act.put, asAddr, hrs]
 ·exact HF.out
set_option maxRecDepth 100000 in
set_option maxHeartbeats 1000000 in
theorem rmsgK1 (Q R : Nat) (s : Rst) (w : World) (h : RS w Q R s) (hl : s.1.length ≤ 40000) (hk : (kiS 8 s).1 = 1) : Calls Tryz.prog 46 #[.pointer (some ⟨Q, 0, none⟩)] w fun en w' => ∃ m : Mg, en = .returned (.agg m.ms.cells.toArray) ∧ m.pure = (mg1 (kiS 8 s).2).1 ∧ m.ok ∧ m.At w' ∧ m.Bk (fun b => w.heap.size ≤ b) ∧ RS w' Q R (mg1 (kiS 8 s).2).2 ∧ Kept w R Q w' := by
 have hRw := h.st.1.1
 have hQw := h.mr.lt
 have ck := fun w0 h0 => kindRS Q R 8 s w0 h0
 have l0 := kiS_len 8 s
 unfold mg1
 generalize kiS 8 s = p_ at ck l0 hk ⊢
 obtain ⟨k, s0⟩ := p_
 simp only at ck l0 hk ⊢
 subst hk
 have c_a := fun w0 h0 => numRS Q R 1048576 s0 w0 h0
 have l_a : (nuS 1048576 s0).2.1.length ≤ s0.1.length := nuS_len _ _
 generalize nuS 1048576 s0 = p_ at c_a l_a ⊢
 obtain ⟨v_a, s_a⟩ := p_
 simp only at c_a l_a ⊢
 have c_b := fun w0 h0 => numRS Q R 1099511627776 s_a w0 h0
 have l_b : (nuS 1099511627776 s_a).2.1.length ≤ s_a.1.length := nuS_len _ _
 generalize nuS 1099511627776 s_a = p_ at c_b l_b ⊢
 obtain ⟨v_b, s_b⟩ := p_
 simp only at c_b l_b ⊢
 have c_c := fun w0 h0 => bgetS Q R s_b w0 h0 (by omega)
 have l_c : (baS s_b).2.1.length ≤ s_b.1.length := baS_len _
 generalize baS s_b = p_ at c_c l_c ⊢
 obtain ⟨⟨q_c, rs_c⟩, s_c⟩ := p_
 simp only at c_c l_c ⊢
 obtain ⟨zc, hzl, hzr⟩ : ∃ z : List Value, z.length = 119 ∧ ∀ w : World, (zeroValue 109).run Tryz.prog w = .ok (.agg z.toArray) w := ⟨_, (Ms.plain_ok 0 0 0 Vt.zero_ok zeros32_len zeros32_byte).len, zeroM⟩
 have hbk := build_kind 1
 have hql := (ms0_ok 1).len
 have hq1 := (ms0_ok 1).one
 have hiq : (Tryz.prog.info? 109).map (·.size) = some (Ms.plain 1 0 0 Vt.zero zeros32).cells.length := by rw [hql]; exact iszM
 have hk0 : ∀ (w' : World) b, w'.rangeAt b 0 (Ms.plain 1 0 0 Vt.zero zeros32).cells → w'.cell? ⟨b, 0, none⟩ = some (.int .i64 1) := fun w' b h => ((ms0_ok 1).at h).k
 obtain ⟨qk, hqk⟩ : ∃ q, Hid ((Ms.plain 1 0 0 Vt.zero zeros32).cells = q) := ⟨_, hide rfl⟩
 simp only [hqk.out] at hbk hql hq1 hiq hk0
 obtain ⟨hB1, hr1, hs1⟩ := boxed_new w zc 109
 have ht1 := there_newN w zc.toArray 109 (n := 119) (by simp [hzl])
 go_enter Tryz.func46, Tryz.ntmps46
 go_upto_region 0 with fail
 try simp only [Act.put]
 refine pl_begin ?_
 refine pl_run (d := some 2) (v := .pointer (some ⟨w.heap.size, 0, none⟩)) (w' := w.alloc (.cells zc.toArray 109)) (by rfl) (ex_alloc rfl (hzr _)) rfl ?_
 simp only [nz]
 refine pl_nil ?_
 obtain ⟨W1, hW1⟩ : ∃ W, w.alloc (.cells zc.toArray 109) = W := ⟨_, rfl⟩
 rw [hW1] at hB1 hr1 hs1 ht1 ⊢
 clear hW1 hr1
 have S1 := h.below hB1
 go_upto_region 1 with fail
 try simp only [Act.put]
 refine pl_begin ?_
 refine pl_t 4 (?_) (by rfl) ?_ rfl ?_
 rotate_left
 ·go_simp
  try with_reducible rfl
 simp only [nz]
 refine pl_call (d := some 5) (by rfl) (by go_simp; first | done | exact ⟨rfl, rfl⟩ | with_reducible rfl) rfl ?_
 refine (ck W1 S1).mono ?_
 rintro _ w2 ⟨rfl, S2, k2⟩
 refine ⟨_, rfl, ?_⟩
 simp only [nz]
 refine pl_t 6 (.agg qk.toArray) (by rfl) (ex_build (parts := [(0, .tmp 5)]) rfl rfl (hbk _)) rfl ?_
 simp only [nz]
 refine pl_run (d := some 3) (v := .pointer (some ⟨w2.heap.size, 0, none⟩)) (w' := w2.alloc (.cells zc.toArray 109)) (by rfl) (ex_alloc rfl (hzr _)) rfl ?_
 simp only [nz]
 refine pl_store (w' := (w2.alloc (.cells zc.toArray 109)).setCells w2.heap.size 0 qk) (by rfl) (ex_put (cs := qk.toArray) rfl rfl rfl (there_newN _ _ _ (by simp [hzl, hql])) (by simpa using hiq) (all_one hq1)) rfl ?_
 refine pl_nil ?_
 obtain ⟨hF1, hF2, hF3, -⟩ := fresh_store w2 zc.toArray 109 qk (by simp [hzl, hql])
 have hF4 := World.there_setCells (there_newN w2 zc.toArray 109 (n := 119) (by simp [hzl])) w2.heap.size 0 qk
 obtain ⟨w3, hw3⟩ : ∃ W, (w2.alloc (.cells zc.toArray 109)).setCells w2.heap.size 0 qk = W := ⟨_, rfl⟩
 rw [hw3] at hF1 hF2 hF3 hF4 ⊢
 clear hw3
 have hc0 := hk0 _ _ hF1
 have k3 : Kept w R Q w3 := (((Kept.refl w R Q).below hB1).trans k2).below hF2
 have z2 := k2.size
 rw [← hqk.out] at hF1
 have V3 : MV w Q R w.heap.size w2.heap.size 119 (Ms.plain 1 0 0 Vt.zero zeros32).cells s0 w3 := ⟨hF1, hF4, there_below (there_blk ht1 (k2.block _ hs1 (by omega) (by omega))) hF2 (by omega), k3, S2.below hF2, by have := hF2.size; omega, by omega, Nat.le_refl _, by have := hB1.size; omega, by omega, hRw, hQw⟩
 have hww : w.heap.size < w2.heap.size := by omega
 clear hF1 hF2 hF4 ht1 hB1 S1 S2 k2 k3 hk0 hbk hql hq1 hiq hqk h ck hzr hzl
 go_upto_region 2 with fail
 try simp only [Act.put]
 refine pl_begin ?_
 refine pl_t 7 (?_) (by rfl) ?_ rfl ?_
 rotate_left
 ·go_simp
  try with_reducible rfl
 simp only [nz]
 refine pl_t 8 (.int .i64 1) (by rfl) (pl_one rfl rfl hc0 Tryz.underlying3 rfl) rfl ?_
 simp only [nz]
 refine pl_nil ?_
 clear hc0
 go_upto_region 4 with fail
 have V8 := V3.drew
 refine hs_begin (S := (fun W' => W'.cell? ⟨Q, 0, none⟩ = some (.pointer (some ⟨R, 0, none⟩)))) 14 rfl (by kernel_rfl) ?_
 obtain ⟨w8, hw8⟩ : ∃ W, w3.drew = W := ⟨_, rfl⟩
 rw [hw8] at V8 ⊢
 clear hw8 V3
 have hS : (fun W' => W'.cell? ⟨Q, 0, none⟩ = some (.pointer (some ⟨R, 0, none⟩))) w8 := V8.rs.mr.c0
 refine hs_t 0 11 (?_) rfl (by kernel_rfl) (by kernel_rfl) (by kernel_rfl) (by rfl) ?_ hS rfl ?_
 rotate_left
 ·intro w' hw
  go_simp
  try with_reducible rfl
 simp only [nz]
 refine hs_t 1 12 (?_) rfl (by kernel_rfl) (by kernel_rfl) (by kernel_rfl) (by rfl) ?_ hS rfl ?_
 rotate_left
 ·intro w' hw
  go_simp
  try with_reducible rfl
 simp only [nz]
 refine hs_t 2 13 (?_) rfl (by kernel_rfl) (by kernel_rfl) (by kernel_rfl) (by rfl) ?_ hS rfl ?_
 rotate_left
 ·intro w' hw
  go_simp
  try with_reducible rfl
 simp only [nz]
 refine hs_t 3 14 (.pointer (some ⟨R, 0, none⟩)) rfl (by kernel_rfl) (by kernel_rfl) (by kernel_rfl) (by rfl) (fun w' hw => pl_one rfl rfl hw Tryz.underlying142 rfl) hS rfl ?_
 simp only [nz]
 refine hs_t 5 16 (?_) rfl (by kernel_rfl) (by kernel_rfl) (by kernel_rfl) (by rfl) ?_ hS rfl ?_
 rotate_left
 ·intro w' hw
  go_simp
  try with_reducible rfl
 simp only [nz]
 refine hs_t 6 17 (?_) rfl (by kernel_rfl) (by kernel_rfl) (by kernel_rfl) (by rfl) ?_ hS rfl ?_
 rotate_left
 ·intro w' hw
  go_simp
  try with_reducible rfl
 simp only [nz]
 refine hs_t 7 18 (?_) rfl (by kernel_rfl) (by kernel_rfl) (by kernel_rfl) (by rfl) ?_ hS rfl ?_
 rotate_left
 ·intro w' hw
  go_simp
  try with_reducible rfl
 simp only [nz]
 refine hs_t 8 19 (.pointer (some ⟨R, 0, none⟩)) rfl (by kernel_rfl) (by kernel_rfl) (by kernel_rfl) (by rfl) (fun w' hw => pl_one rfl rfl hw Tryz.underlying142 rfl) hS rfl ?_
 simp only [nz]
 refine hs_call (i := 4) (d := some 15) rfl (by kernel_rfl) (by rfl) (by go_simp; first | done | exact ⟨rfl, rfl⟩ | with_reducible rfl) rfl ?_
 refine (c_a w8 V8.rs).mono ?_
 rintro _ w5 ⟨rfl, S5, k5⟩
 have hS : (fun W' => W'.cell? ⟨Q, 0, none⟩ = some (.pointer (some ⟨R, 0, none⟩))) w5 := S5.mr.c0
 refine ⟨_, rfl, hS, ?_⟩
 simp only [nz]
 refine hs_t 10 21 (?_) rfl (by kernel_rfl) (by kernel_rfl) (by kernel_rfl) (by rfl) ?_ hS rfl ?_
 rotate_left
 ·intro w' hw
  go_simp
  try with_reducible rfl
 simp only [nz]
 refine hs_call (i := 9) (d := some 20) rfl (by kernel_rfl) (by rfl) (by go_simp; first | done | exact ⟨rfl, rfl⟩ | with_reducible rfl) rfl ?_
 refine (c_b w5 S5).mono ?_
 rintro _ w6 ⟨rfl, S6, k6⟩
 have hS : (fun W' => W'.cell? ⟨Q, 0, none⟩ = some (.pointer (some ⟨R, 0, none⟩))) w6 := S6.mr.c0
 refine ⟨_, rfl, hS, ?_⟩
 simp only [nz]
 have V_0 := ((V8.on k5 S5).on k6 S6)
 have V_1 := V_0.set 1 [.int .i64 v_a] (put_e v_a V_0.row (V_0.part 1 1 (by decide)))
 refine hs_store (i := 11) (w' := w6.setCells w2.heap.size 1 [.int .i64 v_a]) rfl (by kernel_rfl) (by rfl) (ex_put1 (n := 119) rfl rfl rfl V_0.box (by decide) iszI rfl rfl) rfl V_1.rs.mr.c0 ?_
 obtain ⟨w_11, hw_11⟩ : ∃ W, w6.setCells w2.heap.size 1 [.int .i64 v_a] = W := ⟨_, rfl⟩
 rw [hw_11] at V_1 ⊢
 clear hw_11
 have hS : (fun W' => W'.cell? ⟨Q, 0, none⟩ = some (.pointer (some ⟨R, 0, none⟩))) w_11 := V_1.rs.mr.c0
 refine hs_t 12 22 (?_) rfl (by kernel_rfl) (by kernel_rfl) (by kernel_rfl) (by rfl) ?_ hS rfl ?_
 rotate_left
 ·intro w' hw
  go_simp
  try with_reducible rfl
 simp only [nz]
 have V_2 := V_1.set 4 [.int .i64 v_b] (put_s v_b V_1.row (V_1.part 4 1 (by decide)))
 refine hs_store (i := 13) (w' := w_11.setCells w2.heap.size 4 [.int .i64 v_b]) rfl (by kernel_rfl) (by rfl) (ex_put1 (n := 119) rfl rfl rfl V_1.box (by decide) iszI rfl rfl) rfl V_2.rs.mr.c0 ?_
 obtain ⟨w_13, hw_13⟩ : ∃ W, w_11.setCells w2.heap.size 4 [.int .i64 v_b] = W := ⟨_, rfl⟩
 rw [hw_13] at V_2 ⊢
 clear hw_13
 have hS : (fun W' => W'.cell? ⟨Q, 0, none⟩ = some (.pointer (some ⟨R, 0, none⟩))) w_13 := V_2.rs.mr.c0
 refine hs_done (by kernel_rfl) ?_
 clear hS V8 S5 k5 S6 k6 V_0 V_1 c_a c_b
 go_upto_region 5 with fail
 try simp only [Act.put]
 refine pl_begin ?_
 refine pl_t 23 (?_) (by rfl) ?_ rfl ?_
 rotate_left
 ·go_simp
  try with_reducible rfl
 simp only [nz]
 refine pl_t 24 (?_) (by rfl) ?_ rfl ?_
 rotate_left
 ·go_simp
  try with_reducible rfl
 simp only [nz]
 refine pl_t 25 (?_) (by rfl) ?_ rfl ?_
 rotate_left
 ·go_simp
  try with_reducible rfl
 simp only [nz]
 refine pl_t 26 (.pointer (some ⟨R, 0, none⟩)) (by rfl) (pl_one rfl rfl V_2.rs.mr.c0 Tryz.underlying142 rfl) rfl ?_
 simp only [nz]
 refine pl_call (d := some 27) (by rfl) (by go_simp; first | done | exact ⟨rfl, rfl⟩ | with_reducible rfl) rfl ?_
 refine (c_c w_13 V_2.rs).mono ?_
 rintro _ wd ⟨x, rfl, hx, hA, hB, Sd, kd⟩
 refine ⟨_, rfl, ?_⟩
 simp only [nz]
 refine pl_t 28 (?_) (by rfl) ?_ rfl ?_
 rotate_left
 ·go_simp
  try with_reducible rfl
 simp only [nz]
 have Vd := V_2.on kd Sd
 have Ve := Vd.set 5 [.bool q_c, x.val] (put_b q_c x.val Vd.row (Vd.part 5 2 (by decide)))
 have lb := V_2.lb
 have la := V_2.la
 have na := V_2.kept.size
 refine pl_store (w' := wd.setCells w2.heap.size 5 [.bool q_c, x.val]) (by rfl) (ex_put (cs := #[.bool q_c, x.val]) rfl rfl rfl (Vd.part 5 2 (by decide)) iszBa (by simp [Value.oneCell', Sl.val])) rfl ?_
 refine pl_nil ?_
 have hA1 := hA.put (B := w2.heap.size) (o := 5) (vs := [.bool q_c, x.val]) hB (fun b hb => by omega)
 obtain ⟨we, hwe⟩ : ∃ W, wd.setCells w2.heap.size 5 [.bool q_c, x.val] = W := ⟨_, rfl⟩
 rw [hwe] at Ve hA1 ⊢
 clear hwe
 clear Vd Sd kd V_2 hA
 have rpc := Ve.row
 have hmo : Mg.ok ⟨1, v_a, 0, 0, v_b, q_c, x, Vt.zero, 0, 0, 0, ⟨none, 0, []⟩, ⟨none, 0, []⟩, zeros32, Vt.zero, ⟨none, 0, []⟩, ⟨#[]⟩, ⟨none, 0, []⟩⟩ := ⟨Vt.zero_ok, Vt.zero_ok, zeros32_len, zeros32_byte⟩
 have hpl : (Mg.ms ⟨1, v_a, 0, 0, v_b, q_c, x, Vt.zero, 0, 0, 0, ⟨none, 0, []⟩, ⟨none, 0, []⟩, zeros32, Vt.zero, ⟨none, 0, []⟩, ⟨#[]⟩, ⟨none, 0, []⟩⟩).cells.length = 119 := hmo.ms.len
 have hp1 := hmo.ms.one
 have hip : (Tryz.prog.info? 109).map (·.size) = some (Mg.ms ⟨1, v_a, 0, 0, v_b, q_c, x, Vt.zero, 0, 0, 0, ⟨none, 0, []⟩, ⟨none, 0, []⟩, zeros32, Vt.zero, ⟨none, 0, []⟩, ⟨#[]⟩, ⟨none, 0, []⟩⟩).cells.length := by rw [hpl]; exact iszM
 have rpc : we.rangeAt w2.heap.size 0 (Mg.ms ⟨1, v_a, 0, 0, v_b, q_c, x, Vt.zero, 0, 0, 0, ⟨none, 0, []⟩, ⟨none, 0, []⟩, zeros32, Vt.zero, ⟨none, 0, []⟩, ⟨#[]⟩, ⟨none, 0, []⟩⟩).cells := rpc
 obtain ⟨pc, hpc⟩ : ∃ p, Hid ((Mg.ms ⟨1, v_a, 0, 0, v_b, q_c, x, Vt.zero, 0, 0, 0, ⟨none, 0, []⟩, ⟨none, 0, []⟩, zeros32, Vt.zero, ⟨none, 0, []⟩, ⟨#[]⟩, ⟨none, 0, []⟩⟩).cells = p) := ⟨_, hide rfl⟩
 simp only [hpc.out] at hpl hip hp1 rpc
 go_upto_region 22 with fail
 try simp only [Act.put]
 refine pl_begin ?_
 refine pl_t 121 (.agg pc.toArray) (by rfl) (ex_mid rfl rfl rpc Tryz.underlying109 rfl hip) rfl ?_
 simp only [nz]
 refine pl_store (w' := we.setCells w.heap.size 0 pc) (by rfl) (ex_put (cs := pc.toArray) rfl rfl rfl (by simpa [hpl] using Ve.ans) (by simpa using hip) (all_one hp1)) rfl ?_
 refine pl_nil ?_
 have hlow : Below w.heap.size we (we.setCells w.heap.size 0 pc) := below_sets (Nat.le_refl _) pc 0 _ (Below.refl _ we)
 have hrs := run_loadVar_mid (P := Tryz.prog) (we.setCells w.heap.size 0 pc) w.heap.size 0 109 pc _ (World.rangeAt_setCells_same we w.heap.size 0 pc (by rw [hpl]; exact Ve.ans)) Tryz.underlying109 rfl hip
 have HF : Hid (∃ m : Mg, Ending.returned (.agg pc.toArray) = .returned (.agg m.ms.cells.toArray) ∧ m.pure = (⟨1, v_a, 0, 0, v_b, q_c, rs_c, Vt.zero, 0, 0, 0, [], [], zeros32, Vt.zero, [], ⟨#[]⟩, []⟩ : Mp) ∧ m.ok ∧ m.At (we.setCells w.heap.size 0 pc) ∧ m.Bk (fun b => w.heap.size ≤ b) ∧ RS (we.setCells w.heap.size 0 pc) Q R s_c ∧ Kept w R Q (we.setCells w.heap.size 0 pc)) := hide ⟨⟨1, v_a, 0, 0, v_b, q_c, x, Vt.zero, 0, 0, 0, ⟨none, 0, []⟩, ⟨none, 0, []⟩, zeros32, Vt.zero, ⟨none, 0, []⟩, ⟨#[]⟩, ⟨none, 0, []⟩⟩, by rw [hpc.out], by rw [← hx]; rfl, hmo, mg0_at (hA1.put hB (fun b hb => by omega)) hds_none RowsAt.none RowsAt.none RowsAt.none, ⟨hB.mono (fun b hb => by omega), no_bk, no_bk2, no_bk, no_bk, no_bk⟩, Ve.rs.low hlow hQw, Ve.kept.low hlow (Nat.le_refl _)⟩
 clear Ve hlow rpc hpc hmo hA1 hB hx
 go_wp2_with fail
 refine bodyPost_ret (v := .agg pc.toArray) ?_ rfl ?_
 ·simp [results, Tryz.results46, Act.put, asAddr, hrs]
 ·exact HF.out
set_option maxRecDepth 100000 in
set_option maxHeartbeats 1000000 in
theorem rmsgK2 (Q R : Nat) (s : Rst) (w : World) (h : RS w Q R s) (hl : s.1.length ≤ 40000) (hk : (kiS 8 s).1 = 2) : Calls Tryz.prog 46 #[.pointer (some ⟨Q, 0, none⟩)] w fun en w' => ∃ m : Mg, en = .returned (.agg m.ms.cells.toArray) ∧ m.pure = (mg2 (kiS 8 s).2).1 ∧ m.ok ∧ m.At w' ∧ m.Bk (fun b => w.heap.size ≤ b) ∧ RS w' Q R (mg2 (kiS 8 s).2).2 ∧ Kept w R Q w' := by
 have hRw := h.st.1.1
 have hQw := h.mr.lt
 have ck := fun w0 h0 => kindRS Q R 8 s w0 h0
 have l0 := kiS_len 8 s
 unfold mg2
 generalize kiS 8 s = p_ at ck l0 hk ⊢
 obtain ⟨k, s0⟩ := p_
 simp only at ck l0 hk ⊢
 subst hk
 have c_a := fun w0 h0 => rvoteS Q R s0 w0 h0 (by omega)
 have l_a : (voS s0).2.1.length ≤ s0.1.length := voS_len _
 have ok_a := fun hb => voS_ok s0 hb
 generalize voS s0 = p_ at c_a l_a ok_a ⊢
 obtain ⟨v_a, s_a⟩ := p_
 simp only at c_a l_a ok_a ⊢
 obtain ⟨zc, hzl, hzr⟩ : ∃ z : List Value, z.length = 119 ∧ ∀ w : World, (zeroValue 109).run Tryz.prog w = .ok (.agg z.toArray) w := ⟨_, (Ms.plain_ok 0 0 0 Vt.zero_ok zeros32_len zeros32_byte).len, zeroM⟩
 have hbk := build_kind 2
 have hql := (ms0_ok 2).len
 have hq1 := (ms0_ok 2).one
 have hiq : (Tryz.prog.info? 109).map (·.size) = some (Ms.plain 2 0 0 Vt.zero zeros32).cells.length := by rw [hql]; exact iszM
 have hk0 : ∀ (w' : World) b, w'.rangeAt b 0 (Ms.plain 2 0 0 Vt.zero zeros32).cells → w'.cell? ⟨b, 0, none⟩ = some (.int .i64 2) := fun w' b h => ((ms0_ok 2).at h).k
 obtain ⟨qk, hqk⟩ : ∃ q, Hid ((Ms.plain 2 0 0 Vt.zero zeros32).cells = q) := ⟨_, hide rfl⟩
 simp only [hqk.out] at hbk hql hq1 hiq hk0
 obtain ⟨hB1, hr1, hs1⟩ := boxed_new w zc 109
 have ht1 := there_newN w zc.toArray 109 (n := 119) (by simp [hzl])
 go_enter Tryz.func46, Tryz.ntmps46
 go_upto_region 0 with fail
 try simp only [Act.put]
 refine pl_begin ?_
 refine pl_run (d := some 2) (v := .pointer (some ⟨w.heap.size, 0, none⟩)) (w' := w.alloc (.cells zc.toArray 109)) (by rfl) (ex_alloc rfl (hzr _)) rfl ?_
 simp only [nz]
 refine pl_nil ?_
 obtain ⟨W1, hW1⟩ : ∃ W, w.alloc (.cells zc.toArray 109) = W := ⟨_, rfl⟩
 rw [hW1] at hB1 hr1 hs1 ht1 ⊢
 clear hW1 hr1
 have S1 := h.below hB1
 go_upto_region 1 with fail
 try simp only [Act.put]
 refine pl_begin ?_
 refine pl_t 4 (?_) (by rfl) ?_ rfl ?_
 rotate_left
 ·go_simp
  try with_reducible rfl
 simp only [nz]
 refine pl_call (d := some 5) (by rfl) (by go_simp; first | done | exact ⟨rfl, rfl⟩ | with_reducible rfl) rfl ?_
 refine (ck W1 S1).mono ?_
 rintro _ w2 ⟨rfl, S2, k2⟩
 refine ⟨_, rfl, ?_⟩
 simp only [nz]
 refine pl_t 6 (.agg qk.toArray) (by rfl) (ex_build (parts := [(0, .tmp 5)]) rfl rfl (hbk _)) rfl ?_
 simp only [nz]
 refine pl_run (d := some 3) (v := .pointer (some ⟨w2.heap.size, 0, none⟩)) (w' := w2.alloc (.cells zc.toArray 109)) (by rfl) (ex_alloc rfl (hzr _)) rfl ?_
 simp only [nz]
 refine pl_store (w' := (w2.alloc (.cells zc.toArray 109)).setCells w2.heap.size 0 qk) (by rfl) (ex_put (cs := qk.toArray) rfl rfl rfl (there_newN _ _ _ (by simp [hzl, hql])) (by simpa using hiq) (all_one hq1)) rfl ?_
 refine pl_nil ?_
 obtain ⟨hF1, hF2, hF3, -⟩ := fresh_store w2 zc.toArray 109 qk (by simp [hzl, hql])
 have hF4 := World.there_setCells (there_newN w2 zc.toArray 109 (n := 119) (by simp [hzl])) w2.heap.size 0 qk
 obtain ⟨w3, hw3⟩ : ∃ W, (w2.alloc (.cells zc.toArray 109)).setCells w2.heap.size 0 qk = W := ⟨_, rfl⟩
 rw [hw3] at hF1 hF2 hF3 hF4 ⊢
 clear hw3
 have hc0 := hk0 _ _ hF1
 have k3 : Kept w R Q w3 := (((Kept.refl w R Q).below hB1).trans k2).below hF2
 have z2 := k2.size
 rw [← hqk.out] at hF1
 have V3 : MV w Q R w.heap.size w2.heap.size 119 (Ms.plain 2 0 0 Vt.zero zeros32).cells s0 w3 := ⟨hF1, hF4, there_below (there_blk ht1 (k2.block _ hs1 (by omega) (by omega))) hF2 (by omega), k3, S2.below hF2, by have := hF2.size; omega, by omega, Nat.le_refl _, by have := hB1.size; omega, by omega, hRw, hQw⟩
 have hww : w.heap.size < w2.heap.size := by omega
 clear hF1 hF2 hF4 ht1 hB1 S1 S2 k2 k3 hk0 hbk hql hq1 hiq hqk h ck hzr hzl
 go_upto_region 2 with fail
 try simp only [Act.put]
 refine pl_begin ?_
 refine pl_t 7 (?_) (by rfl) ?_ rfl ?_
 rotate_left
 ·go_simp
  try with_reducible rfl
 simp only [nz]
 refine pl_t 8 (.int .i64 2) (by rfl) (pl_one rfl rfl hc0 Tryz.underlying3 rfl) rfl ?_
 simp only [nz]
 refine pl_nil ?_
 clear hc0
 go_upto_region 7 with fail
 try simp only [Act.put]
 refine pl_begin ?_
 refine pl_t 31 (?_) (by rfl) ?_ rfl ?_
 rotate_left
 ·go_simp
  try with_reducible rfl
 simp only [nz]
 refine pl_call (d := some 32) (by rfl) (by go_simp; first | done | exact ⟨rfl, rfl⟩ | with_reducible rfl) rfl ?_
 refine (c_a w3 V3.rs).mono ?_
 rintro _ wd ⟨rfl, Sd, kd⟩
 refine ⟨_, rfl, ?_⟩
 simp only [nz]
 refine pl_t 33 (?_) (by rfl) ?_ rfl ?_
 rotate_left
 ·go_simp
  try with_reducible rfl
 simp only [nz]
 have hv := ok_a V3.rs.st.bs
 have Vd := V3.on kd Sd
 have Ve := Vd.set 7 v_a.cells (put_vt v_a hv Vt.zero_ok Vd.row (Vd.part 7 36 (by decide)))
 have hvl := hv.len
 refine pl_store (w' := wd.setCells w2.heap.size 7 v_a.cells) (by rfl) (ex_put (cs := v_a.cells.toArray) rfl rfl rfl (by simpa [hvl] using Vd.part 7 36 (by decide)) (by simpa [hvl] using iszVo) (all_one (Vt.one v_a))) rfl ?_
 refine pl_nil ?_
 obtain ⟨we, hwe⟩ : ∃ W, wd.setCells w2.heap.size 7 v_a.cells = W := ⟨_, rfl⟩
 rw [hwe] at Ve ⊢
 clear hwe
 clear Vd Sd kd V3
 have rpc := Ve.row
 have hmo : Mg.ok ⟨2, 0, 0, 0, 0, false, ⟨none, 0, []⟩, v_a, 0, 0, 0, ⟨none, 0, []⟩, ⟨none, 0, []⟩, zeros32, Vt.zero, ⟨none, 0, []⟩, ⟨#[]⟩, ⟨none, 0, []⟩⟩ := ⟨hv, Vt.zero_ok, zeros32_len, zeros32_byte⟩
 have hpl : (Mg.ms ⟨2, 0, 0, 0, 0, false, ⟨none, 0, []⟩, v_a, 0, 0, 0, ⟨none, 0, []⟩, ⟨none, 0, []⟩, zeros32, Vt.zero, ⟨none, 0, []⟩, ⟨#[]⟩, ⟨none, 0, []⟩⟩).cells.length = 119 := hmo.ms.len
 have hp1 := hmo.ms.one
 have hip : (Tryz.prog.info? 109).map (·.size) = some (Mg.ms ⟨2, 0, 0, 0, 0, false, ⟨none, 0, []⟩, v_a, 0, 0, 0, ⟨none, 0, []⟩, ⟨none, 0, []⟩, zeros32, Vt.zero, ⟨none, 0, []⟩, ⟨#[]⟩, ⟨none, 0, []⟩⟩).cells.length := by rw [hpl]; exact iszM
 have rpc : we.rangeAt w2.heap.size 0 (Mg.ms ⟨2, 0, 0, 0, 0, false, ⟨none, 0, []⟩, v_a, 0, 0, 0, ⟨none, 0, []⟩, ⟨none, 0, []⟩, zeros32, Vt.zero, ⟨none, 0, []⟩, ⟨#[]⟩, ⟨none, 0, []⟩⟩).cells := rpc
 obtain ⟨pc, hpc⟩ : ∃ p, Hid ((Mg.ms ⟨2, 0, 0, 0, 0, false, ⟨none, 0, []⟩, v_a, 0, 0, 0, ⟨none, 0, []⟩, ⟨none, 0, []⟩, zeros32, Vt.zero, ⟨none, 0, []⟩, ⟨#[]⟩, ⟨none, 0, []⟩⟩).cells = p) := ⟨_, hide rfl⟩
 simp only [hpc.out] at hpl hip hp1 rpc
 go_upto_region 22 with fail
 try simp only [Act.put]
 refine pl_begin ?_
 refine pl_t 121 (.agg pc.toArray) (by rfl) (ex_mid rfl rfl rpc Tryz.underlying109 rfl hip) rfl ?_
 simp only [nz]
 refine pl_store (w' := we.setCells w.heap.size 0 pc) (by rfl) (ex_put (cs := pc.toArray) rfl rfl rfl (by simpa [hpl] using Ve.ans) (by simpa using hip) (all_one hp1)) rfl ?_
 refine pl_nil ?_
 have hlow : Below w.heap.size we (we.setCells w.heap.size 0 pc) := below_sets (Nat.le_refl _) pc 0 _ (Below.refl _ we)
 have hrs := run_loadVar_mid (P := Tryz.prog) (we.setCells w.heap.size 0 pc) w.heap.size 0 109 pc _ (World.rangeAt_setCells_same we w.heap.size 0 pc (by rw [hpl]; exact Ve.ans)) Tryz.underlying109 rfl hip
 have HF : Hid (∃ m : Mg, Ending.returned (.agg pc.toArray) = .returned (.agg m.ms.cells.toArray) ∧ m.pure = (⟨2, 0, 0, 0, 0, false, [], v_a, 0, 0, 0, [], [], zeros32, Vt.zero, [], ⟨#[]⟩, []⟩ : Mp) ∧ m.ok ∧ m.At (we.setCells w.heap.size 0 pc) ∧ m.Bk (fun b => w.heap.size ≤ b) ∧ RS (we.setCells w.heap.size 0 pc) Q R s_a ∧ Kept w R Q (we.setCells w.heap.size 0 pc)) := hide ⟨⟨2, 0, 0, 0, 0, false, ⟨none, 0, []⟩, v_a, 0, 0, 0, ⟨none, 0, []⟩, ⟨none, 0, []⟩, zeros32, Vt.zero, ⟨none, 0, []⟩, ⟨#[]⟩, ⟨none, 0, []⟩⟩, by rw [hpc.out], rfl, hmo, mg0_at RowsAt.none hds_none RowsAt.none RowsAt.none RowsAt.none, ⟨no_bk, no_bk, no_bk2, no_bk, no_bk, no_bk⟩, Ve.rs.low hlow hQw, Ve.kept.low hlow (Nat.le_refl _)⟩
 clear Ve hlow rpc hpc hmo 
 go_wp2_with fail
 refine bodyPost_ret (v := .agg pc.toArray) ?_ rfl ?_
 ·simp [results, Tryz.results46, Act.put, asAddr, hrs]
 ·exact HF.out
set_option maxRecDepth 100000 in
set_option maxHeartbeats 1000000 in
theorem rmsgK3 (Q R : Nat) (s : Rst) (w : World) (h : RS w Q R s) (hl : s.1.length ≤ 40000) (hk : (kiS 8 s).1 = 3) : Calls Tryz.prog 46 #[.pointer (some ⟨Q, 0, none⟩)] w fun en w' => ∃ m : Mg, en = .returned (.agg m.ms.cells.toArray) ∧ m.pure = (mg3 (kiS 8 s).2).1 ∧ m.ok ∧ m.At w' ∧ m.Bk (fun b => w.heap.size ≤ b) ∧ RS w' Q R (mg3 (kiS 8 s).2).2 ∧ Kept w R Q w' := by
 have hRw := h.st.1.1
 have hQw := h.mr.lt
 have ck := fun w0 h0 => kindRS Q R 8 s w0 h0
 have l0 := kiS_len 8 s
 unfold mg3
 generalize kiS 8 s = p_ at ck l0 hk ⊢
 obtain ⟨k, s0⟩ := p_
 simp only at ck l0 hk ⊢
 subst hk
 have c_a := fun w0 h0 => rchangeS Q R s0 w0 h0 (by omega)
 have l_a : (chS s0).2.1.length ≤ s0.1.length := chS_len _
 generalize chS s0 = p_ at c_a l_a ⊢
 obtain ⟨⟨e_a, m_a, n_a, he_a⟩, s_a⟩ := p_
 simp only at c_a l_a ⊢
 obtain ⟨zc, hzl, hzr⟩ : ∃ z : List Value, z.length = 119 ∧ ∀ w : World, (zeroValue 109).run Tryz.prog w = .ok (.agg z.toArray) w := ⟨_, (Ms.plain_ok 0 0 0 Vt.zero_ok zeros32_len zeros32_byte).len, zeroM⟩
 have hbk := build_kind 3
 have hql := (ms0_ok 3).len
 have hq1 := (ms0_ok 3).one
 have hiq : (Tryz.prog.info? 109).map (·.size) = some (Ms.plain 3 0 0 Vt.zero zeros32).cells.length := by rw [hql]; exact iszM
 have hk0 : ∀ (w' : World) b, w'.rangeAt b 0 (Ms.plain 3 0 0 Vt.zero zeros32).cells → w'.cell? ⟨b, 0, none⟩ = some (.int .i64 3) := fun w' b h => ((ms0_ok 3).at h).k
 obtain ⟨qk, hqk⟩ : ∃ q, Hid ((Ms.plain 3 0 0 Vt.zero zeros32).cells = q) := ⟨_, hide rfl⟩
 simp only [hqk.out] at hbk hql hq1 hiq hk0
 obtain ⟨hB1, hr1, hs1⟩ := boxed_new w zc 109
 have ht1 := there_newN w zc.toArray 109 (n := 119) (by simp [hzl])
 go_enter Tryz.func46, Tryz.ntmps46
 go_upto_region 0 with fail
 try simp only [Act.put]
 refine pl_begin ?_
 refine pl_run (d := some 2) (v := .pointer (some ⟨w.heap.size, 0, none⟩)) (w' := w.alloc (.cells zc.toArray 109)) (by rfl) (ex_alloc rfl (hzr _)) rfl ?_
 simp only [nz]
 refine pl_nil ?_
 obtain ⟨W1, hW1⟩ : ∃ W, w.alloc (.cells zc.toArray 109) = W := ⟨_, rfl⟩
 rw [hW1] at hB1 hr1 hs1 ht1 ⊢
 clear hW1 hr1
 have S1 := h.below hB1
 go_upto_region 1 with fail
 try simp only [Act.put]
 refine pl_begin ?_
 refine pl_t 4 (?_) (by rfl) ?_ rfl ?_
 rotate_left
 ·go_simp
  try with_reducible rfl
 simp only [nz]
 refine pl_call (d := some 5) (by rfl) (by go_simp; first | done | exact ⟨rfl, rfl⟩ | with_reducible rfl) rfl ?_
 refine (ck W1 S1).mono ?_
 rintro _ w2 ⟨rfl, S2, k2⟩
 refine ⟨_, rfl, ?_⟩
 simp only [nz]
 refine pl_t 6 (.agg qk.toArray) (by rfl) (ex_build (parts := [(0, .tmp 5)]) rfl rfl (hbk _)) rfl ?_
 simp only [nz]
 refine pl_run (d := some 3) (v := .pointer (some ⟨w2.heap.size, 0, none⟩)) (w' := w2.alloc (.cells zc.toArray 109)) (by rfl) (ex_alloc rfl (hzr _)) rfl ?_
 simp only [nz]
 refine pl_store (w' := (w2.alloc (.cells zc.toArray 109)).setCells w2.heap.size 0 qk) (by rfl) (ex_put (cs := qk.toArray) rfl rfl rfl (there_newN _ _ _ (by simp [hzl, hql])) (by simpa using hiq) (all_one hq1)) rfl ?_
 refine pl_nil ?_
 obtain ⟨hF1, hF2, hF3, -⟩ := fresh_store w2 zc.toArray 109 qk (by simp [hzl, hql])
 have hF4 := World.there_setCells (there_newN w2 zc.toArray 109 (n := 119) (by simp [hzl])) w2.heap.size 0 qk
 obtain ⟨w3, hw3⟩ : ∃ W, (w2.alloc (.cells zc.toArray 109)).setCells w2.heap.size 0 qk = W := ⟨_, rfl⟩
 rw [hw3] at hF1 hF2 hF3 hF4 ⊢
 clear hw3
 have hc0 := hk0 _ _ hF1
 have k3 : Kept w R Q w3 := (((Kept.refl w R Q).below hB1).trans k2).below hF2
 have z2 := k2.size
 rw [← hqk.out] at hF1
 have V3 : MV w Q R w.heap.size w2.heap.size 119 (Ms.plain 3 0 0 Vt.zero zeros32).cells s0 w3 := ⟨hF1, hF4, there_below (there_blk ht1 (k2.block _ hs1 (by omega) (by omega))) hF2 (by omega), k3, S2.below hF2, by have := hF2.size; omega, by omega, Nat.le_refl _, by have := hB1.size; omega, by omega, hRw, hQw⟩
 have hww : w.heap.size < w2.heap.size := by omega
 clear hF1 hF2 hF4 ht1 hB1 S1 S2 k2 k3 hk0 hbk hql hq1 hiq hqk h ck hzr hzl
 go_upto_region 2 with fail
 try simp only [Act.put]
 refine pl_begin ?_
 refine pl_t 7 (?_) (by rfl) ?_ rfl ?_
 rotate_left
 ·go_simp
  try with_reducible rfl
 simp only [nz]
 refine pl_t 8 (.int .i64 3) (by rfl) (pl_one rfl rfl hc0 Tryz.underlying3 rfl) rfl ?_
 simp only [nz]
 refine pl_nil ?_
 clear hc0
 go_upto_region 9 with fail
 try simp only [Act.put]
 refine pl_begin ?_
 refine pl_t 36 (?_) (by rfl) ?_ rfl ?_
 rotate_left
 ·go_simp
  try with_reducible rfl
 simp only [nz]
 refine pl_call (d := some 37) (by rfl) (by go_simp; first | done | exact ⟨rfl, rfl⟩ | with_reducible rfl) rfl ?_
 refine (c_a w3 V3.rs).mono ?_
 rintro _ wd ⟨x, rfl, hx, hA, hB, hB2, Sd, kd⟩
 refine ⟨_, rfl, ?_⟩
 simp only [nz]
 refine pl_t 38 (?_) (by rfl) ?_ rfl ?_
 rotate_left
 ·go_simp
  try with_reducible rfl
 simp only [nz]
 have Vd := V3.on kd Sd
 have Ve := Vd.set 43 [.int .i64 e_a, .int .i64 m_a, .int .i64 n_a, x.val] (put_ch e_a m_a n_a x.val Vt.zero_ok Vd.row (Vd.part 43 4 (by decide)))
 have lb := V3.lb
 have la := V3.la
 have na := V3.kept.size
 refine pl_store (w' := wd.setCells w2.heap.size 43 [.int .i64 e_a, .int .i64 m_a, .int .i64 n_a, x.val]) (by rfl) (ex_put (cs := #[.int .i64 e_a, .int .i64 m_a, .int .i64 n_a, x.val]) rfl rfl rfl (Vd.part 43 4 (by decide)) iszCh (by simp [Value.oneCell', Sl.val])) rfl ?_
 refine pl_nil ?_
 have hA1 := hA.put (B := w2.heap.size) (o := 43) (vs := [.int .i64 e_a, .int .i64 m_a, .int .i64 n_a, x.val]) hB hB2 (fun b hb => by omega)
 obtain ⟨we, hwe⟩ : ∃ W, wd.setCells w2.heap.size 43 [.int .i64 e_a, .int .i64 m_a, .int .i64 n_a, x.val] = W := ⟨_, rfl⟩
 rw [hwe] at Ve hA1 ⊢
 clear hwe
 clear Vd Sd kd V3 hA
 have rpc := Ve.row
 have hmo : Mg.ok ⟨3, 0, 0, 0, 0, false, ⟨none, 0, []⟩, Vt.zero, e_a, m_a, n_a, x, ⟨none, 0, []⟩, zeros32, Vt.zero, ⟨none, 0, []⟩, ⟨#[]⟩, ⟨none, 0, []⟩⟩ := ⟨Vt.zero_ok, Vt.zero_ok, zeros32_len, zeros32_byte⟩
 have hpl : (Mg.ms ⟨3, 0, 0, 0, 0, false, ⟨none, 0, []⟩, Vt.zero, e_a, m_a, n_a, x, ⟨none, 0, []⟩, zeros32, Vt.zero, ⟨none, 0, []⟩, ⟨#[]⟩, ⟨none, 0, []⟩⟩).cells.length = 119 := hmo.ms.len
 have hp1 := hmo.ms.one
 have hip : (Tryz.prog.info? 109).map (·.size) = some (Mg.ms ⟨3, 0, 0, 0, 0, false, ⟨none, 0, []⟩, Vt.zero, e_a, m_a, n_a, x, ⟨none, 0, []⟩, zeros32, Vt.zero, ⟨none, 0, []⟩, ⟨#[]⟩, ⟨none, 0, []⟩⟩).cells.length := by rw [hpl]; exact iszM
 have rpc : we.rangeAt w2.heap.size 0 (Mg.ms ⟨3, 0, 0, 0, 0, false, ⟨none, 0, []⟩, Vt.zero, e_a, m_a, n_a, x, ⟨none, 0, []⟩, zeros32, Vt.zero, ⟨none, 0, []⟩, ⟨#[]⟩, ⟨none, 0, []⟩⟩).cells := rpc
 obtain ⟨pc, hpc⟩ : ∃ p, Hid ((Mg.ms ⟨3, 0, 0, 0, 0, false, ⟨none, 0, []⟩, Vt.zero, e_a, m_a, n_a, x, ⟨none, 0, []⟩, zeros32, Vt.zero, ⟨none, 0, []⟩, ⟨#[]⟩, ⟨none, 0, []⟩⟩).cells = p) := ⟨_, hide rfl⟩
 simp only [hpc.out] at hpl hip hp1 rpc
 go_upto_region 22 with fail
 try simp only [Act.put]
 refine pl_begin ?_
 refine pl_t 121 (.agg pc.toArray) (by rfl) (ex_mid rfl rfl rpc Tryz.underlying109 rfl hip) rfl ?_
 simp only [nz]
 refine pl_store (w' := we.setCells w.heap.size 0 pc) (by rfl) (ex_put (cs := pc.toArray) rfl rfl rfl (by simpa [hpl] using Ve.ans) (by simpa using hip) (all_one hp1)) rfl ?_
 refine pl_nil ?_
 have hlow : Below w.heap.size we (we.setCells w.heap.size 0 pc) := below_sets (Nat.le_refl _) pc 0 _ (Below.refl _ we)
 have hrs := run_loadVar_mid (P := Tryz.prog) (we.setCells w.heap.size 0 pc) w.heap.size 0 109 pc _ (World.rangeAt_setCells_same we w.heap.size 0 pc (by rw [hpl]; exact Ve.ans)) Tryz.underlying109 rfl hip
 have HF : Hid (∃ m : Mg, Ending.returned (.agg pc.toArray) = .returned (.agg m.ms.cells.toArray) ∧ m.pure = (⟨3, 0, 0, 0, 0, false, [], Vt.zero, e_a, m_a, n_a, he_a, [], zeros32, Vt.zero, [], ⟨#[]⟩, []⟩ : Mp) ∧ m.ok ∧ m.At (we.setCells w.heap.size 0 pc) ∧ m.Bk (fun b => w.heap.size ≤ b) ∧ RS (we.setCells w.heap.size 0 pc) Q R s_a ∧ Kept w R Q (we.setCells w.heap.size 0 pc)) := hide ⟨⟨3, 0, 0, 0, 0, false, ⟨none, 0, []⟩, Vt.zero, e_a, m_a, n_a, x, ⟨none, 0, []⟩, zeros32, Vt.zero, ⟨none, 0, []⟩, ⟨#[]⟩, ⟨none, 0, []⟩⟩, by rw [hpc.out], by rw [← hx]; rfl, hmo, mg0_at RowsAt.none (hA1.put hB hB2 (fun b hb => by omega)) RowsAt.none RowsAt.none RowsAt.none, ⟨no_bk, hB.mono (fun b hb => by omega), fun y hy => (hB2 y hy).mono (fun b hb => by omega), no_bk, no_bk, no_bk⟩, Ve.rs.low hlow hQw, Ve.kept.low hlow (Nat.le_refl _)⟩
 clear Ve hlow rpc hpc hmo hA1 hB hB2 hx
 go_wp2_with fail
 refine bodyPost_ret (v := .agg pc.toArray) ?_ rfl ?_
 ·simp [results, Tryz.results46, Act.put, asAddr, hrs]
 ·exact HF.out
set_option maxRecDepth 100000 in
set_option maxHeartbeats 1000000 in
theorem rmsgK4 (Q R : Nat) (s : Rst) (w : World) (h : RS w Q R s) (hl : s.1.length ≤ 40000) (hk : (kiS 8 s).1 = 4) : Calls Tryz.prog 46 #[.pointer (some ⟨Q, 0, none⟩)] w fun en w' => ∃ m : Mg, en = .returned (.agg m.ms.cells.toArray) ∧ m.pure = (mg4 (kiS 8 s).2).1 ∧ m.ok ∧ m.At w' ∧ m.Bk (fun b => w.heap.size ≤ b) ∧ RS w' Q R (mg4 (kiS 8 s).2).2 ∧ Kept w R Q w' := by
 have hRw := h.st.1.1
 have hQw := h.mr.lt
 have ck := fun w0 h0 => kindRS Q R 8 s w0 h0
 have l0 := kiS_len 8 s
 unfold mg4
 generalize kiS 8 s = p_ at ck l0 hk ⊢
 obtain ⟨k, s0⟩ := p_
 simp only at ck l0 hk ⊢
 subst hk
 have c_a := fun w0 h0 => numRS Q R 1048576 s0 w0 h0
 have l_a : (nuS 1048576 s0).2.1.length ≤ s0.1.length := nuS_len _ _
 generalize nuS 1048576 s0 = p_ at c_a l_a ⊢
 obtain ⟨v_a, s_a⟩ := p_
 simp only at c_a l_a ⊢
 have c_b := fun w0 h0 => numRS Q R 64 s_a w0 h0
 have l_b : (nuS 64 s_a).2.1.length ≤ s_a.1.length := nuS_len _ _
 generalize nuS 64 s_a = p_ at c_b l_b ⊢
 obtain ⟨v_b, s_b⟩ := p_
 simp only at c_b l_b ⊢
 have c_c := fun w0 h0 => numRS Q R 1099511627776 s_b w0 h0
 have l_c : (nuS 1099511627776 s_b).2.1.length ≤ s_b.1.length := nuS_len _ _
 generalize nuS 1099511627776 s_b = p_ at c_c l_c ⊢
 obtain ⟨v_c, s_c⟩ := p_
 simp only at c_c l_c ⊢
 have c_d := fun w0 h0 => rlistE_any Q R s_c w0 h0 (by omega)
 have l_d : (lsS 64 enS s_c).2.1.length ≤ s_c.1.length := lsS_len enS_len _ _
 generalize lsS 64 enS s_c = p_ at c_d l_d ⊢
 obtain ⟨v_d, s_d⟩ := p_
 simp only at c_d l_d ⊢
 obtain ⟨zc, hzl, hzr⟩ : ∃ z : List Value, z.length = 119 ∧ ∀ w : World, (zeroValue 109).run Tryz.prog w = .ok (.agg z.toArray) w := ⟨_, (Ms.plain_ok 0 0 0 Vt.zero_ok zeros32_len zeros32_byte).len, zeroM⟩
 have hbk := build_kind 4
 have hql := (ms0_ok 4).len
 have hq1 := (ms0_ok 4).one
 have hiq : (Tryz.prog.info? 109).map (·.size) = some (Ms.plain 4 0 0 Vt.zero zeros32).cells.length := by rw [hql]; exact iszM
 have hk0 : ∀ (w' : World) b, w'.rangeAt b 0 (Ms.plain 4 0 0 Vt.zero zeros32).cells → w'.cell? ⟨b, 0, none⟩ = some (.int .i64 4) := fun w' b h => ((ms0_ok 4).at h).k
 obtain ⟨qk, hqk⟩ : ∃ q, Hid ((Ms.plain 4 0 0 Vt.zero zeros32).cells = q) := ⟨_, hide rfl⟩
 simp only [hqk.out] at hbk hql hq1 hiq hk0
 obtain ⟨hB1, hr1, hs1⟩ := boxed_new w zc 109
 have ht1 := there_newN w zc.toArray 109 (n := 119) (by simp [hzl])
 go_enter Tryz.func46, Tryz.ntmps46
 go_upto_region 0 with fail
 try simp only [Act.put]
 refine pl_begin ?_
 refine pl_run (d := some 2) (v := .pointer (some ⟨w.heap.size, 0, none⟩)) (w' := w.alloc (.cells zc.toArray 109)) (by rfl) (ex_alloc rfl (hzr _)) rfl ?_
 simp only [nz]
 refine pl_nil ?_
 obtain ⟨W1, hW1⟩ : ∃ W, w.alloc (.cells zc.toArray 109) = W := ⟨_, rfl⟩
 rw [hW1] at hB1 hr1 hs1 ht1 ⊢
 clear hW1 hr1
 have S1 := h.below hB1
 go_upto_region 1 with fail
 try simp only [Act.put]
 refine pl_begin ?_
 refine pl_t 4 (?_) (by rfl) ?_ rfl ?_
 rotate_left
 ·go_simp
  try with_reducible rfl
 simp only [nz]
 refine pl_call (d := some 5) (by rfl) (by go_simp; first | done | exact ⟨rfl, rfl⟩ | with_reducible rfl) rfl ?_
 refine (ck W1 S1).mono ?_
 rintro _ w2 ⟨rfl, S2, k2⟩
 refine ⟨_, rfl, ?_⟩
 simp only [nz]
 refine pl_t 6 (.agg qk.toArray) (by rfl) (ex_build (parts := [(0, .tmp 5)]) rfl rfl (hbk _)) rfl ?_
 simp only [nz]
 refine pl_run (d := some 3) (v := .pointer (some ⟨w2.heap.size, 0, none⟩)) (w' := w2.alloc (.cells zc.toArray 109)) (by rfl) (ex_alloc rfl (hzr _)) rfl ?_
 simp only [nz]
 refine pl_store (w' := (w2.alloc (.cells zc.toArray 109)).setCells w2.heap.size 0 qk) (by rfl) (ex_put (cs := qk.toArray) rfl rfl rfl (there_newN _ _ _ (by simp [hzl, hql])) (by simpa using hiq) (all_one hq1)) rfl ?_
 refine pl_nil ?_
 obtain ⟨hF1, hF2, hF3, -⟩ := fresh_store w2 zc.toArray 109 qk (by simp [hzl, hql])
 have hF4 := World.there_setCells (there_newN w2 zc.toArray 109 (n := 119) (by simp [hzl])) w2.heap.size 0 qk
 obtain ⟨w3, hw3⟩ : ∃ W, (w2.alloc (.cells zc.toArray 109)).setCells w2.heap.size 0 qk = W := ⟨_, rfl⟩
 rw [hw3] at hF1 hF2 hF3 hF4 ⊢
 clear hw3
 have hc0 := hk0 _ _ hF1
 have k3 : Kept w R Q w3 := (((Kept.refl w R Q).below hB1).trans k2).below hF2
 have z2 := k2.size
 rw [← hqk.out] at hF1
 have V3 : MV w Q R w.heap.size w2.heap.size 119 (Ms.plain 4 0 0 Vt.zero zeros32).cells s0 w3 := ⟨hF1, hF4, there_below (there_blk ht1 (k2.block _ hs1 (by omega) (by omega))) hF2 (by omega), k3, S2.below hF2, by have := hF2.size; omega, by omega, Nat.le_refl _, by have := hB1.size; omega, by omega, hRw, hQw⟩
 have hww : w.heap.size < w2.heap.size := by omega
 clear hF1 hF2 hF4 ht1 hB1 S1 S2 k2 k3 hk0 hbk hql hq1 hiq hqk h ck hzr hzl
 go_upto_region 2 with fail
 try simp only [Act.put]
 refine pl_begin ?_
 refine pl_t 7 (?_) (by rfl) ?_ rfl ?_
 rotate_left
 ·go_simp
  try with_reducible rfl
 simp only [nz]
 refine pl_t 8 (.int .i64 4) (by rfl) (pl_one rfl rfl hc0 Tryz.underlying3 rfl) rfl ?_
 simp only [nz]
 refine pl_nil ?_
 clear hc0
 go_upto_region 11 with fail
 have V8 := V3.drew
 refine hs_begin (S := (fun W' => W'.cell? ⟨Q, 0, none⟩ = some (.pointer (some ⟨R, 0, none⟩)))) 21 rfl (by kernel_rfl) ?_
 obtain ⟨w8, hw8⟩ : ∃ W, w3.drew = W := ⟨_, rfl⟩
 rw [hw8] at V8 ⊢
 clear hw8 V3
 have hS : (fun W' => W'.cell? ⟨Q, 0, none⟩ = some (.pointer (some ⟨R, 0, none⟩))) w8 := V8.rs.mr.c0
 refine hs_t 0 41 (?_) rfl (by kernel_rfl) (by kernel_rfl) (by kernel_rfl) (by rfl) ?_ hS rfl ?_
 rotate_left
 ·intro w' hw
  go_simp
  try with_reducible rfl
 simp only [nz]
 refine hs_t 1 42 (?_) rfl (by kernel_rfl) (by kernel_rfl) (by kernel_rfl) (by rfl) ?_ hS rfl ?_
 rotate_left
 ·intro w' hw
  go_simp
  try with_reducible rfl
 simp only [nz]
 refine hs_t 2 43 (?_) rfl (by kernel_rfl) (by kernel_rfl) (by kernel_rfl) (by rfl) ?_ hS rfl ?_
 rotate_left
 ·intro w' hw
  go_simp
  try with_reducible rfl
 simp only [nz]
 refine hs_t 3 44 (.pointer (some ⟨R, 0, none⟩)) rfl (by kernel_rfl) (by kernel_rfl) (by kernel_rfl) (by rfl) (fun w' hw => pl_one rfl rfl hw Tryz.underlying142 rfl) hS rfl ?_
 simp only [nz]
 refine hs_t 5 46 (?_) rfl (by kernel_rfl) (by kernel_rfl) (by kernel_rfl) (by rfl) ?_ hS rfl ?_
 rotate_left
 ·intro w' hw
  go_simp
  try with_reducible rfl
 simp only [nz]
 refine hs_t 6 47 (?_) rfl (by kernel_rfl) (by kernel_rfl) (by kernel_rfl) (by rfl) ?_ hS rfl ?_
 rotate_left
 ·intro w' hw
  go_simp
  try with_reducible rfl
 simp only [nz]
 refine hs_t 7 48 (?_) rfl (by kernel_rfl) (by kernel_rfl) (by kernel_rfl) (by rfl) ?_ hS rfl ?_
 rotate_left
 ·intro w' hw
  go_simp
  try with_reducible rfl
 simp only [nz]
 refine hs_t 8 49 (.pointer (some ⟨R, 0, none⟩)) rfl (by kernel_rfl) (by kernel_rfl) (by kernel_rfl) (by rfl) (fun w' hw => pl_one rfl rfl hw Tryz.underlying142 rfl) hS rfl ?_
 simp only [nz]
 refine hs_t 10 51 (?_) rfl (by kernel_rfl) (by kernel_rfl) (by kernel_rfl) (by rfl) ?_ hS rfl ?_
 rotate_left
 ·intro w' hw
  go_simp
  try with_reducible rfl
 simp only [nz]
 refine hs_t 11 52 (?_) rfl (by kernel_rfl) (by kernel_rfl) (by kernel_rfl) (by rfl) ?_ hS rfl ?_
 rotate_left
 ·intro w' hw
  go_simp
  try with_reducible rfl
 simp only [nz]
 refine hs_t 12 53 (?_) rfl (by kernel_rfl) (by kernel_rfl) (by kernel_rfl) (by rfl) ?_ hS rfl ?_
 rotate_left
 ·intro w' hw
  go_simp
  try with_reducible rfl
 simp only [nz]
 refine hs_t 13 54 (.pointer (some ⟨R, 0, none⟩)) rfl (by kernel_rfl) (by kernel_rfl) (by kernel_rfl) (by rfl) (fun w' hw => pl_one rfl rfl hw Tryz.underlying142 rfl) hS rfl ?_
 simp only [nz]
 refine hs_call (i := 4) (d := some 45) rfl (by kernel_rfl) (by rfl) (by go_simp; first | done | exact ⟨rfl, rfl⟩ | with_reducible rfl) rfl ?_
 refine (c_a w8 V8.rs).mono ?_
 rintro _ w5 ⟨rfl, S5, k5⟩
 have hS : (fun W' => W'.cell? ⟨Q, 0, none⟩ = some (.pointer (some ⟨R, 0, none⟩))) w5 := S5.mr.c0
 refine ⟨_, rfl, hS, ?_⟩
 simp only [nz]
 refine hs_t 15 56 (?_) rfl (by kernel_rfl) (by kernel_rfl) (by kernel_rfl) (by rfl) ?_ hS rfl ?_
 rotate_left
 ·intro w' hw
  go_simp
  try with_reducible rfl
 simp only [nz]
 refine hs_call (i := 9) (d := some 50) rfl (by kernel_rfl) (by rfl) (by go_simp; first | done | exact ⟨rfl, rfl⟩ | with_reducible rfl) rfl ?_
 refine (c_b w5 S5).mono ?_
 rintro _ w6 ⟨rfl, S6, k6⟩
 have hS : (fun W' => W'.cell? ⟨Q, 0, none⟩ = some (.pointer (some ⟨R, 0, none⟩))) w6 := S6.mr.c0
 refine ⟨_, rfl, hS, ?_⟩
 simp only [nz]
 refine hs_call (i := 14) (d := some 55) rfl (by kernel_rfl) (by rfl) (by go_simp; first | done | exact ⟨rfl, rfl⟩ | with_reducible rfl) rfl ?_
 refine (c_c w6 S6).mono ?_
 rintro _ w7 ⟨rfl, S7, k7⟩
 have hS : (fun W' => W'.cell? ⟨Q, 0, none⟩ = some (.pointer (some ⟨R, 0, none⟩))) w7 := S7.mr.c0
 refine ⟨_, rfl, hS, ?_⟩
 simp only [nz]
 have V_0 := (((V8.on k5 S5).on k6 S6).on k7 S7)
 have V_1 := V_0.set 1 [.int .i64 v_a] (put_e v_a V_0.row (V_0.part 1 1 (by decide)))
 refine hs_store (i := 16) (w' := w7.setCells w2.heap.size 1 [.int .i64 v_a]) rfl (by kernel_rfl) (by rfl) (ex_put1 (n := 119) rfl rfl rfl V_0.box (by decide) iszI rfl rfl) rfl V_1.rs.mr.c0 ?_
 obtain ⟨w_16, hw_16⟩ : ∃ W, w7.setCells w2.heap.size 1 [.int .i64 v_a] = W := ⟨_, rfl⟩
 rw [hw_16] at V_1 ⊢
 clear hw_16
 have hS : (fun W' => W'.cell? ⟨Q, 0, none⟩ = some (.pointer (some ⟨R, 0, none⟩))) w_16 := V_1.rs.mr.c0
 refine hs_t 17 57 (?_) rfl (by kernel_rfl) (by kernel_rfl) (by kernel_rfl) (by rfl) ?_ hS rfl ?_
 rotate_left
 ·intro w' hw
  go_simp
  try with_reducible rfl
 simp only [nz]
 have V_2 := V_1.set 2 [.int .i64 v_b] (put_l v_b V_1.row (V_1.part 2 1 (by decide)))
 refine hs_store (i := 18) (w' := w_16.setCells w2.heap.size 2 [.int .i64 v_b]) rfl (by kernel_rfl) (by rfl) (ex_put1 (n := 119) rfl rfl rfl V_1.box (by decide) iszI rfl rfl) rfl V_2.rs.mr.c0 ?_
 obtain ⟨w_18, hw_18⟩ : ∃ W, w_16.setCells w2.heap.size 2 [.int .i64 v_b] = W := ⟨_, rfl⟩
 rw [hw_18] at V_2 ⊢
 clear hw_18
 have hS : (fun W' => W'.cell? ⟨Q, 0, none⟩ = some (.pointer (some ⟨R, 0, none⟩))) w_18 := V_2.rs.mr.c0
 refine hs_t 19 58 (?_) rfl (by kernel_rfl) (by kernel_rfl) (by kernel_rfl) (by rfl) ?_ hS rfl ?_
 rotate_left
 ·intro w' hw
  go_simp
  try with_reducible rfl
 simp only [nz]
 have V_3 := V_2.set 3 [.int .i64 v_c] (put_v v_c V_2.row (V_2.part 3 1 (by decide)))
 refine hs_store (i := 20) (w' := w_18.setCells w2.heap.size 3 [.int .i64 v_c]) rfl (by kernel_rfl) (by rfl) (ex_put1 (n := 119) rfl rfl rfl V_2.box (by decide) iszI rfl rfl) rfl V_3.rs.mr.c0 ?_
 obtain ⟨w_20, hw_20⟩ : ∃ W, w_18.setCells w2.heap.size 3 [.int .i64 v_c] = W := ⟨_, rfl⟩
 rw [hw_20] at V_3 ⊢
 clear hw_20
 have hS : (fun W' => W'.cell? ⟨Q, 0, none⟩ = some (.pointer (some ⟨R, 0, none⟩))) w_20 := V_3.rs.mr.c0
 refine hs_done (by kernel_rfl) ?_
 clear hS V8 S5 k5 S6 k6 S7 k7 V_0 V_1 V_2 c_a c_b c_c
 go_upto_region 12 with fail
 try simp only [Act.put]
 refine pl_begin ?_
 refine pl_t 59 (?_) (by rfl) ?_ rfl ?_
 rotate_left
 ·go_simp
  try with_reducible rfl
 simp only [nz]
 refine pl_t 60 (?_) (by rfl) ?_ rfl ?_
 rotate_left
 ·go_simp
  try with_reducible rfl
 simp only [nz]
 refine pl_t 61 (?_) (by rfl) ?_ rfl ?_
 rotate_left
 ·go_simp
  try with_reducible rfl
 simp only [nz]
 refine pl_t 62 (.pointer (some ⟨R, 0, none⟩)) (by rfl) (pl_one rfl rfl V_3.rs.mr.c0 Tryz.underlying142 rfl) rfl ?_
 simp only [nz]
 refine pl_t 63 (?_) (by rfl) ?_ rfl ?_
 rotate_left
 ·go_simp
  try with_reducible rfl
 simp only [nz]
 refine pl_t 64 (?_) (by rfl) ?_ rfl ?_
 rotate_left
 ·go_simp
  try with_reducible rfl
 simp only [nz]
 refine pl_t 65 (?_) (by rfl) ?_ rfl ?_
 rotate_left
 ·go_simp
  try with_reducible rfl
 simp only [nz]
 refine pl_call (d := some 66) (by rfl) (by go_simp; first | done | exact ⟨rfl, rfl⟩ | with_reducible rfl) rfl ?_
 refine (c_d w_20 V_3.rs).mono ?_
 rintro _ wd ⟨x, rfl, hx, hA, hB, Sd, kd⟩
 refine ⟨_, rfl, ?_⟩
 simp only [nz]
 refine pl_t 67 (?_) (by rfl) ?_ rfl ?_
 rotate_left
 ·go_simp
  try with_reducible rfl
 simp only [nz]
 have Vd := V_3.on kd Sd
 have Ve := Vd.set 47 [x.val] (put_ne x.val Vt.zero_ok Vd.row (Vd.part 47 1 (by decide)))
 have lb := V_3.lb
 have la := V_3.la
 have na := V_3.kept.size
 refine pl_store (w' := wd.setCells w2.heap.size 47 [x.val]) (by rfl) (ex_put1 (n := 119) rfl rfl rfl Vd.box (by decide) iszEvs rfl rfl) rfl ?_
 refine pl_nil ?_
 have hA1 := hA.put (B := w2.heap.size) (o := 47) (vs := [x.val]) hB (fun b hb => by omega)
 obtain ⟨we, hwe⟩ : ∃ W, wd.setCells w2.heap.size 47 [x.val] = W := ⟨_, rfl⟩
 rw [hwe] at Ve hA1 ⊢
 clear hwe
 clear Vd Sd kd V_3 hA
 have rpc := Ve.row
 have hmo : Mg.ok ⟨4, v_a, v_b, v_c, 0, false, ⟨none, 0, []⟩, Vt.zero, 0, 0, 0, ⟨none, 0, []⟩, x, zeros32, Vt.zero, ⟨none, 0, []⟩, ⟨#[]⟩, ⟨none, 0, []⟩⟩ := ⟨Vt.zero_ok, Vt.zero_ok, zeros32_len, zeros32_byte⟩
 have hpl : (Mg.ms ⟨4, v_a, v_b, v_c, 0, false, ⟨none, 0, []⟩, Vt.zero, 0, 0, 0, ⟨none, 0, []⟩, x, zeros32, Vt.zero, ⟨none, 0, []⟩, ⟨#[]⟩, ⟨none, 0, []⟩⟩).cells.length = 119 := hmo.ms.len
 have hp1 := hmo.ms.one
 have hip : (Tryz.prog.info? 109).map (·.size) = some (Mg.ms ⟨4, v_a, v_b, v_c, 0, false, ⟨none, 0, []⟩, Vt.zero, 0, 0, 0, ⟨none, 0, []⟩, x, zeros32, Vt.zero, ⟨none, 0, []⟩, ⟨#[]⟩, ⟨none, 0, []⟩⟩).cells.length := by rw [hpl]; exact iszM
 have rpc : we.rangeAt w2.heap.size 0 (Mg.ms ⟨4, v_a, v_b, v_c, 0, false, ⟨none, 0, []⟩, Vt.zero, 0, 0, 0, ⟨none, 0, []⟩, x, zeros32, Vt.zero, ⟨none, 0, []⟩, ⟨#[]⟩, ⟨none, 0, []⟩⟩).cells := rpc
 obtain ⟨pc, hpc⟩ : ∃ p, Hid ((Mg.ms ⟨4, v_a, v_b, v_c, 0, false, ⟨none, 0, []⟩, Vt.zero, 0, 0, 0, ⟨none, 0, []⟩, x, zeros32, Vt.zero, ⟨none, 0, []⟩, ⟨#[]⟩, ⟨none, 0, []⟩⟩).cells = p) := ⟨_, hide rfl⟩
 simp only [hpc.out] at hpl hip hp1 rpc
 go_upto_region 22 with fail
 try simp only [Act.put]
 refine pl_begin ?_
 refine pl_t 121 (.agg pc.toArray) (by rfl) (ex_mid rfl rfl rpc Tryz.underlying109 rfl hip) rfl ?_
 simp only [nz]
 refine pl_store (w' := we.setCells w.heap.size 0 pc) (by rfl) (ex_put (cs := pc.toArray) rfl rfl rfl (by simpa [hpl] using Ve.ans) (by simpa using hip) (all_one hp1)) rfl ?_
 refine pl_nil ?_
 have hlow : Below w.heap.size we (we.setCells w.heap.size 0 pc) := below_sets (Nat.le_refl _) pc 0 _ (Below.refl _ we)
 have hrs := run_loadVar_mid (P := Tryz.prog) (we.setCells w.heap.size 0 pc) w.heap.size 0 109 pc _ (World.rangeAt_setCells_same we w.heap.size 0 pc (by rw [hpl]; exact Ve.ans)) Tryz.underlying109 rfl hip
 have HF : Hid (∃ m : Mg, Ending.returned (.agg pc.toArray) = .returned (.agg m.ms.cells.toArray) ∧ m.pure = (⟨4, v_a, v_b, v_c, 0, false, [], Vt.zero, 0, 0, 0, [], v_d, zeros32, Vt.zero, [], ⟨#[]⟩, []⟩ : Mp) ∧ m.ok ∧ m.At (we.setCells w.heap.size 0 pc) ∧ m.Bk (fun b => w.heap.size ≤ b) ∧ RS (we.setCells w.heap.size 0 pc) Q R s_d ∧ Kept w R Q (we.setCells w.heap.size 0 pc)) := hide ⟨⟨4, v_a, v_b, v_c, 0, false, ⟨none, 0, []⟩, Vt.zero, 0, 0, 0, ⟨none, 0, []⟩, x, zeros32, Vt.zero, ⟨none, 0, []⟩, ⟨#[]⟩, ⟨none, 0, []⟩⟩, by rw [hpc.out], by rw [← hx]; rfl, hmo, mg0_at RowsAt.none hds_none (hA1.put hB (fun b hb => by omega)) RowsAt.none RowsAt.none, ⟨no_bk, no_bk, no_bk2, hB.mono (fun b hb => by omega), no_bk, no_bk⟩, Ve.rs.low hlow hQw, Ve.kept.low hlow (Nat.le_refl _)⟩
 clear Ve hlow rpc hpc hmo hA1 hB hx
 go_wp2_with fail
 refine bodyPost_ret (v := .agg pc.toArray) ?_ rfl ?_
 ·simp [results, Tryz.results46, Act.put, asAddr, hrs]
 ·exact HF.out
set_option maxRecDepth 100000 in
set_option maxHeartbeats 1000000 in
theorem rmsgK5 (Q R : Nat) (s : Rst) (w : World) (h : RS w Q R s) (hl : s.1.length ≤ 40000) (hk : (kiS 8 s).1 = 5) : Calls Tryz.prog 46 #[.pointer (some ⟨Q, 0, none⟩)] w fun en w' => ∃ m : Mg, en = .returned (.agg m.ms.cells.toArray) ∧ m.pure = (mg5 (kiS 8 s).2).1 ∧ m.ok ∧ m.At w' ∧ m.Bk (fun b => w.heap.size ≤ b) ∧ RS w' Q R (mg5 (kiS 8 s).2).2 ∧ Kept w R Q w' := by
 have hRw := h.st.1.1
 have hQw := h.mr.lt
 have ck := fun w0 h0 => kindRS Q R 8 s w0 h0
 have l0 := kiS_len 8 s
 unfold mg5
 generalize kiS 8 s = p_ at ck l0 hk ⊢
 obtain ⟨k, s0⟩ := p_
 simp only at ck l0 hk ⊢
 subst hk
 have c_a := fun w0 h0 => numRS Q R 1048576 s0 w0 h0
 have l_a : (nuS 1048576 s0).2.1.length ≤ s0.1.length := nuS_len _ _
 generalize nuS 1048576 s0 = p_ at c_a l_a ⊢
 obtain ⟨v_a, s_a⟩ := p_
 simp only at c_a l_a ⊢
 have c_b := fun w0 h0 => digRS Q R s_a w0 h0 (by omega)
 have l_b : (dgS s_a).2.1.length ≤ s_a.1.length := dgS_len _
 have ok_b := fun hb => dgS_ok s_a hb
 generalize dgS s_a = p_ at c_b l_b ok_b ⊢
 obtain ⟨v_b, s_b⟩ := p_
 simp only at c_b l_b ok_b ⊢
 obtain ⟨zc, hzl, hzr⟩ : ∃ z : List Value, z.length = 119 ∧ ∀ w : World, (zeroValue 109).run Tryz.prog w = .ok (.agg z.toArray) w := ⟨_, (Ms.plain_ok 0 0 0 Vt.zero_ok zeros32_len zeros32_byte).len, zeroM⟩
 have hbk := build_kind 5
 have hql := (ms0_ok 5).len
 have hq1 := (ms0_ok 5).one
 have hiq : (Tryz.prog.info? 109).map (·.size) = some (Ms.plain 5 0 0 Vt.zero zeros32).cells.length := by rw [hql]; exact iszM
 have hk0 : ∀ (w' : World) b, w'.rangeAt b 0 (Ms.plain 5 0 0 Vt.zero zeros32).cells → w'.cell? ⟨b, 0, none⟩ = some (.int .i64 5) := fun w' b h => ((ms0_ok 5).at h).k
 obtain ⟨qk, hqk⟩ : ∃ q, Hid ((Ms.plain 5 0 0 Vt.zero zeros32).cells = q) := ⟨_, hide rfl⟩
 simp only [hqk.out] at hbk hql hq1 hiq hk0
 obtain ⟨hB1, hr1, hs1⟩ := boxed_new w zc 109
 have ht1 := there_newN w zc.toArray 109 (n := 119) (by simp [hzl])
 go_enter Tryz.func46, Tryz.ntmps46
 go_upto_region 0 with fail
 try simp only [Act.put]
 refine pl_begin ?_
 refine pl_run (d := some 2) (v := .pointer (some ⟨w.heap.size, 0, none⟩)) (w' := w.alloc (.cells zc.toArray 109)) (by rfl) (ex_alloc rfl (hzr _)) rfl ?_
 simp only [nz]
 refine pl_nil ?_
 obtain ⟨W1, hW1⟩ : ∃ W, w.alloc (.cells zc.toArray 109) = W := ⟨_, rfl⟩
 rw [hW1] at hB1 hr1 hs1 ht1 ⊢
 clear hW1 hr1
 have S1 := h.below hB1
 go_upto_region 1 with fail
 try simp only [Act.put]
 refine pl_begin ?_
 refine pl_t 4 (?_) (by rfl) ?_ rfl ?_
 rotate_left
 ·go_simp
  try with_reducible rfl
 simp only [nz]
 refine pl_call (d := some 5) (by rfl) (by go_simp; first | done | exact ⟨rfl, rfl⟩ | with_reducible rfl) rfl ?_
 refine (ck W1 S1).mono ?_
 rintro _ w2 ⟨rfl, S2, k2⟩
 refine ⟨_, rfl, ?_⟩
 simp only [nz]
 refine pl_t 6 (.agg qk.toArray) (by rfl) (ex_build (parts := [(0, .tmp 5)]) rfl rfl (hbk _)) rfl ?_
 simp only [nz]
 refine pl_run (d := some 3) (v := .pointer (some ⟨w2.heap.size, 0, none⟩)) (w' := w2.alloc (.cells zc.toArray 109)) (by rfl) (ex_alloc rfl (hzr _)) rfl ?_
 simp only [nz]
 refine pl_store (w' := (w2.alloc (.cells zc.toArray 109)).setCells w2.heap.size 0 qk) (by rfl) (ex_put (cs := qk.toArray) rfl rfl rfl (there_newN _ _ _ (by simp [hzl, hql])) (by simpa using hiq) (all_one hq1)) rfl ?_
 refine pl_nil ?_
 obtain ⟨hF1, hF2, hF3, -⟩ := fresh_store w2 zc.toArray 109 qk (by simp [hzl, hql])
 have hF4 := World.there_setCells (there_newN w2 zc.toArray 109 (n := 119) (by simp [hzl])) w2.heap.size 0 qk
 obtain ⟨w3, hw3⟩ : ∃ W, (w2.alloc (.cells zc.toArray 109)).setCells w2.heap.size 0 qk = W := ⟨_, rfl⟩
 rw [hw3] at hF1 hF2 hF3 hF4 ⊢
 clear hw3
 have hc0 := hk0 _ _ hF1
 have k3 : Kept w R Q w3 := (((Kept.refl w R Q).below hB1).trans k2).below hF2
 have z2 := k2.size
 rw [← hqk.out] at hF1
 have V3 : MV w Q R w.heap.size w2.heap.size 119 (Ms.plain 5 0 0 Vt.zero zeros32).cells s0 w3 := ⟨hF1, hF4, there_below (there_blk ht1 (k2.block _ hs1 (by omega) (by omega))) hF2 (by omega), k3, S2.below hF2, by have := hF2.size; omega, by omega, Nat.le_refl _, by have := hB1.size; omega, by omega, hRw, hQw⟩
 have hww : w.heap.size < w2.heap.size := by omega
 clear hF1 hF2 hF4 ht1 hB1 S1 S2 k2 k3 hk0 hbk hql hq1 hiq hqk h ck hzr hzl
 go_upto_region 2 with fail
 try simp only [Act.put]
 refine pl_begin ?_
 refine pl_t 7 (?_) (by rfl) ?_ rfl ?_
 rotate_left
 ·go_simp
  try with_reducible rfl
 simp only [nz]
 refine pl_t 8 (.int .i64 5) (by rfl) (pl_one rfl rfl hc0 Tryz.underlying3 rfl) rfl ?_
 simp only [nz]
 refine pl_nil ?_
 clear hc0
 go_upto_region 14 with fail
 try simp only [Act.put]
 refine pl_begin ?_
 refine pl_t 70 (?_) (by rfl) ?_ rfl ?_
 rotate_left
 ·go_simp
  try with_reducible rfl
 simp only [nz]
 refine pl_t 71 (?_) (by rfl) ?_ rfl ?_
 rotate_left
 ·go_simp
  try with_reducible rfl
 simp only [nz]
 refine pl_t 72 (?_) (by rfl) ?_ rfl ?_
 rotate_left
 ·go_simp
  try with_reducible rfl
 simp only [nz]
 refine pl_t 73 (.pointer (some ⟨R, 0, none⟩)) (by rfl) (pl_one rfl rfl V3.rs.mr.c0 Tryz.underlying142 rfl) rfl ?_
 simp only [nz]
 refine pl_call (d := some 74) (by rfl) (by go_simp; first | done | exact ⟨rfl, rfl⟩ | with_reducible rfl) rfl ?_
 refine (c_a w3 V3.rs).mono ?_
 rintro _ w5 ⟨rfl, S5, k5⟩
 refine ⟨_, rfl, ?_⟩
 simp only [nz]
 refine pl_t 75 (?_) (by rfl) ?_ rfl ?_
 rotate_left
 ·go_simp
  try with_reducible rfl
 simp only [nz]
 refine pl_call (d := some 76) (by rfl) (by go_simp; first | done | exact ⟨rfl, rfl⟩ | with_reducible rfl) rfl ?_
 refine (c_b w5 S5).mono ?_
 rintro _ w6 ⟨rfl, S6, k6⟩
 refine ⟨_, rfl, ?_⟩
 simp only [nz]
 refine pl_t 77 (?_) (by rfl) ?_ rfl ?_
 rotate_left
 ·go_simp
  try with_reducible rfl
 simp only [nz]
 have hd := ok_b S5.st.bs
 have V6 := (V3.on k5 S5).on k6 S6
 have Va := V6.set 1 [.int .i64 v_a] (put_e v_a V6.row (V6.part 1 1 (by decide)))
 refine pl_store (w' := w6.setCells w2.heap.size 1 [.int .i64 v_a]) (by rfl) (ex_put1 (n := 119) rfl rfl rfl V6.box (by decide) iszI rfl rfl) rfl ?_
 obtain ⟨wd, hwd⟩ : ∃ W, w6.setCells w2.heap.size 1 [.int .i64 v_a] = W := ⟨_, rfl⟩
 rw [hwd] at Va ⊢
 clear hwd
 refine pl_t 78 (?_) (by rfl) ?_ rfl ?_
 rotate_left
 ·go_simp
  try with_reducible rfl
 simp only [nz]
 have Ve := Va.set 48 (v8 v_b) (put_d v_b hd.1 zeros32_len Vt.zero_ok Va.row (Va.part 48 32 (by decide)))
 have hdl : (v8 v_b).length = 32 := by rw [v8_length]; exact hd.1
 refine pl_store (w' := wd.setCells w2.heap.size 48 (v8 v_b)) (by rfl) (ex_put (cs := (v8 v_b).toArray) rfl rfl rfl (by simpa [hdl] using Va.part 48 32 (by decide)) (by simpa [hdl] using iszD) (all_one (v8_one v_b))) rfl ?_
 refine pl_nil ?_
 obtain ⟨we, hwe⟩ : ∃ W, wd.setCells w2.heap.size 48 (v8 v_b) = W := ⟨_, rfl⟩
 rw [hwe] at Ve ⊢
 clear hwe
 clear Va V6 V3 S5 S6 k5 k6
 have rpc := Ve.row
 have hmo : Mg.ok ⟨5, v_a, 0, 0, 0, false, ⟨none, 0, []⟩, Vt.zero, 0, 0, 0, ⟨none, 0, []⟩, ⟨none, 0, []⟩, v_b, Vt.zero, ⟨none, 0, []⟩, ⟨#[]⟩, ⟨none, 0, []⟩⟩ := ⟨Vt.zero_ok, Vt.zero_ok, hd.1, hd.2⟩
 have hpl : (Mg.ms ⟨5, v_a, 0, 0, 0, false, ⟨none, 0, []⟩, Vt.zero, 0, 0, 0, ⟨none, 0, []⟩, ⟨none, 0, []⟩, v_b, Vt.zero, ⟨none, 0, []⟩, ⟨#[]⟩, ⟨none, 0, []⟩⟩).cells.length = 119 := hmo.ms.len
 have hp1 := hmo.ms.one
 have hip : (Tryz.prog.info? 109).map (·.size) = some (Mg.ms ⟨5, v_a, 0, 0, 0, false, ⟨none, 0, []⟩, Vt.zero, 0, 0, 0, ⟨none, 0, []⟩, ⟨none, 0, []⟩, v_b, Vt.zero, ⟨none, 0, []⟩, ⟨#[]⟩, ⟨none, 0, []⟩⟩).cells.length := by rw [hpl]; exact iszM
 have rpc : we.rangeAt w2.heap.size 0 (Mg.ms ⟨5, v_a, 0, 0, 0, false, ⟨none, 0, []⟩, Vt.zero, 0, 0, 0, ⟨none, 0, []⟩, ⟨none, 0, []⟩, v_b, Vt.zero, ⟨none, 0, []⟩, ⟨#[]⟩, ⟨none, 0, []⟩⟩).cells := rpc
 obtain ⟨pc, hpc⟩ : ∃ p, Hid ((Mg.ms ⟨5, v_a, 0, 0, 0, false, ⟨none, 0, []⟩, Vt.zero, 0, 0, 0, ⟨none, 0, []⟩, ⟨none, 0, []⟩, v_b, Vt.zero, ⟨none, 0, []⟩, ⟨#[]⟩, ⟨none, 0, []⟩⟩).cells = p) := ⟨_, hide rfl⟩
 simp only [hpc.out] at hpl hip hp1 rpc
 go_upto_region 22 with fail
 try simp only [Act.put]
 refine pl_begin ?_
 refine pl_t 121 (.agg pc.toArray) (by rfl) (ex_mid rfl rfl rpc Tryz.underlying109 rfl hip) rfl ?_
 simp only [nz]
 refine pl_store (w' := we.setCells w.heap.size 0 pc) (by rfl) (ex_put (cs := pc.toArray) rfl rfl rfl (by simpa [hpl] using Ve.ans) (by simpa using hip) (all_one hp1)) rfl ?_
 refine pl_nil ?_
 have hlow : Below w.heap.size we (we.setCells w.heap.size 0 pc) := below_sets (Nat.le_refl _) pc 0 _ (Below.refl _ we)
 have hrs := run_loadVar_mid (P := Tryz.prog) (we.setCells w.heap.size 0 pc) w.heap.size 0 109 pc _ (World.rangeAt_setCells_same we w.heap.size 0 pc (by rw [hpl]; exact Ve.ans)) Tryz.underlying109 rfl hip
 have HF : Hid (∃ m : Mg, Ending.returned (.agg pc.toArray) = .returned (.agg m.ms.cells.toArray) ∧ m.pure = (⟨5, v_a, 0, 0, 0, false, [], Vt.zero, 0, 0, 0, [], [], v_b, Vt.zero, [], ⟨#[]⟩, []⟩ : Mp) ∧ m.ok ∧ m.At (we.setCells w.heap.size 0 pc) ∧ m.Bk (fun b => w.heap.size ≤ b) ∧ RS (we.setCells w.heap.size 0 pc) Q R s_b ∧ Kept w R Q (we.setCells w.heap.size 0 pc)) := hide ⟨⟨5, v_a, 0, 0, 0, false, ⟨none, 0, []⟩, Vt.zero, 0, 0, 0, ⟨none, 0, []⟩, ⟨none, 0, []⟩, v_b, Vt.zero, ⟨none, 0, []⟩, ⟨#[]⟩, ⟨none, 0, []⟩⟩, by rw [hpc.out], rfl, hmo, mg0_at RowsAt.none hds_none RowsAt.none RowsAt.none RowsAt.none, ⟨no_bk, no_bk, no_bk2, no_bk, no_bk, no_bk⟩, Ve.rs.low hlow hQw, Ve.kept.low hlow (Nat.le_refl _)⟩
 clear Ve hlow rpc hpc hmo 
 go_wp2_with fail
 refine bodyPost_ret (v := .agg pc.toArray) ?_ rfl ?_
 ·simp [results, Tryz.results46, Act.put, asAddr, hrs]
 ·exact HF.out
set_option maxRecDepth 100000 in
set_option maxHeartbeats 1000000 in
theorem rmsgK6 (Q R : Nat) (s : Rst) (w : World) (h : RS w Q R s) (hl : s.1.length ≤ 40000) (hk : (kiS 8 s).1 = 6) : Calls Tryz.prog 46 #[.pointer (some ⟨Q, 0, none⟩)] w fun en w' => ∃ m : Mg, en = .returned (.agg m.ms.cells.toArray) ∧ m.pure = (mg6 (kiS 8 s).2).1 ∧ m.ok ∧ m.At w' ∧ m.Bk (fun b => w.heap.size ≤ b) ∧ RS w' Q R (mg6 (kiS 8 s).2).2 ∧ Kept w R Q w' := by
 have hRw := h.st.1.1
 have hQw := h.mr.lt
 have ck := fun w0 h0 => kindRS Q R 8 s w0 h0
 have l0 := kiS_len 8 s
 unfold mg6
 generalize kiS 8 s = p_ at ck l0 hk ⊢
 obtain ⟨k, s0⟩ := p_
 simp only at ck l0 hk ⊢
 subst hk
 have c_a := fun w0 h0 => numRS Q R 1048576 s0 w0 h0
 have l_a : (nuS 1048576 s0).2.1.length ≤ s0.1.length := nuS_len _ _
 generalize nuS 1048576 s0 = p_ at c_a l_a ⊢
 obtain ⟨v_a, s_a⟩ := p_
 simp only at c_a l_a ⊢
 have c_b := fun w0 h0 => numRS Q R 1099511627776 s_a w0 h0
 have l_b : (nuS 1099511627776 s_a).2.1.length ≤ s_a.1.length := nuS_len _ _
 generalize nuS 1099511627776 s_a = p_ at c_b l_b ⊢
 obtain ⟨v_b, s_b⟩ := p_
 simp only at c_b l_b ⊢
 obtain ⟨zc, hzl, hzr⟩ : ∃ z : List Value, z.length = 119 ∧ ∀ w : World, (zeroValue 109).run Tryz.prog w = .ok (.agg z.toArray) w := ⟨_, (Ms.plain_ok 0 0 0 Vt.zero_ok zeros32_len zeros32_byte).len, zeroM⟩
 have hbk := build_kind 6
 have hql := (ms0_ok 6).len
 have hq1 := (ms0_ok 6).one
 have hiq : (Tryz.prog.info? 109).map (·.size) = some (Ms.plain 6 0 0 Vt.zero zeros32).cells.length := by rw [hql]; exact iszM
 have hk0 : ∀ (w' : World) b, w'.rangeAt b 0 (Ms.plain 6 0 0 Vt.zero zeros32).cells → w'.cell? ⟨b, 0, none⟩ = some (.int .i64 6) := fun w' b h => ((ms0_ok 6).at h).k
 obtain ⟨qk, hqk⟩ : ∃ q, Hid ((Ms.plain 6 0 0 Vt.zero zeros32).cells = q) := ⟨_, hide rfl⟩
 simp only [hqk.out] at hbk hql hq1 hiq hk0
 obtain ⟨hB1, hr1, hs1⟩ := boxed_new w zc 109
 have ht1 := there_newN w zc.toArray 109 (n := 119) (by simp [hzl])
 go_enter Tryz.func46, Tryz.ntmps46
 go_upto_region 0 with fail
 try simp only [Act.put]
 refine pl_begin ?_
 refine pl_run (d := some 2) (v := .pointer (some ⟨w.heap.size, 0, none⟩)) (w' := w.alloc (.cells zc.toArray 109)) (by rfl) (ex_alloc rfl (hzr _)) rfl ?_
 simp only [nz]
 refine pl_nil ?_
 obtain ⟨W1, hW1⟩ : ∃ W, w.alloc (.cells zc.toArray 109) = W := ⟨_, rfl⟩
 rw [hW1] at hB1 hr1 hs1 ht1 ⊢
 clear hW1 hr1
 have S1 := h.below hB1
 go_upto_region 1 with fail
 try simp only [Act.put]
 refine pl_begin ?_
 refine pl_t 4 (?_) (by rfl) ?_ rfl ?_
 rotate_left
 ·go_simp
  try with_reducible rfl
 simp only [nz]
 refine pl_call (d := some 5) (by rfl) (by go_simp; first | done | exact ⟨rfl, rfl⟩ | with_reducible rfl) rfl ?_
 refine (ck W1 S1).mono ?_
 rintro _ w2 ⟨rfl, S2, k2⟩
 refine ⟨_, rfl, ?_⟩
 simp only [nz]
 refine pl_t 6 (.agg qk.toArray) (by rfl) (ex_build (parts := [(0, .tmp 5)]) rfl rfl (hbk _)) rfl ?_
 simp only [nz]
 refine pl_run (d := some 3) (v := .pointer (some ⟨w2.heap.size, 0, none⟩)) (w' := w2.alloc (.cells zc.toArray 109)) (by rfl) (ex_alloc rfl (hzr _)) rfl ?_
 simp only [nz]
 refine pl_store (w' := (w2.alloc (.cells zc.toArray 109)).setCells w2.heap.size 0 qk) (by rfl) (ex_put (cs := qk.toArray) rfl rfl rfl (there_newN _ _ _ (by simp [hzl, hql])) (by simpa using hiq) (all_one hq1)) rfl ?_
 refine pl_nil ?_
 obtain ⟨hF1, hF2, hF3, -⟩ := fresh_store w2 zc.toArray 109 qk (by simp [hzl, hql])
 have hF4 := World.there_setCells (there_newN w2 zc.toArray 109 (n := 119) (by simp [hzl])) w2.heap.size 0 qk
 obtain ⟨w3, hw3⟩ : ∃ W, (w2.alloc (.cells zc.toArray 109)).setCells w2.heap.size 0 qk = W := ⟨_, rfl⟩
 rw [hw3] at hF1 hF2 hF3 hF4 ⊢
 clear hw3
 have hc0 := hk0 _ _ hF1
 have k3 : Kept w R Q w3 := (((Kept.refl w R Q).below hB1).trans k2).below hF2
 have z2 := k2.size
 rw [← hqk.out] at hF1
 have V3 : MV w Q R w.heap.size w2.heap.size 119 (Ms.plain 6 0 0 Vt.zero zeros32).cells s0 w3 := ⟨hF1, hF4, there_below (there_blk ht1 (k2.block _ hs1 (by omega) (by omega))) hF2 (by omega), k3, S2.below hF2, by have := hF2.size; omega, by omega, Nat.le_refl _, by have := hB1.size; omega, by omega, hRw, hQw⟩
 have hww : w.heap.size < w2.heap.size := by omega
 clear hF1 hF2 hF4 ht1 hB1 S1 S2 k2 k3 hk0 hbk hql hq1 hiq hqk h ck hzr hzl
 go_upto_region 2 with fail
 try simp only [Act.put]
 refine pl_begin ?_
 refine pl_t 7 (?_) (by rfl) ?_ rfl ?_
 rotate_left
 ·go_simp
  try with_reducible rfl
 simp only [nz]
 refine pl_t 8 (.int .i64 6) (by rfl) (pl_one rfl rfl hc0 Tryz.underlying3 rfl) rfl ?_
 simp only [nz]
 refine pl_nil ?_
 clear hc0
 go_upto_region 16 with fail
 have V8 := V3.drew
 refine hs_begin (S := (fun W' => W'.cell? ⟨Q, 0, none⟩ = some (.pointer (some ⟨R, 0, none⟩)))) 14 rfl (by kernel_rfl) ?_
 obtain ⟨w8, hw8⟩ : ∃ W, w3.drew = W := ⟨_, rfl⟩
 rw [hw8] at V8 ⊢
 clear hw8 V3
 have hS : (fun W' => W'.cell? ⟨Q, 0, none⟩ = some (.pointer (some ⟨R, 0, none⟩))) w8 := V8.rs.mr.c0
 refine hs_t 0 81 (?_) rfl (by kernel_rfl) (by kernel_rfl) (by kernel_rfl) (by rfl) ?_ hS rfl ?_
 rotate_left
 ·intro w' hw
  go_simp
  try with_reducible rfl
 simp only [nz]
 refine hs_t 1 82 (?_) rfl (by kernel_rfl) (by kernel_rfl) (by kernel_rfl) (by rfl) ?_ hS rfl ?_
 rotate_left
 ·intro w' hw
  go_simp
  try with_reducible rfl
 simp only [nz]
 refine hs_t 2 83 (?_) rfl (by kernel_rfl) (by kernel_rfl) (by kernel_rfl) (by rfl) ?_ hS rfl ?_
 rotate_left
 ·intro w' hw
  go_simp
  try with_reducible rfl
 simp only [nz]
 refine hs_t 3 84 (.pointer (some ⟨R, 0, none⟩)) rfl (by kernel_rfl) (by kernel_rfl) (by kernel_rfl) (by rfl) (fun w' hw => pl_one rfl rfl hw Tryz.underlying142 rfl) hS rfl ?_
 simp only [nz]
 refine hs_t 5 86 (?_) rfl (by kernel_rfl) (by kernel_rfl) (by kernel_rfl) (by rfl) ?_ hS rfl ?_
 rotate_left
 ·intro w' hw
  go_simp
  try with_reducible rfl
 simp only [nz]
 refine hs_t 6 87 (?_) rfl (by kernel_rfl) (by kernel_rfl) (by kernel_rfl) (by rfl) ?_ hS rfl ?_
 rotate_left
 ·intro w' hw
  go_simp
  try with_reducible rfl
 simp only [nz]
 refine hs_t 7 88 (?_) rfl (by kernel_rfl) (by kernel_rfl) (by kernel_rfl) (by rfl) ?_ hS rfl ?_
 rotate_left
 ·intro w' hw
  go_simp
  try with_reducible rfl
 simp only [nz]
 refine hs_t 8 89 (.pointer (some ⟨R, 0, none⟩)) rfl (by kernel_rfl) (by kernel_rfl) (by kernel_rfl) (by rfl) (fun w' hw => pl_one rfl rfl hw Tryz.underlying142 rfl) hS rfl ?_
 simp only [nz]
 refine hs_call (i := 4) (d := some 85) rfl (by kernel_rfl) (by rfl) (by go_simp; first | done | exact ⟨rfl, rfl⟩ | with_reducible rfl) rfl ?_
 refine (c_a w8 V8.rs).mono ?_
 rintro _ w5 ⟨rfl, S5, k5⟩
 have hS : (fun W' => W'.cell? ⟨Q, 0, none⟩ = some (.pointer (some ⟨R, 0, none⟩))) w5 := S5.mr.c0
 refine ⟨_, rfl, hS, ?_⟩
 simp only [nz]
 refine hs_t 10 91 (?_) rfl (by kernel_rfl) (by kernel_rfl) (by kernel_rfl) (by rfl) ?_ hS rfl ?_
 rotate_left
 ·intro w' hw
  go_simp
  try with_reducible rfl
 simp only [nz]
 refine hs_call (i := 9) (d := some 90) rfl (by kernel_rfl) (by rfl) (by go_simp; first | done | exact ⟨rfl, rfl⟩ | with_reducible rfl) rfl ?_
 refine (c_b w5 S5).mono ?_
 rintro _ w6 ⟨rfl, S6, k6⟩
 have hS : (fun W' => W'.cell? ⟨Q, 0, none⟩ = some (.pointer (some ⟨R, 0, none⟩))) w6 := S6.mr.c0
 refine ⟨_, rfl, hS, ?_⟩
 simp only [nz]
 have V_0 := ((V8.on k5 S5).on k6 S6)
 have V_1 := V_0.set 1 [.int .i64 v_a] (put_e v_a V_0.row (V_0.part 1 1 (by decide)))
 refine hs_store (i := 11) (w' := w6.setCells w2.heap.size 1 [.int .i64 v_a]) rfl (by kernel_rfl) (by rfl) (ex_put1 (n := 119) rfl rfl rfl V_0.box (by decide) iszI rfl rfl) rfl V_1.rs.mr.c0 ?_
 obtain ⟨w_11, hw_11⟩ : ∃ W, w6.setCells w2.heap.size 1 [.int .i64 v_a] = W := ⟨_, rfl⟩
 rw [hw_11] at V_1 ⊢
 clear hw_11
 have hS : (fun W' => W'.cell? ⟨Q, 0, none⟩ = some (.pointer (some ⟨R, 0, none⟩))) w_11 := V_1.rs.mr.c0
 refine hs_t 12 92 (?_) rfl (by kernel_rfl) (by kernel_rfl) (by kernel_rfl) (by rfl) ?_ hS rfl ?_
 rotate_left
 ·intro w' hw
  go_simp
  try with_reducible rfl
 simp only [nz]
 have V_2 := V_1.set 4 [.int .i64 v_b] (put_s v_b V_1.row (V_1.part 4 1 (by decide)))
 refine hs_store (i := 13) (w' := w_11.setCells w2.heap.size 4 [.int .i64 v_b]) rfl (by kernel_rfl) (by rfl) (ex_put1 (n := 119) rfl rfl rfl V_1.box (by decide) iszI rfl rfl) rfl V_2.rs.mr.c0 ?_
 obtain ⟨w_13, hw_13⟩ : ∃ W, w_11.setCells w2.heap.size 4 [.int .i64 v_b] = W := ⟨_, rfl⟩
 rw [hw_13] at V_2 ⊢
 clear hw_13
 have hS : (fun W' => W'.cell? ⟨Q, 0, none⟩ = some (.pointer (some ⟨R, 0, none⟩))) w_13 := V_2.rs.mr.c0
 refine hs_done (by kernel_rfl) ?_
 clear hS V8 S5 k5 S6 k6 V_0 V_1 c_a c_b
 have Ve := V_2
 have rpc := Ve.row
 have hmo : Mg.ok ⟨6, v_a, 0, 0, v_b, false, ⟨none, 0, []⟩, Vt.zero, 0, 0, 0, ⟨none, 0, []⟩, ⟨none, 0, []⟩, zeros32, Vt.zero, ⟨none, 0, []⟩, ⟨#[]⟩, ⟨none, 0, []⟩⟩ := ⟨Vt.zero_ok, Vt.zero_ok, zeros32_len, zeros32_byte⟩
 have hpl : (Mg.ms ⟨6, v_a, 0, 0, v_b, false, ⟨none, 0, []⟩, Vt.zero, 0, 0, 0, ⟨none, 0, []⟩, ⟨none, 0, []⟩, zeros32, Vt.zero, ⟨none, 0, []⟩, ⟨#[]⟩, ⟨none, 0, []⟩⟩).cells.length = 119 := hmo.ms.len
 have hp1 := hmo.ms.one
 have hip : (Tryz.prog.info? 109).map (·.size) = some (Mg.ms ⟨6, v_a, 0, 0, v_b, false, ⟨none, 0, []⟩, Vt.zero, 0, 0, 0, ⟨none, 0, []⟩, ⟨none, 0, []⟩, zeros32, Vt.zero, ⟨none, 0, []⟩, ⟨#[]⟩, ⟨none, 0, []⟩⟩).cells.length := by rw [hpl]; exact iszM
 have rpc : w_13.rangeAt w2.heap.size 0 (Mg.ms ⟨6, v_a, 0, 0, v_b, false, ⟨none, 0, []⟩, Vt.zero, 0, 0, 0, ⟨none, 0, []⟩, ⟨none, 0, []⟩, zeros32, Vt.zero, ⟨none, 0, []⟩, ⟨#[]⟩, ⟨none, 0, []⟩⟩).cells := rpc
 obtain ⟨pc, hpc⟩ : ∃ p, Hid ((Mg.ms ⟨6, v_a, 0, 0, v_b, false, ⟨none, 0, []⟩, Vt.zero, 0, 0, 0, ⟨none, 0, []⟩, ⟨none, 0, []⟩, zeros32, Vt.zero, ⟨none, 0, []⟩, ⟨#[]⟩, ⟨none, 0, []⟩⟩).cells = p) := ⟨_, hide rfl⟩
 simp only [hpc.out] at hpl hip hp1 rpc
 go_upto_region 22 with fail
 try simp only [Act.put]
 refine pl_begin ?_
 refine pl_t 121 (.agg pc.toArray) (by rfl) (ex_mid rfl rfl rpc Tryz.underlying109 rfl hip) rfl ?_
 simp only [nz]
 refine pl_store (w' := w_13.setCells w.heap.size 0 pc) (by rfl) (ex_put (cs := pc.toArray) rfl rfl rfl (by simpa [hpl] using Ve.ans) (by simpa using hip) (all_one hp1)) rfl ?_
 refine pl_nil ?_
 have hlow : Below w.heap.size w_13 (w_13.setCells w.heap.size 0 pc) := below_sets (Nat.le_refl _) pc 0 _ (Below.refl _ w_13)
 have hrs := run_loadVar_mid (P := Tryz.prog) (w_13.setCells w.heap.size 0 pc) w.heap.size 0 109 pc _ (World.rangeAt_setCells_same w_13 w.heap.size 0 pc (by rw [hpl]; exact Ve.ans)) Tryz.underlying109 rfl hip
 have HF : Hid (∃ m : Mg, Ending.returned (.agg pc.toArray) = .returned (.agg m.ms.cells.toArray) ∧ m.pure = (⟨6, v_a, 0, 0, v_b, false, [], Vt.zero, 0, 0, 0, [], [], zeros32, Vt.zero, [], ⟨#[]⟩, []⟩ : Mp) ∧ m.ok ∧ m.At (w_13.setCells w.heap.size 0 pc) ∧ m.Bk (fun b => w.heap.size ≤ b) ∧ RS (w_13.setCells w.heap.size 0 pc) Q R s_b ∧ Kept w R Q (w_13.setCells w.heap.size 0 pc)) := hide ⟨⟨6, v_a, 0, 0, v_b, false, ⟨none, 0, []⟩, Vt.zero, 0, 0, 0, ⟨none, 0, []⟩, ⟨none, 0, []⟩, zeros32, Vt.zero, ⟨none, 0, []⟩, ⟨#[]⟩, ⟨none, 0, []⟩⟩, by rw [hpc.out], rfl, hmo, mg0_at RowsAt.none hds_none RowsAt.none RowsAt.none RowsAt.none, ⟨no_bk, no_bk, no_bk2, no_bk, no_bk, no_bk⟩, Ve.rs.low hlow hQw, Ve.kept.low hlow (Nat.le_refl _)⟩
 clear Ve hlow rpc hpc hmo V_2
 go_wp2_with fail
 refine bodyPost_ret (v := .agg pc.toArray) ?_ rfl ?_
 ·simp [results, Tryz.results46, Act.put, asAddr, hrs]
 ·exact HF.out
set_option maxRecDepth 100000 in
set_option maxHeartbeats 1000000 in
theorem rmsgK7 (Q R : Nat) (s : Rst) (w : World) (h : RS w Q R s) (hl : s.1.length ≤ 40000) (hk : (kiS 8 s).1 = 7) : Calls Tryz.prog 46 #[.pointer (some ⟨Q, 0, none⟩)] w fun en w' => ∃ m : Mg, en = .returned (.agg m.ms.cells.toArray) ∧ m.pure = (mg7 (kiS 8 s).2).1 ∧ m.ok ∧ m.At w' ∧ m.Bk (fun b => w.heap.size ≤ b) ∧ RS w' Q R (mg7 (kiS 8 s).2).2 ∧ Kept w R Q w' := by
 have hRw := h.st.1.1
 have hQw := h.mr.lt
 have ck := fun w0 h0 => kindRS Q R 8 s w0 h0
 have l0 := kiS_len 8 s
 unfold mg7
 generalize kiS 8 s = p_ at ck l0 hk ⊢
 obtain ⟨k, s0⟩ := p_
 simp only at ck l0 hk ⊢
 subst hk
 have c_a := fun w0 h0 => bgetS Q R s0 w0 h0 (by omega)
 have l_a : (baS s0).2.1.length ≤ s0.1.length := baS_len _
 generalize baS s0 = p_ at c_a l_a ⊢
 obtain ⟨⟨q_a, rs_a⟩, s_a⟩ := p_
 simp only at c_a l_a ⊢
 have c_b := fun w0 h0 => rcertS Q R s_a w0 h0 (by omega)
 have l_b : (ceS s_a).2.1.length ≤ s_a.1.length := ceS_len _
 generalize ceS s_a = p_ at c_b l_b ⊢
 obtain ⟨⟨vt_b, sg_b⟩, s_b⟩ := p_
 simp only at c_b l_b ⊢
 obtain ⟨zc, hzl, hzr⟩ : ∃ z : List Value, z.length = 119 ∧ ∀ w : World, (zeroValue 109).run Tryz.prog w = .ok (.agg z.toArray) w := ⟨_, (Ms.plain_ok 0 0 0 Vt.zero_ok zeros32_len zeros32_byte).len, zeroM⟩
 have hbk := build_kind 7
 have hql := (ms0_ok 7).len
 have hq1 := (ms0_ok 7).one
 have hiq : (Tryz.prog.info? 109).map (·.size) = some (Ms.plain 7 0 0 Vt.zero zeros32).cells.length := by rw [hql]; exact iszM
 have hk0 : ∀ (w' : World) b, w'.rangeAt b 0 (Ms.plain 7 0 0 Vt.zero zeros32).cells → w'.cell? ⟨b, 0, none⟩ = some (.int .i64 7) := fun w' b h => ((ms0_ok 7).at h).k
 obtain ⟨qk, hqk⟩ : ∃ q, Hid ((Ms.plain 7 0 0 Vt.zero zeros32).cells = q) := ⟨_, hide rfl⟩
 simp only [hqk.out] at hbk hql hq1 hiq hk0
 obtain ⟨hB1, hr1, hs1⟩ := boxed_new w zc 109
 have ht1 := there_newN w zc.toArray 109 (n := 119) (by simp [hzl])
 go_enter Tryz.func46, Tryz.ntmps46
 go_upto_region 0 with fail
 try simp only [Act.put]
 refine pl_begin ?_
 refine pl_run (d := some 2) (v := .pointer (some ⟨w.heap.size, 0, none⟩)) (w' := w.alloc (.cells zc.toArray 109)) (by rfl) (ex_alloc rfl (hzr _)) rfl ?_
 simp only [nz]
 refine pl_nil ?_
 obtain ⟨W1, hW1⟩ : ∃ W, w.alloc (.cells zc.toArray 109) = W := ⟨_, rfl⟩
 rw [hW1] at hB1 hr1 hs1 ht1 ⊢
 clear hW1 hr1
 have S1 := h.below hB1
 go_upto_region 1 with fail
 try simp only [Act.put]
 refine pl_begin ?_
 refine pl_t 4 (?_) (by rfl) ?_ rfl ?_
 rotate_left
 ·go_simp
  try with_reducible rfl
 simp only [nz]
 refine pl_call (d := some 5) (by rfl) (by go_simp; first | done | exact ⟨rfl, rfl⟩ | with_reducible rfl) rfl ?_
 refine (ck W1 S1).mono ?_
 rintro _ w2 ⟨rfl, S2, k2⟩
 refine ⟨_, rfl, ?_⟩
 simp only [nz]
 refine pl_t 6 (.agg qk.toArray) (by rfl) (ex_build (parts := [(0, .tmp 5)]) rfl rfl (hbk _)) rfl ?_
 simp only [nz]
 refine pl_run (d := some 3) (v := .pointer (some ⟨w2.heap.size, 0, none⟩)) (w' := w2.alloc (.cells zc.toArray 109)) (by rfl) (ex_alloc rfl (hzr _)) rfl ?_
 simp only [nz]
 refine pl_store (w' := (w2.alloc (.cells zc.toArray 109)).setCells w2.heap.size 0 qk) (by rfl) (ex_put (cs := qk.toArray) rfl rfl rfl (there_newN _ _ _ (by simp [hzl, hql])) (by simpa using hiq) (all_one hq1)) rfl ?_
 refine pl_nil ?_
 obtain ⟨hF1, hF2, hF3, -⟩ := fresh_store w2 zc.toArray 109 qk (by simp [hzl, hql])
 have hF4 := World.there_setCells (there_newN w2 zc.toArray 109 (n := 119) (by simp [hzl])) w2.heap.size 0 qk
 obtain ⟨w3, hw3⟩ : ∃ W, (w2.alloc (.cells zc.toArray 109)).setCells w2.heap.size 0 qk = W := ⟨_, rfl⟩
 rw [hw3] at hF1 hF2 hF3 hF4 ⊢
 clear hw3
 have hc0 := hk0 _ _ hF1
 have k3 : Kept w R Q w3 := (((Kept.refl w R Q).below hB1).trans k2).below hF2
 have z2 := k2.size
 rw [← hqk.out] at hF1
 have V3 : MV w Q R w.heap.size w2.heap.size 119 (Ms.plain 7 0 0 Vt.zero zeros32).cells s0 w3 := ⟨hF1, hF4, there_below (there_blk ht1 (k2.block _ hs1 (by omega) (by omega))) hF2 (by omega), k3, S2.below hF2, by have := hF2.size; omega, by omega, Nat.le_refl _, by have := hB1.size; omega, by omega, hRw, hQw⟩
 have hww : w.heap.size < w2.heap.size := by omega
 clear hF1 hF2 hF4 ht1 hB1 S1 S2 k2 k3 hk0 hbk hql hq1 hiq hqk h ck hzr hzl
 go_upto_region 2 with fail
 try simp only [Act.put]
 refine pl_begin ?_
 refine pl_t 7 (?_) (by rfl) ?_ rfl ?_
 rotate_left
 ·go_simp
  try with_reducible rfl
 simp only [nz]
 refine pl_t 8 (.int .i64 7) (by rfl) (pl_one rfl rfl hc0 Tryz.underlying3 rfl) rfl ?_
 simp only [nz]
 refine pl_nil ?_
 clear hc0
 go_upto_region 18 with fail
 try simp only [Act.put]
 refine pl_begin ?_
 refine pl_t 95 (?_) (by rfl) ?_ rfl ?_
 rotate_left
 ·go_simp
  try with_reducible rfl
 simp only [nz]
 refine pl_t 96 (?_) (by rfl) ?_ rfl ?_
 rotate_left
 ·go_simp
  try with_reducible rfl
 simp only [nz]
 refine pl_t 97 (?_) (by rfl) ?_ rfl ?_
 rotate_left
 ·go_simp
  try with_reducible rfl
 simp only [nz]
 refine pl_t 98 (.pointer (some ⟨R, 0, none⟩)) (by rfl) (pl_one rfl rfl V3.rs.mr.c0 Tryz.underlying142 rfl) rfl ?_
 simp only [nz]
 refine pl_call (d := some 99) (by rfl) (by go_simp; first | done | exact ⟨rfl, rfl⟩ | with_reducible rfl) rfl ?_
 refine (c_a w3 V3.rs).mono ?_
 rintro _ w5 ⟨x, rfl, hx, hA, hB, S5, k5⟩
 refine ⟨_, rfl, ?_⟩
 simp only [nz]
 refine pl_t 100 (?_) (by rfl) ?_ rfl ?_
 rotate_left
 ·go_simp
  try with_reducible rfl
 simp only [nz]
 refine pl_call (d := some 101) (by rfl) (by go_simp; first | done | exact ⟨rfl, rfl⟩ | with_reducible rfl) rfl ?_
 refine (c_b w5 S5).mono ?_
 rintro _ w6 ⟨y, rfl, hy, hC, hD, hvt, S6, k6⟩
 refine ⟨_, rfl, ?_⟩
 simp only [nz]
 refine pl_t 102 (?_) (by rfl) ?_ rfl ?_
 rotate_left
 ·go_simp
  try with_reducible rfl
 simp only [nz]
 have lb := V3.lb
 have la := V3.la
 have na := V3.kept.size
 have z5 := k5.size
 have V6 := (V3.on k5 S5).on k6 S6
 have hA5 : x.At RqE w6 := hA.kept k6 (n := w3.heap.size) (by omega) (by omega) hB (fun b hb => hb.1)
 have Va := V6.set 5 [.bool q_a, x.val] (put_b q_a x.val V6.row (V6.part 5 2 (by decide)))
 refine pl_store (w' := w6.setCells w2.heap.size 5 [.bool q_a, x.val]) (by rfl) (ex_put (cs := #[.bool q_a, x.val]) rfl rfl rfl (V6.part 5 2 (by decide)) iszBa (by simp [Value.oneCell', Sl.val])) rfl ?_
 have hA6 := hA5.put (B := w2.heap.size) (o := 5) (vs := [.bool q_a, x.val]) hB (fun b hb => by omega)
 have hC6 := hC.put (B := w2.heap.size) (o := 5) (vs := [.bool q_a, x.val]) hD (fun b hb => by omega)
 obtain ⟨wd, hwd⟩ : ∃ W, w6.setCells w2.heap.size 5 [.bool q_a, x.val] = W := ⟨_, rfl⟩
 rw [hwd] at Va hA6 hC6 ⊢
 clear hwd
 refine pl_t 103 (?_) (by rfl) ?_ rfl ?_
 rotate_left
 ·go_simp
  try with_reducible rfl
 simp only [nz]
 have hcl : (certL vt_b y).length = 37 := by have := hvt.len; simp [certL]; omega
 have hc1 : ∀ v ∈ certL vt_b y, v.oneCell' = true := fun v hv => by
  rcases List.mem_append.1 hv with g | g
  ·exact Vt.one vt_b v g
  ·rw [List.mem_singleton.1 g]; rfl
 have Ve := Va.set 80 (certL vt_b y) (put_ct vt_b y.val hvt Vt.zero_ok zeros32_len Vt.zero_ok Va.row (Va.part 80 37 (by decide)))
 refine pl_store (w' := wd.setCells w2.heap.size 80 (certL vt_b y)) (by rfl) (ex_put (cs := (certL vt_b y).toArray) rfl rfl rfl (by simpa [hcl] using Va.part 80 37 (by decide)) (by simpa [hcl] using iszCe) (all_one hc1)) rfl ?_
 refine pl_nil ?_
 have hA7 := hA6.put (B := w2.heap.size) (o := 80) (vs := certL vt_b y) hB (fun b hb => by omega)
 have hC7 := hC6.put (B := w2.heap.size) (o := 80) (vs := certL vt_b y) hD (fun b hb => by omega)
 obtain ⟨we, hwe⟩ : ∃ W, wd.setCells w2.heap.size 80 (certL vt_b y) = W := ⟨_, rfl⟩
 rw [hwe] at Ve hA7 hC7 ⊢
 clear hwe
 clear Va V6 V3 S5 S6 k5 k6 hA hC hA5 hA6 hC6
 have rpc := Ve.row
 have hmo : Mg.ok ⟨7, 0, 0, 0, 0, q_a, x, Vt.zero, 0, 0, 0, ⟨none, 0, []⟩, ⟨none, 0, []⟩, zeros32, vt_b, y, ⟨#[]⟩, ⟨none, 0, []⟩⟩ := ⟨Vt.zero_ok, hvt, zeros32_len, zeros32_byte⟩
 have hpl : (Mg.ms ⟨7, 0, 0, 0, 0, q_a, x, Vt.zero, 0, 0, 0, ⟨none, 0, []⟩, ⟨none, 0, []⟩, zeros32, vt_b, y, ⟨#[]⟩, ⟨none, 0, []⟩⟩).cells.length = 119 := hmo.ms.len
 have hp1 := hmo.ms.one
 have hip : (Tryz.prog.info? 109).map (·.size) = some (Mg.ms ⟨7, 0, 0, 0, 0, q_a, x, Vt.zero, 0, 0, 0, ⟨none, 0, []⟩, ⟨none, 0, []⟩, zeros32, vt_b, y, ⟨#[]⟩, ⟨none, 0, []⟩⟩).cells.length := by rw [hpl]; exact iszM
 have rpc : we.rangeAt w2.heap.size 0 (Mg.ms ⟨7, 0, 0, 0, 0, q_a, x, Vt.zero, 0, 0, 0, ⟨none, 0, []⟩, ⟨none, 0, []⟩, zeros32, vt_b, y, ⟨#[]⟩, ⟨none, 0, []⟩⟩).cells := rpc
 obtain ⟨pc, hpc⟩ : ∃ p, Hid ((Mg.ms ⟨7, 0, 0, 0, 0, q_a, x, Vt.zero, 0, 0, 0, ⟨none, 0, []⟩, ⟨none, 0, []⟩, zeros32, vt_b, y, ⟨#[]⟩, ⟨none, 0, []⟩⟩).cells = p) := ⟨_, hide rfl⟩
 simp only [hpc.out] at hpl hip hp1 rpc
 go_upto_region 22 with fail
 try simp only [Act.put]
 refine pl_begin ?_
 refine pl_t 121 (.agg pc.toArray) (by rfl) (ex_mid rfl rfl rpc Tryz.underlying109 rfl hip) rfl ?_
 simp only [nz]
 refine pl_store (w' := we.setCells w.heap.size 0 pc) (by rfl) (ex_put (cs := pc.toArray) rfl rfl rfl (by simpa [hpl] using Ve.ans) (by simpa using hip) (all_one hp1)) rfl ?_
 refine pl_nil ?_
 have hlow : Below w.heap.size we (we.setCells w.heap.size 0 pc) := below_sets (Nat.le_refl _) pc 0 _ (Below.refl _ we)
 have hrs := run_loadVar_mid (P := Tryz.prog) (we.setCells w.heap.size 0 pc) w.heap.size 0 109 pc _ (World.rangeAt_setCells_same we w.heap.size 0 pc (by rw [hpl]; exact Ve.ans)) Tryz.underlying109 rfl hip
 have HF : Hid (∃ m : Mg, Ending.returned (.agg pc.toArray) = .returned (.agg m.ms.cells.toArray) ∧ m.pure = (⟨7, 0, 0, 0, 0, q_a, rs_a, Vt.zero, 0, 0, 0, [], [], zeros32, vt_b, sg_b, ⟨#[]⟩, []⟩ : Mp) ∧ m.ok ∧ m.At (we.setCells w.heap.size 0 pc) ∧ m.Bk (fun b => w.heap.size ≤ b) ∧ RS (we.setCells w.heap.size 0 pc) Q R s_b ∧ Kept w R Q (we.setCells w.heap.size 0 pc)) := hide ⟨⟨7, 0, 0, 0, 0, q_a, x, Vt.zero, 0, 0, 0, ⟨none, 0, []⟩, ⟨none, 0, []⟩, zeros32, vt_b, y, ⟨#[]⟩, ⟨none, 0, []⟩⟩, by rw [hpc.out], by rw [← hx, ← hy]; rfl, hmo, mg0_at (hA7.put hB (fun b hb => by omega)) hds_none RowsAt.none (hC7.put hD (fun b hb => by omega)) RowsAt.none, ⟨hB.mono (fun b hb => by omega), no_bk, no_bk2, no_bk, hD.mono (fun b hb => by omega), no_bk⟩, Ve.rs.low hlow hQw, Ve.kept.low hlow (Nat.le_refl _)⟩
 clear Ve hlow rpc hpc hmo hA7 hC7 hB hD hx hy
 go_wp2_with fail
 refine bodyPost_ret (v := .agg pc.toArray) ?_ rfl ?_
 ·simp [results, Tryz.results46, Act.put, asAddr, hrs]
 ·exact HF.out
end Go.Proofs.YtilbjeeabecfjaaGreat
