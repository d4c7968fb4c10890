/- the reader's kinds and votes; the reader's votes; the document's reader: tags and digests; the document's reader: votes -/
import Derived.Test.YtgjalkbianpibaaGreatJD5
namespace Go.Proofs.YtgjalkbianpibaaGreat
open Go.RowKit
open Sha Tal
set_option linter.unusedVariables false
set_option linter.unusedSimpArgs false
theorem there_part1 {w : World} {b n o m : Nat} (h : w.there b 0 n) (hm : o + m ≤ n) : w.there b o m := fun j hj => by
  have := h (o + j) (by omega)
  rwa [Nat.zero_add] at this
theorem ex_put1 {P : Program} {o : Oper} {a : Act} {w : World} {ty : TypeId} {x y : Operand} {b off n : Nat} {v : Value} (ho : o.op = .store ty x y) (hx : a.eval x = .pointer (some ⟨b, off, none⟩)) (hy : a.eval y = v) (ht : w.there b 0 n) (hn : off < n) (hi : (P.info? ty).map (·.size) = some 1) (hvc : v.cells = #[v]) (h1 : v.oneCell' = true) : (execOp a.eval o).run P w = .ok .skip (w.setCells b off [v]) := by
  refine exec_store ho hx hy ?_
  have e : storeVar ty ⟨b, off, none⟩ v = storeVar ty ⟨b, off, none⟩ (.agg #[v]) := by unfold storeVar; rw [hvc]; rfl
  rw [e, run_storeVar_mid w b off ty #[v] (there_part1 ht (by simp; omega)) hi (by simpa using h1)]
theorem Kept.of {w W : World} {R Q : Nat} (hg : w.grownBy W (some R)) : Kept w R Q W := (Kept.refl w R Q).gb hg (.inl rfl)
theorem Kept.trans {w W W' : World} {R Q : Nat} (h : Kept w R Q W) (k : Kept W R Q W') : Kept w R Q W' :=
  ⟨k.os.trans h.os, k.tape.trans h.tape, k.output.trans h.output, Nat.le_trans h.size k.size, fun i hi k1 k2 => (k.block i (Nat.lt_of_lt_of_le hi h.size) k1 k2).trans (h.block i hi k1 k2)⟩
theorem Kept.newSets {w W : World} {R Q b : Nat} (h : Kept w R Q W) (hb : w.heap.size ≤ b) (o : Nat) (vs : List Value) : Kept w R Q (W.setCells b o vs) :=
  h.gb (gb_setsR W b vs o) (.inr (.inr hb))
theorem MrAt.zero {w : World} {Q R : Nat} {z : Bool} (h : MrAt w Q R z) : MrAt (w.setCells Q 1 [.bool true]) Q R true := by
  have h1 := h.lt
  have hT : w.there Q 1 [Value.bool true].length := fun j hj => by
    obtain rfl : j = 0 := by simp at hj; omega
    exact ⟨by show (w.cell? ⟨Q, 1, none⟩).isSome = true; rw [h.c1]; rfl, h.f1⟩
  refine ⟨by rw [size_sets]; exact h1, h.ne, ?_, ?_, ?_⟩
  · have hr : w.rangeAt Q 0 [.pointer (some ⟨R, 0, none⟩)] := fun j v hv => by
      match j, hv with
      | 0, hv => cases hv; exact h.c0
    exact (World.rangeAt_setCells_apart hr Q 1 [.bool true] (.inr (.inl (by simp)))) 0 _ rfl
  · exact World.rangeAt_setCells_same w Q 1 [.bool true] hT 0 _ rfl
  · exact (World.there_setCells hT Q 1 [.bool true] 0 (by simp)).2
/-- a kind that is read: is it 0, and no error? -/
def kdZ (rest : List Int) (e most : Int) (z : Bool) : Bool := if (numS rest e most).1 == 0 then (if (numS rest e most).2.2 == 0 then true else z) else z
set_option maxRecDepth 100000 in
set_option maxHeartbeats 1000000 in
theorem rkind_any (Q R : Nat) (z : Bool) (rest : List Int) (e most : Int) (w : World) (h : St w R rest e) (hq : MrAt w Q R z) (thQ0 : w.there Q 0 2) : Calls Tryz.prog 78 #[.pointer (some ⟨Q, 0, none⟩), .int .i64 most] w fun en w' => en = .returned (.int .i64 (numS rest e most).1) ∧ St w' R (numS rest e most).2.1 (numS rest e most).2.2 ∧ MrAt w' Q R (kdZ rest e most z) ∧ Kept w R Q w' ∧ w'.there Q 0 2 := by
  have cn := num_any R rest e most w h
  unfold kdZ
  obtain ⟨v1, hv1⟩ : ∃ x, (numS rest e most).1 = x := ⟨_, rfl⟩
  obtain ⟨r1, hr1⟩ : ∃ x, (numS rest e most).2.1 = x := ⟨_, rfl⟩
  obtain ⟨e1, he1⟩ : ∃ x, (numS rest e most).2.2 = x := ⟨_, rfl⟩
  simp only [hv1, hr1, he1] at cn ⊢
  clear hv1 hr1 he1
  obtain ⟨b0, hb0⟩ : ∃ b, Hid ((v1 == 0) = b) := ⟨_, hide rfl⟩
  obtain ⟨b1, hb1⟩ : ∃ b, Hid ((e1 == 0) = b) := ⟨_, hide rfl⟩
  rw [hb0.out, hb1.out]
  obtain ⟨zz, hzz⟩ : ∃ x : Bool, Hid ((if b0 = true then (if b1 = true then true else z) else z) = x) := ⟨_, hide rfl⟩
  rw [hzz.out]
  have hQl := hq.lt
  have hne := hq.ne
  go_enter Tryz.func78, Tryz.ntmps78
  go_upto_region 1 with fail
  try simp only [Act.put]
  refine pl_begin ?_
  refine pl_take (d := some 6) (v := ?_) (by rfl) ?_ rfl ?_
  rotate_left
  · go_simp
    try with_reducible rfl
  simp only [Act.put, List.setIfInBounds_toArray, List.set_cons_zero, List.set_cons_succ]
  refine pl_take (d := some 7) (v := ?_) (by rfl) ?_ rfl ?_
  rotate_left
  · go_simp
    try with_reducible rfl
  simp only [Act.put, List.setIfInBounds_toArray, List.set_cons_zero, List.set_cons_succ]
  refine pl_take (d := some 8) (v := ?_) (by rfl) ?_ rfl ?_
  rotate_left
  · go_simp
    try with_reducible rfl
  simp only [Act.put, List.setIfInBounds_toArray, List.set_cons_zero, List.set_cons_succ]
  refine pl_take (d := some 9) (v := .pointer (some ⟨R, 0, none⟩)) (by rfl) (pl_one rfl rfl hq.c0 Tryz.underlying122 rfl) rfl ?_
  simp only [Act.put, List.setIfInBounds_toArray, List.set_cons_zero, List.set_cons_succ]
  refine pl_take (d := some 10) (v := ?_) (by rfl) ?_ rfl ?_
  rotate_left
  · go_simp
    try with_reducible rfl
  simp only [Act.put, List.setIfInBounds_toArray, List.set_cons_zero, List.set_cons_succ]
  refine pl_call (d := some 11) (by rfl) (by go_simp; first | done | exact ⟨rfl, rfl⟩ | with_reducible rfl) rfl ?_
  refine (cn).mono ?_
  rintro _ w2 ⟨rfl, st2, g2⟩
  refine ⟨_, rfl, ?_⟩
  simp only [Act.put, List.setIfInBounds_toArray, List.set_cons_zero, List.set_cons_succ]
  refine pl_take (d := some 5) (v := ?_) (by rfl) ?_ rfl ?_
  rotate_left
  · go_simp
    try with_reducible rfl
  simp only [Act.put, List.setIfInBounds_toArray, List.set_cons_zero, List.set_cons_succ]
  refine pl_nil ?_
  have hq2 := hq.gb g2
  have thQ := there_gbR thQ0 g2 hQl (by omega)
  clear cn
  go_upto_region 2 with fail
  try simp only [Act.put]
  refine pl_begin ?_
  refine pl_take (d := some 12) (v := ?_) (by rfl) ?_ rfl ?_
  rotate_left
  · go_simp
    try with_reducible rfl
  simp only [Act.put, List.setIfInBounds_toArray, List.set_cons_zero, List.set_cons_succ]
  refine pl_take (d := some 13) (v := .bool b0) (by rfl) (by rw [← hb0.out]; go_simp) rfl ?_
  simp only [Act.put, List.setIfInBounds_toArray, List.set_cons_zero, List.set_cons_succ]
  cases b0
  · refine pl_take (d := some 14) (v := ?_) (by rfl) ?_ rfl ?_
    rotate_left
    · go_simp
      try with_reducible rfl
    simp only [Act.put, List.setIfInBounds_toArray, List.set_cons_zero, List.set_cons_succ]
    refine pl_skip (d := some 15) (by rfl) rfl ?_
    simp only [Act.put, List.setIfInBounds_toArray, List.set_cons_zero, List.set_cons_succ]
    refine pl_skip (d := some 16) (by rfl) rfl ?_
    simp only [Act.put, List.setIfInBounds_toArray, List.set_cons_zero, List.set_cons_succ]
    refine pl_skip (d := some 17) (by rfl) rfl ?_
    simp only [Act.put, List.setIfInBounds_toArray, List.set_cons_zero, List.set_cons_succ]
    refine pl_skip (d := some 18) (by rfl) rfl ?_
    simp only [Act.put, List.setIfInBounds_toArray, List.set_cons_zero, List.set_cons_succ]
    refine pl_skip (d := some 19) (by rfl) rfl ?_
    simp only [Act.put, List.setIfInBounds_toArray, List.set_cons_zero, List.set_cons_succ]
    refine pl_skip (d := some 20) (by rfl) rfl ?_
    simp only [Act.put, List.setIfInBounds_toArray, List.set_cons_zero, List.set_cons_succ]
    refine pl_take (d := some 21) (v := ?_) (by rfl) ?_ rfl ?_
    rotate_left
    · go_simp
      try with_reducible rfl
    simp only [Act.put, List.setIfInBounds_toArray, List.set_cons_zero, List.set_cons_succ]
    refine pl_nil ?_
    have HF : Hid (St w2 R r1 e1 ∧ MrAt w2 Q R z ∧ Kept w R Q w2 ∧ w2.there Q 0 2) := hide ⟨st2, hq2, Kept.of g2, thQ⟩
    go_wp2_with fail
    go_ret
    have e := hzz.out; simp at e; subst e; exact ⟨rfl, HF.out⟩
  · refine pl_take (d := some 14) (v := ?_) (by rfl) ?_ rfl ?_
    rotate_left
    · go_simp
      try with_reducible rfl
    simp only [Act.put, List.setIfInBounds_toArray, List.set_cons_zero, List.set_cons_succ]
    refine pl_take (d := some 15) (v := ?_) (by rfl) ?_ rfl ?_
    rotate_left
    · go_simp
      try with_reducible rfl
    simp only [Act.put, List.setIfInBounds_toArray, List.set_cons_zero, List.set_cons_succ]
    refine pl_take (d := some 16) (v := ?_) (by rfl) ?_ rfl ?_
    rotate_left
    · go_simp
      try with_reducible rfl
    simp only [Act.put, List.setIfInBounds_toArray, List.set_cons_zero, List.set_cons_succ]
    refine pl_take (d := some 17) (v := ?_) (by rfl) ?_ rfl ?_
    rotate_left
    · go_simp
      try with_reducible rfl
    simp only [Act.put, List.setIfInBounds_toArray, List.set_cons_zero, List.set_cons_succ]
    refine pl_take (d := some 18) (v := .pointer (some ⟨R, 0, none⟩)) (by rfl) (pl_one rfl rfl hq2.c0 Tryz.underlying122 rfl) rfl ?_
    simp only [Act.put, List.setIfInBounds_toArray, List.set_cons_zero, List.set_cons_succ]
    refine pl_call (d := some 19) (by rfl) (by go_simp; first | done | exact ⟨rfl, rfl⟩ | with_reducible rfl) rfl ?_
    refine (err_made R e1 w2 st2.1).mono ?_
    rintro _ w3 ⟨rfl, hx⟩
    obtain rfl := hx.symm
    clear hx
    refine ⟨_, rfl, ?_⟩
    simp only [Act.put, List.setIfInBounds_toArray, List.set_cons_zero, List.set_cons_succ]
    refine pl_take (d := some 20) (v := .bool b1) (by rfl) (by rw [← hb1.out]; go_simp) rfl ?_
    simp only [Act.put, List.setIfInBounds_toArray, List.set_cons_zero, List.set_cons_succ]
    cases b1
    · refine pl_take (d := some 21) (v := ?_) (by rfl) ?_ rfl ?_
      rotate_left
      · go_simp
        try with_reducible rfl
      simp only [Act.put, List.setIfInBounds_toArray, List.set_cons_zero, List.set_cons_succ]
      refine pl_nil ?_
      have HF : Hid (St w2 R r1 e1 ∧ MrAt w2 Q R z ∧ Kept w R Q w2 ∧ w2.there Q 0 2) := hide ⟨st2, hq2, Kept.of g2, thQ⟩
      go_wp2_with fail
      go_ret
      have e := hzz.out; simp at e; subst e; exact ⟨rfl, HF.out⟩
    · refine pl_take (d := some 21) (v := ?_) (by rfl) ?_ rfl ?_
      rotate_left
      · go_simp
        try with_reducible rfl
      simp only [Act.put, List.setIfInBounds_toArray, List.set_cons_zero, List.set_cons_succ]
      refine pl_nil ?_
      go_upto_region 3 with fail
      try simp only [Act.put]
      refine pl_begin ?_
      refine pl_take (d := some 22) (v := ?_) (by rfl) ?_ rfl ?_
      rotate_left
      · go_simp
        try with_reducible rfl
      simp only [Act.put, List.setIfInBounds_toArray, List.set_cons_zero, List.set_cons_succ]
      refine pl_take (d := some 23) (v := ?_) (by rfl) ?_ rfl ?_
      rotate_left
      · go_simp
        try with_reducible rfl
      simp only [Act.put, List.setIfInBounds_toArray, List.set_cons_zero, List.set_cons_succ]
      refine pl_take (d := some 24) (v := ?_) (by rfl) ?_ rfl ?_
      rotate_left
      · go_simp
        try with_reducible rfl
      simp only [Act.put, List.setIfInBounds_toArray, List.set_cons_zero, List.set_cons_succ]
      refine pl_store (w' := w2.setCells Q 1 [.bool true]) (by rfl) (ex_put1 (n := 2) rfl rfl rfl thQ (by decide) (by kernel_rfl) rfl rfl) rfl ?_
      refine pl_nil ?_
      have HF : Hid (St (w2.setCells Q 1 [.bool true]) R r1 e1 ∧ MrAt (w2.setCells Q 1 [.bool true]) Q R true ∧ Kept w R Q (w2.setCells Q 1 [.bool true]) ∧ (w2.setCells Q 1 [.bool true]).there Q 0 2) := hide ⟨st2.gb (gb_setsR w2 Q _ _) hq2.ne, hq2.zero, (Kept.of g2).gb (gb_setsR w2 Q _ _) (.inr (.inl rfl)), World.there_setCells thQ _ _ _⟩
      go_wp2_with fail
      go_ret
      have e := hzz.out; simp at e; subst e; exact ⟨rfl, HF.out⟩
end Go.Proofs.YtgjalkbianpibaaGreat
namespace Go.Proofs.YtgjalkbianpibaaGreat
open Go.RowKit
open Sha Tal
set_option linter.unusedVariables false
set_option linter.unusedSimpArgs false
theorem Kept.blk {w W : World} {R Q b : Nat} (h : Kept w R Q W) (hb : b < w.heap.size) (h1 : b ≠ R) (h2 : b ≠ Q) : W.heap[b]? = w.heap[b]? := h.block b hb h1 h2
theorem range_blk {w w' : World} {b o : Nat} {cs : List Value} (h : w.rangeAt b o cs) (hb : w'.heap[b]? = w.heap[b]?) : w'.rangeAt b o cs := fun j v hv => by
  rw [(@cell_block w w' b (o + j) hb).1]
  exact h j v hv
/-- what is read lies in the block B; the answer will lie in the block A -/
structure VS (w : World) (Q R A B n : Nat) (q : List Value) (z : Bool) (W : World) : Prop where
  row : W.rangeAt B 0 q
  box : W.there B 0 n
  ans : W.there A 0 n
  kept : Kept w R Q W
  mr : MrAt W Q R z
  qt : W.there Q 0 2
  la : A < W.heap.size
  lb : B < W.heap.size
  na : w.heap.size ≤ A
  nb : w.heap.size ≤ B
  ne : A ≠ B
  rq : R < w.heap.size ∧ Q < w.heap.size
theorem VS.on {w W W' : World} {Q R A B n : Nat} {q : List Value} {z z' : Bool} (h : VS w Q R A B n q z W) (k : Kept W R Q W') (m : MrAt W' Q R z') (t : W'.there Q 0 2) : VS w Q R A B n q z' W' := by
  have h1 := h.na
  have h2 := h.nb
  have h3 := h.rq
  exact ⟨range_blk h.row (k.blk h.lb (by omega) (by omega)), there_blk h.box (k.blk h.lb (by omega) (by omega)), there_blk h.ans (k.blk h.la (by omega) (by omega)), h.kept.trans k, m, t, Nat.lt_of_lt_of_le h.la k.size, Nat.lt_of_lt_of_le h.lb k.size, h1, h2, h.ne, h3⟩
theorem VS.gb {w W W' : World} {Q R A B n : Nat} {q : List Value} {z : Bool} (h : VS w Q R A B n q z W) (g : W.grownBy W' (some R)) : VS w Q R A B n q z W' :=
  h.on (Kept.of g) (h.mr.gb g) (there_gbR h.qt g h.mr.lt (by have := h.mr.ne; omega))
theorem VS.set {w W : World} {Q R A B n : Nat} {q q' : List Value} {z : Bool} (h : VS w Q R A B n q z W) (o : Nat) (vs : List Value) (hq : (W.setCells B o vs).rangeAt B 0 q') : VS w Q R A B n q' z (W.setCells B o vs) := by
  have h1 := h.na
  have h2 := h.nb
  have h3 := h.rq
  exact ⟨hq, World.there_setCells h.box _ _ _, World.there_setCells h.ans _ _ _, h.kept.newSets h2 _ _, h.mr.at (blk_sets (by omega)) (by rw [size_sets]; exact Nat.le_refl _), World.there_setCells h.qt _ _ _, by rw [size_sets]; exact h.la, by rw [size_sets]; exact h.lb, h1, h2, h.ne, h3⟩
theorem VS.drew {w W : World} {Q R A B n : Nat} {q : List Value} {z : Bool} (h : VS w Q R A B n q z W) : VS w Q R A B n q z W.drew :=
  ⟨(World.rangeAt_drew _ _ _ _).2 h.row, h.box, h.ans, h.kept.below ((Below.refl _ _).drew), h.mr.below ((Below.refl _ _).drew), h.qt, h.la, h.lb, h.na, h.nb, h.ne, h.rq⟩
theorem VS.st {w W : World} {Q R A B n o : Nat} {q vs rest : List Value} {z : Bool} {zs : List Int} {e : Int} (h : VS w Q R A B n q z W) (hs : St W R zs e) : St (W.setCells B o vs) R zs e :=
  hs.gb (gb_setsR W B vs o) (by have := h.nb; have := h.rq; omega)
/-- a vote that is read -/
def vtS (rest : List Int) (e : Int) : Vt × List Int × Int :=
  let x0 := numS rest e 2
  let x1 := numS x0.2.1 x0.2.2 1048576
  let x2 := numS x1.2.1 x1.2.2 1099511627776
  let x3 := numS x2.2.1 x2.2.2 1099511627776
  let x4 := rawS x3.2.1 x3.2.2 32
  (⟨x0.1, x1.1, x2.1, x3.1, padN 32 x4.1⟩, x4.2.1, x4.2.2)
theorem vtS_len (rest : List Int) (e : Int) : (vtS rest e).2.1.length ≤ rest.length := Nat.le_trans (rawS_len _ _ _) (Nat.le_trans (numS_len _ _ _) (Nat.le_trans (numS_len _ _ _) (Nat.le_trans (numS_len _ _ _) (numS_len _ _ _))))
theorem vt_put {W : World} {B : Nat} {a b c d : Value} {t : List Value} (h : W.rangeAt B 0 (a :: b :: c :: d :: t)) (x : Value) :
    (W.setCells B 0 [x]).rangeAt B 0 (x :: b :: c :: d :: t) ∧ (W.setCells B 1 [x]).rangeAt B 0 (a :: x :: c :: d :: t) ∧ (W.setCells B 2 [x]).rangeAt B 0 (a :: b :: x :: d :: t) ∧ (W.setCells B 3 [x]).rangeAt B 0 (a :: b :: c :: x :: t) := by
  have k0 := range_set h 0 x
  have k1 := range_set h 1 x
  have k2 := range_set h 2 x
  have k3 := range_set h 3 x
  exact ⟨k0, k1, k2, k3⟩
theorem zeroVt : ∃ z : List Value, (∀ w : World, (zeroValue 28).run Tryz.prog w = .ok (.agg z.toArray) w) ∧ z.length = 36 ∧ ∃ t, t.length = 32 ∧ z = .int .i64 0 :: .int .i64 0 :: .int .i64 0 :: .int .i64 0 :: t := ⟨Vt.zero.cells, fun w => by kernel_rfl, by decide, _, by decide, rfl⟩
theorem range_tail4 {W : World} {B : Nat} {a b c d : Value} {t dv : List Value} (h : W.rangeAt B 0 (a :: b :: c :: d :: t)) (hT : W.there B 4 dv.length) : (W.setCells B 4 dv).rangeAt B 0 (a :: b :: c :: d :: dv) := by
  have h1 : W.rangeAt B 0 ([a, b, c, d] ++ t) := h
  have k1 := World.rangeAt_setCells_apart (range_left h1) B 4 dv (.inr (.inl (by simp)))
  have k2 := World.rangeAt_setCells_same W B 4 dv hT
  exact range_join (cs := [a, b, c, d]) k1 k2
set_option maxRecDepth 100000 in
set_option maxHeartbeats 1000000 in
theorem rvote_any (Q R : Nat) (z : Bool) (rest : List Int) (e : Int) (w : World) (h : St w R rest e) (hq : MrAt w Q R z) (thQ : w.there Q 0 2) (hl : rest.length ≤ 40000) : Calls Tryz.prog 81 #[.pointer (some ⟨Q, 0, none⟩)] w fun en w' => en = .returned (.agg (vtS rest e).1.cells.toArray) ∧ St w' R (vtS rest e).2.1 (vtS rest e).2.2 ∧ MrAt w' Q R (kdZ rest e 2 z) ∧ Kept w R Q w' ∧ w'.there Q 0 2 := by
  obtain ⟨zc, hzr, hzl, tz, htl, hzc⟩ := zeroVt
  have hRw := h.1.1
  have hQw := hq.lt
  obtain ⟨z1, hz1⟩ : ∃ x, kdZ rest e 2 z = x := ⟨_, rfl⟩
  have ck := fun w0 h0 m0 t0 => rkind_any Q R z rest e 2 w0 h0 m0 t0
  have l0 := numS_len rest e 2
  simp only [hz1] at ck ⊢
  clear hz1
  show Calls Tryz.prog 81 _ w fun en w' => en = .returned (.agg (Vt.cells ⟨(numS rest e 2).1, (numS (numS rest e 2).2.1 (numS rest e 2).2.2 1048576).1, (numS (numS (numS rest e 2).2.1 (numS rest e 2).2.2 1048576).2.1 (numS (numS rest e 2).2.1 (numS rest e 2).2.2 1048576).2.2 1099511627776).1, (numS (numS (numS (numS rest e 2).2.1 (numS rest e 2).2.2 1048576).2.1 (numS (numS rest e 2).2.1 (numS rest e 2).2.2 1048576).2.2 1099511627776).2.1 (numS (numS (numS rest e 2).2.1 (numS rest e 2).2.2 1048576).2.1 (numS (numS rest e 2).2.1 (numS rest e 2).2.2 1048576).2.2 1099511627776).2.2 1099511627776).1, padN 32 (rawS (numS (numS (numS (numS rest e 2).2.1 (numS rest e 2).2.2 1048576).2.1 (numS (numS rest e 2).2.1 (numS rest e 2).2.2 1048576).2.2 1099511627776).2.1 (numS (numS (numS rest e 2).2.1 (numS rest e 2).2.2 1048576).2.1 (numS (numS rest e 2).2.1 (numS rest e 2).2.2 1048576).2.2 1099511627776).2.2 1099511627776).2.1 (numS (numS (numS (numS rest e 2).2.1 (numS rest e 2).2.2 1048576).2.1 (numS (numS rest e 2).2.1 (numS rest e 2).2.2 1048576).2.2 1099511627776).2.1 (numS (numS (numS rest e 2).2.1 (numS rest e 2).2.2 1048576).2.1 (numS (numS rest e 2).2.1 (numS rest e 2).2.2 1048576).2.2 1099511627776).2.2 1099511627776).2.2 32).1⟩).toArray) ∧ St w' R (rawS (numS (numS (numS (numS rest e 2).2.1 (numS rest e 2).2.2 1048576).2.1 (numS (numS rest e 2).2.1 (numS rest e 2).2.2 1048576).2.2 1099511627776).2.1 (numS (numS (numS rest e 2).2.1 (numS rest e 2).2.2 1048576).2.1 (numS (numS rest e 2).2.1 (numS rest e 2).2.2 1048576).2.2 1099511627776).2.2 1099511627776).2.1 (numS (numS (numS (numS rest e 2).2.1 (numS rest e 2).2.2 1048576).2.1 (numS (numS rest e 2).2.1 (numS rest e 2).2.2 1048576).2.2 1099511627776).2.1 (numS (numS (numS rest e 2).2.1 (numS rest e 2).2.2 1048576).2.1 (numS (numS rest e 2).2.1 (numS rest e 2).2.2 1048576).2.2 1099511627776).2.2 1099511627776).2.2 32).2.1 (rawS (numS (numS (numS (numS rest e 2).2.1 (numS rest e 2).2.2 1048576).2.1 (numS (numS rest e 2).2.1 (numS rest e 2).2.2 1048576).2.2 1099511627776).2.1 (numS (numS (numS rest e 2).2.1 (numS rest e 2).2.2 1048576).2.1 (numS (numS rest e 2).2.1 (numS rest e 2).2.2 1048576).2.2 1099511627776).2.2 1099511627776).2.1 (numS (numS (numS (numS rest e 2).2.1 (numS rest e 2).2.2 1048576).2.1 (numS (numS rest e 2).2.1 (numS rest e 2).2.2 1048576).2.2 1099511627776).2.1 (numS (numS (numS rest e 2).2.1 (numS rest e 2).2.2 1048576).2.1 (numS (numS rest e 2).2.1 (numS rest e 2).2.2 1048576).2.2 1099511627776).2.2 1099511627776).2.2 32).2.2 ∧ MrAt w' Q R z1 ∧ Kept w R Q w' ∧ w'.there Q 0 2
  obtain ⟨v0, hv0⟩ : ∃ x, (numS rest e 2).1 = x := ⟨_, rfl⟩
  obtain ⟨r0, hr0⟩ : ∃ x, (numS rest e 2).2.1 = x := ⟨_, rfl⟩
  obtain ⟨e0, he0⟩ : ∃ x, (numS rest e 2).2.2 = x := ⟨_, rfl⟩
  simp only [hv0, hr0, he0] at ck l0 ⊢
  clear hv0 hr0 he0
  have l1 := numS_len r0 e0 1048576
  have c1 := fun w0 h0 => num_any R r0 e0 1048576 w0 h0
  obtain ⟨v1, hv1⟩ : ∃ x, (numS r0 e0 1048576).1 = x := ⟨_, rfl⟩
  obtain ⟨r1, hr1⟩ : ∃ x, (numS r0 e0 1048576).2.1 = x := ⟨_, rfl⟩
  obtain ⟨e1, he1⟩ : ∃ x, (numS r0 e0 1048576).2.2 = x := ⟨_, rfl⟩
  simp only [hv1, hr1, he1] at c1 l1 ⊢
  clear hv1 hr1 he1
  have l2 := numS_len r1 e1 1099511627776
  have c2 := fun w0 h0 => num_any R r1 e1 1099511627776 w0 h0
  obtain ⟨v2, hv2⟩ : ∃ x, (numS r1 e1 1099511627776).1 = x := ⟨_, rfl⟩
  obtain ⟨r2, hr2⟩ : ∃ x, (numS r1 e1 1099511627776).2.1 = x := ⟨_, rfl⟩
  obtain ⟨e2, he2⟩ : ∃ x, (numS r1 e1 1099511627776).2.2 = x := ⟨_, rfl⟩
  simp only [hv2, hr2, he2] at c2 l2 ⊢
  clear hv2 hr2 he2
  have l3 := numS_len r2 e2 1099511627776
  have c3 := fun w0 h0 => num_any R r2 e2 1099511627776 w0 h0
  obtain ⟨v3, hv3⟩ : ∃ x, (numS r2 e2 1099511627776).1 = x := ⟨_, rfl⟩
  obtain ⟨r3, hr3⟩ : ∃ x, (numS r2 e2 1099511627776).2.1 = x := ⟨_, rfl⟩
  obtain ⟨e3, he3⟩ : ∃ x, (numS r2 e2 1099511627776).2.2 = x := ⟨_, rfl⟩
  simp only [hv3, hr3, he3] at c3 l3 ⊢
  clear hv3 hr3 he3
  have c4 := fun w0 h0 m0 => rdigest_any Q R z1 r3 e3 w0 h0 m0 (by omega)
  have hdl : (v8 (padN 32 (rawS r3 e3 32).1)).length = 32 := by rw [v8_length, padN_len]
  have hd1 := v8_one (padN 32 (rawS r3 e3 32).1)
  show Calls Tryz.prog 81 _ w fun en w' => en = .returned (.agg (Value.int .i64 v0 :: .int .i64 v1 :: .int .i64 v2 :: .int .i64 v3 :: v8 (padN 32 (rawS r3 e3 32).1)).toArray) ∧ _
  obtain ⟨dv, hdv⟩ : ∃ t, v8 (padN 32 (rawS r3 e3 32).1) = t := ⟨_, rfl⟩
  obtain ⟨r4, hr4⟩ : ∃ x, (rawS r3 e3 32).2.1 = x := ⟨_, rfl⟩
  obtain ⟨e4, he4⟩ : ∃ x, (rawS r3 e3 32).2.2 = x := ⟨_, rfl⟩
  simp only [hdv, hr4, he4] at c4 hdl hd1 ⊢
  clear hdv hr4 he4
  have hpl : (Value.int .i64 v0 :: .int .i64 v1 :: .int .i64 v2 :: .int .i64 v3 :: dv).length = 36 := by simp only [List.length_cons, hdl]
  have hip : (Tryz.prog.info? 28).map (·.size) = some (Value.int .i64 v0 :: .int .i64 v1 :: .int .i64 v2 :: .int .i64 v3 :: dv).length := by rw [hpl]; exact iszVo
  have hp1 : ∀ v ∈ (Value.int .i64 v0 :: .int .i64 v1 :: .int .i64 v2 :: .int .i64 v3 :: dv), v.oneCell' = true := fun v hv => by
    simp only [List.mem_cons] at hv
    rcases hv with rfl | rfl | rfl | rfl | hv
    · rfl
    · rfl
    · rfl
    · rfl
    · exact hd1 v hv
  obtain ⟨hB1, hr1, hs1⟩ := boxed_new w zc 28
  have ht1 := there_newN w zc.toArray 28 (n := 36) (by simp [hzl])
  obtain ⟨pc, hpc⟩ : ∃ p, Hid (Value.int .i64 v0 :: .int .i64 v1 :: .int .i64 v2 :: .int .i64 v3 :: dv = p) := ⟨_, hide rfl⟩
  rw [hpc.out] at hpl hip hp1 ⊢
  go_enter Tryz.func81, Tryz.ntmps81
  go_upto_region 0 with fail
  try simp only [Act.put]
  refine pl_begin ?_
  refine pl_run (d := some 2) (v := .pointer (some ⟨w.heap.size, 0, none⟩)) (w' := w.alloc (.cells zc.toArray 28)) (by rfl) (ex_alloc rfl (hzr _)) rfl ?_
  simp only [Act.put, List.setIfInBounds_toArray, List.set_cons_zero, List.set_cons_succ]
  refine pl_nil ?_
  obtain ⟨W1, hW1⟩ : ∃ W, w.alloc (.cells zc.toArray 28) = W := ⟨_, rfl⟩
  rw [hW1] at hB1 hr1 hs1 ht1 ⊢
  clear hW1 hr1
  obtain ⟨hB2, hr2, hs2⟩ := boxed_new W1 zc 28
  have ht2 := there_newN W1 zc.toArray 28 (n := 36) (by simp [hzl])
  go_upto_region 1 with fail
  try simp only [Act.put]
  refine pl_begin ?_
  refine pl_run (d := some 3) (v := .pointer (some ⟨W1.heap.size, 0, none⟩)) (w' := W1.alloc (.cells zc.toArray 28)) (by rfl) (ex_alloc rfl (hzr _)) rfl ?_
  simp only [Act.put, List.setIfInBounds_toArray, List.set_cons_zero, List.set_cons_succ]
  refine pl_nil ?_
  obtain ⟨W2, hW2⟩ : ∃ W, W1.alloc (.cells zc.toArray 28) = W := ⟨_, rfl⟩
  rw [hW2] at hB2 hr2 hs2 ht2 ⊢
  clear hW2
  rw [hzc] at hr2
  have hBW := hB1.trans (hB2.mono hB1.size)
  have V0 : VS w Q R w.heap.size W1.heap.size 36 _ z W2 := ⟨hr2, ht2, there_belowN ht1 hB2 hs1, (Kept.refl w R Q).below hBW, hq.below hBW, there_belowN thQ hBW hQw, Nat.lt_of_lt_of_le hs1 hB2.size, hs2, Nat.le_refl _, hB1.size, by omega, hRw, hQw⟩
  have st2 := h.below hBW
  clear hr2 ht2 ht1 hzr hzc hzl hB1 hB2 hBW hs2 h hq thQ
  go_upto_region 2 with fail
  try simp only [Act.put]
  refine pl_begin ?_
  refine pl_take (d := some 4) (v := ?_) (by rfl) ?_ rfl ?_
  rotate_left
  · go_simp
    try with_reducible rfl
  simp only [Act.put, List.setIfInBounds_toArray, List.set_cons_zero, List.set_cons_succ]
  refine pl_call (d := some 5) (by rfl) (by go_simp; first | done | exact ⟨rfl, rfl⟩ | with_reducible rfl) rfl ?_
  refine (ck W2 st2 V0.mr V0.qt).mono ?_
  rintro _ w3 ⟨rfl, st3, m3, k3, t3⟩
  refine ⟨_, rfl, ?_⟩
  simp only [Act.put, List.setIfInBounds_toArray, List.set_cons_zero, List.set_cons_succ]
  refine pl_take (d := some 6) (v := ?_) (by rfl) ?_ rfl ?_
  rotate_left
  · go_simp
    try with_reducible rfl
  simp only [Act.put, List.setIfInBounds_toArray, List.set_cons_zero, List.set_cons_succ]
  have V3 := V0.on k3 m3 t3
  have V4 := V3.set 0 [.int .i64 v0] (vt_put V3.row _).1
  have st4 := V3.st (o := 0) (vs := [.int .i64 v0]) (rest := []) st3
  refine pl_store (w' := w3.setCells W1.heap.size 0 [.int .i64 v0]) (by rfl) (ex_put1 (n := 36) rfl rfl rfl V3.box (by decide) iszI rfl rfl) rfl ?_
  refine pl_nil ?_
  obtain ⟨w4, hw4⟩ : ∃ W, w3.setCells W1.heap.size 0 [.int .i64 v0] = W := ⟨_, rfl⟩
  rw [hw4] at V4 st4 ⊢
  clear hw4 V3 st3 m3 k3 t3 V0 st2 ck
  go_upto_region 3 with fail
  have V8 := V4.drew
  have st8 := st4.below (Below.refl _ _).drew
  refine hs_begin (S := (fun W' => MrAt W' Q R z1)) 21 rfl (by kernel_rfl) ?_
  obtain ⟨w8, hw8⟩ : ∃ W, w4.drew = W := ⟨_, rfl⟩
  rw [hw8] at V8 st8 ⊢
  clear hw8 V4 st4
  have hS : (fun W' => MrAt W' Q R z1) w8 := V8.mr
  refine hs_take (i := 0) (d := some 7) (v := ?_) rfl (by kernel_rfl) (by kernel_rfl) (by kernel_rfl) (by rfl) ?_ hS rfl ?_
  rotate_left
  · intro w' hw
    go_simp
    try with_reducible rfl
  simp only [Act.put, List.setIfInBounds_toArray, List.set_cons_zero, List.set_cons_succ]
  refine hs_take (i := 1) (d := some 8) (v := ?_) rfl (by kernel_rfl) (by kernel_rfl) (by kernel_rfl) (by rfl) ?_ hS rfl ?_
  rotate_left
  · intro w' hw
    go_simp
    try with_reducible rfl
  simp only [Act.put, List.setIfInBounds_toArray, List.set_cons_zero, List.set_cons_succ]
  refine hs_take (i := 2) (d := some 9) (v := ?_) rfl (by kernel_rfl) (by kernel_rfl) (by kernel_rfl) (by rfl) ?_ hS rfl ?_
  rotate_left
  · intro w' hw
    go_simp
    try with_reducible rfl
  simp only [Act.put, List.setIfInBounds_toArray, List.set_cons_zero, List.set_cons_succ]
  refine hs_take (i := 3) (d := some 10) (v := .pointer (some ⟨R, 0, none⟩)) rfl (by kernel_rfl) (by kernel_rfl) (by kernel_rfl) (by rfl) (fun w' hw => pl_one rfl rfl hw.c0 Tryz.underlying122 rfl) hS rfl ?_
  simp only [Act.put, List.setIfInBounds_toArray, List.set_cons_zero, List.set_cons_succ]
  refine hs_take (i := 5) (d := some 12) (v := ?_) rfl (by kernel_rfl) (by kernel_rfl) (by kernel_rfl) (by rfl) ?_ hS rfl ?_
  rotate_left
  · intro w' hw
    go_simp
    try with_reducible rfl
  simp only [Act.put, List.setIfInBounds_toArray, List.set_cons_zero, List.set_cons_succ]
  refine hs_take (i := 6) (d := some 13) (v := ?_) rfl (by kernel_rfl) (by kernel_rfl) (by kernel_rfl) (by rfl) ?_ hS rfl ?_
  rotate_left
  · intro w' hw
    go_simp
    try with_reducible rfl
  simp only [Act.put, List.setIfInBounds_toArray, List.set_cons_zero, List.set_cons_succ]
  refine hs_take (i := 7) (d := some 14) (v := ?_) rfl (by kernel_rfl) (by kernel_rfl) (by kernel_rfl) (by rfl) ?_ hS rfl ?_
  rotate_left
  · intro w' hw
    go_simp
    try with_reducible rfl
  simp only [Act.put, List.setIfInBounds_toArray, List.set_cons_zero, List.set_cons_succ]
  refine hs_take (i := 8) (d := some 15) (v := .pointer (some ⟨R, 0, none⟩)) rfl (by kernel_rfl) (by kernel_rfl) (by kernel_rfl) (by rfl) (fun w' hw => pl_one rfl rfl hw.c0 Tryz.underlying122 rfl) hS rfl ?_
  simp only [Act.put, List.setIfInBounds_toArray, List.set_cons_zero, List.set_cons_succ]
  refine hs_take (i := 10) (d := some 17) (v := ?_) rfl (by kernel_rfl) (by kernel_rfl) (by kernel_rfl) (by rfl) ?_ hS rfl ?_
  rotate_left
  · intro w' hw
    go_simp
    try with_reducible rfl
  simp only [Act.put, List.setIfInBounds_toArray, List.set_cons_zero, List.set_cons_succ]
  refine hs_take (i := 11) (d := some 18) (v := ?_) rfl (by kernel_rfl) (by kernel_rfl) (by kernel_rfl) (by rfl) ?_ hS rfl ?_
  rotate_left
  · intro w' hw
    go_simp
    try with_reducible rfl
  simp only [Act.put, List.setIfInBounds_toArray, List.set_cons_zero, List.set_cons_succ]
  refine hs_take (i := 12) (d := some 19) (v := ?_) rfl (by kernel_rfl) (by kernel_rfl) (by kernel_rfl) (by rfl) ?_ hS rfl ?_
  rotate_left
  · intro w' hw
    go_simp
    try with_reducible rfl
  simp only [Act.put, List.setIfInBounds_toArray, List.set_cons_zero, List.set_cons_succ]
  refine hs_take (i := 13) (d := some 20) (v := .pointer (some ⟨R, 0, none⟩)) rfl (by kernel_rfl) (by kernel_rfl) (by kernel_rfl) (by rfl) (fun w' hw => pl_one rfl rfl hw.c0 Tryz.underlying122 rfl) hS rfl ?_
  simp only [Act.put, List.setIfInBounds_toArray, List.set_cons_zero, List.set_cons_succ]
  refine hs_call (i := 4) (d := some 11) rfl (by kernel_rfl) (by rfl) (by go_simp; first | done | exact ⟨rfl, rfl⟩ | with_reducible rfl) rfl ?_
  refine (c1 w8 st8).mono ?_
  rintro _ w5 ⟨rfl, st5, g5⟩
  have hS : (fun W' => MrAt W' Q R z1) w5 := hS.gb g5
  refine ⟨_, rfl, hS, ?_⟩
  simp only [Act.put, List.setIfInBounds_toArray, List.set_cons_zero, List.set_cons_succ]
  refine hs_take (i := 15) (d := some 22) (v := ?_) rfl (by kernel_rfl) (by kernel_rfl) (by kernel_rfl) (by rfl) ?_ hS rfl ?_
  rotate_left
  · intro w' hw
    go_simp
    try with_reducible rfl
  simp only [Act.put, List.setIfInBounds_toArray, List.set_cons_zero, List.set_cons_succ]
  refine hs_call (i := 9) (d := some 16) rfl (by kernel_rfl) (by rfl) (by go_simp; first | done | exact ⟨rfl, rfl⟩ | with_reducible rfl) rfl ?_
  refine (c2 w5 st5).mono ?_
  rintro _ w6 ⟨rfl, st6, g6⟩
  have hS : (fun W' => MrAt W' Q R z1) w6 := hS.gb g6
  refine ⟨_, rfl, hS, ?_⟩
  simp only [Act.put, List.setIfInBounds_toArray, List.set_cons_zero, List.set_cons_succ]
  refine hs_call (i := 14) (d := some 21) rfl (by kernel_rfl) (by rfl) (by go_simp; first | done | exact ⟨rfl, rfl⟩ | with_reducible rfl) rfl ?_
  refine (c3 w6 st6).mono ?_
  rintro _ w7 ⟨rfl, st7, g7⟩
  have hS : (fun W' => MrAt W' Q R z1) w7 := hS.gb g7
  refine ⟨_, rfl, hS, ?_⟩
  simp only [Act.put, List.setIfInBounds_toArray, List.set_cons_zero, List.set_cons_succ]
  have V7 := ((V8.gb g5).gb g6).gb g7
  have Va := V7.set 1 [.int .i64 v1] (vt_put V7.row _).2.1
  have sta := V7.st (o := 1) (vs := [.int .i64 v1]) (rest := []) st7
  refine hs_store (i := 16) (w' := w7.setCells W1.heap.size 1 [.int .i64 v1]) rfl (by kernel_rfl) (by rfl) (ex_put1 (n := 36) rfl rfl rfl V7.box (by decide) iszI rfl rfl) rfl Va.mr ?_
  obtain ⟨w_16, hw_16⟩ : ∃ W, w7.setCells W1.heap.size 1 [.int .i64 v1] = W := ⟨_, rfl⟩
  rw [hw_16] at Va sta ⊢
  clear hw_16
  have hS : (fun W' => MrAt W' Q R z1) w_16 := Va.mr
  refine hs_take (i := 17) (d := some 23) (v := ?_) rfl (by kernel_rfl) (by kernel_rfl) (by kernel_rfl) (by rfl) ?_ hS rfl ?_
  rotate_left
  · intro w' hw
    go_simp
    try with_reducible rfl
  simp only [Act.put, List.setIfInBounds_toArray, List.set_cons_zero, List.set_cons_succ]
  have Vb := Va.set 2 [.int .i64 v2] (vt_put Va.row _).2.2.1
  have stb := Va.st (o := 2) (vs := [.int .i64 v2]) (rest := []) sta
  refine hs_store (i := 18) (w' := w_16.setCells W1.heap.size 2 [.int .i64 v2]) rfl (by kernel_rfl) (by rfl) (ex_put1 (n := 36) rfl rfl rfl Va.box (by decide) iszI rfl rfl) rfl Vb.mr ?_
  obtain ⟨w_18, hw_18⟩ : ∃ W, w_16.setCells W1.heap.size 2 [.int .i64 v2] = W := ⟨_, rfl⟩
  rw [hw_18] at Vb stb ⊢
  clear hw_18
  have hS : (fun W' => MrAt W' Q R z1) w_18 := Vb.mr
  refine hs_take (i := 19) (d := some 24) (v := ?_) rfl (by kernel_rfl) (by kernel_rfl) (by kernel_rfl) (by rfl) ?_ hS rfl ?_
  rotate_left
  · intro w' hw
    go_simp
    try with_reducible rfl
  simp only [Act.put, List.setIfInBounds_toArray, List.set_cons_zero, List.set_cons_succ]
  have Vc := Vb.set 3 [.int .i64 v3] (vt_put Vb.row _).2.2.2
  have stc := Vb.st (o := 3) (vs := [.int .i64 v3]) (rest := []) stb
  refine hs_store (i := 20) (w' := w_18.setCells W1.heap.size 3 [.int .i64 v3]) rfl (by kernel_rfl) (by rfl) (ex_put1 (n := 36) rfl rfl rfl Vb.box (by decide) iszI rfl rfl) rfl Vc.mr ?_
  obtain ⟨w_20, hw_20⟩ : ∃ W, w_18.setCells W1.heap.size 3 [.int .i64 v3] = W := ⟨_, rfl⟩
  rw [hw_20] at Vc stc ⊢
  clear hw_20
  have hS : (fun W' => MrAt W' Q R z1) w_20 := Vc.mr
  refine hs_done (by kernel_rfl) ?_
  clear V7 Va Vb sta stb st5 st6 st7 g5 g6 g7 V8 st8 hS c1 c2 c3
  go_upto_region 4 with fail
  try simp only [Act.put]
  refine pl_begin ?_
  refine pl_take (d := some 25) (v := ?_) (by rfl) ?_ rfl ?_
  rotate_left
  · go_simp
    try with_reducible rfl
  simp only [Act.put, List.setIfInBounds_toArray, List.set_cons_zero, List.set_cons_succ]
  refine pl_call (d := some 26) (by rfl) (by go_simp; first | done | exact ⟨rfl, rfl⟩ | with_reducible rfl) rfl ?_
  refine (c4 w_20 stc Vc.mr).mono ?_
  rintro _ wd ⟨rfl, std, gd⟩
  refine ⟨_, rfl, ?_⟩
  simp only [Act.put, List.setIfInBounds_toArray, List.set_cons_zero, List.set_cons_succ]
  refine pl_take (d := some 27) (v := ?_) (by rfl) ?_ rfl ?_
  rotate_left
  · go_simp
    try with_reducible rfl
  simp only [Act.put, List.setIfInBounds_toArray, List.set_cons_zero, List.set_cons_succ]
  have Vd := Vc.gb gd
  have Ve := Vd.set 4 dv (range_tail4 Vd.row (by rw [hdl]; exact there_part1 Vd.box (by decide)))
  have ste := Vd.st (o := 4) (vs := dv) (rest := []) std
  refine pl_store (w' := wd.setCells W1.heap.size 4 dv) (by rfl) (ex_put (cs := dv.toArray) rfl rfl rfl (by simpa [hdl] using there_part1 Vd.box (o := 4) (m := 32) (by decide)) (by simpa [hdl] using iszD) (all_one hd1)) rfl ?_
  refine pl_nil ?_
  obtain ⟨we, hwe⟩ : ∃ W, wd.setCells W1.heap.size 4 dv = W := ⟨_, rfl⟩
  rw [hwe] at Ve ste ⊢
  clear hwe Vd std gd Vc stc c4
  have rpc := Ve.row
  rw [hpc.out] at rpc
  have hlow : Below w.heap.size we (we.setCells w.heap.size 0 pc) := below_sets (Nat.le_refl _) pc 0 _ (Below.refl _ we)
  go_upto_region 5 with fail
  try simp only [Act.put]
  refine pl_begin ?_
  refine pl_take (d := some 28) (v := .agg pc.toArray) (by rfl) (ex_mid rfl rfl rpc Tryz.underlying28 rfl hip) rfl ?_
  simp only [Act.put, List.setIfInBounds_toArray, List.set_cons_zero, List.set_cons_succ]
  refine pl_store (w' := we.setCells w.heap.size 0 pc) (by rfl) (ex_put (cs := pc.toArray) rfl rfl rfl (by simpa [hpl] using Ve.ans) (by simpa using hip) (all_one hp1)) rfl ?_
  refine pl_nil ?_
  have hrs := run_loadVar_mid (P := Tryz.prog) (we.setCells w.heap.size 0 pc) w.heap.size 0 28 pc _ (World.rangeAt_setCells_same we w.heap.size 0 pc (by rw [hpl]; exact Ve.ans)) Tryz.underlying28 rfl hip
  have HF : Hid (St (we.setCells w.heap.size 0 pc) R r4 e4 ∧ MrAt (we.setCells w.heap.size 0 pc) Q R z1 ∧ Kept w R Q (we.setCells w.heap.size 0 pc) ∧ (we.setCells w.heap.size 0 pc).there Q 0 2) := hide ⟨ste.belowN hlow hRw, Ve.mr.at (blk_sets (by omega)) (by rw [size_sets]; exact Nat.le_refl _), Ve.kept.newSets (Nat.le_refl _) _ _, World.there_setCells Ve.qt _ _ _⟩
  clear Ve ste hlow rpc
  go_wp2_with fail
  refine bodyPost_ret (v := .agg pc.toArray) ?_ rfl ?_
  · simp [results, Tryz.results81, Act.put, asAddr, hrs]
  · exact ⟨rfl, HF.out⟩
end Go.Proofs.YtgjalkbianpibaaGreat
namespace Go.Proofs.YtgjalkbianpibaaGreat
open Go.RowKit
open Sha Tal
set_option linter.unusedVariables false
set_option linter.unusedSimpArgs false
/-- n cells, of which the first k are those of t -/
def upTo (n : Nat) (t : List Int) (k : Nat) : List Int := t.take k ++ List.replicate (n - k) 0
theorem gb_low {w w' : World} {g n : Nat} (h : w.grownBy w' (some g)) (hn : n ≤ g) (hs : n ≤ w.heap.size) : Below n w w' :=
  ⟨h.os, h.tape, h.output, h.size, fun i hi => h.block i (by omega) (by intro q; injection q with q; omega)⟩
theorem upTo_set {n k : Nat} {t : List Int} (ht : t.length = n) (hk : k < n) : (v8 (upTo n t k)).set k (.int .u8 (t.getD k 0)) = v8 (upTo n t (k + 1)) := by
  unfold upTo
  have e : n - k = (n - (k + 1)) + 1 := by omega
  rw [e, List.replicate_succ]
  have h1 : (t.take k).length = k := by rw [List.length_take]; omega
  have h2 : t.take (k + 1) = t.take k ++ [t.getD k 0] := by
    rw [List.take_succ_eq_append_getElem (by omega)]
    simp [List.getD, List.getElem?_eq_getElem (show k < t.length by omega)]
  rw [h2]
  simp only [v8, List.map_append, List.map_cons, List.map_nil]
  have hm : min k t.length = k := Nat.min_eq_left (by omega)
  rw [List.set_append_right _ _ (by simp [hm])]
  simp [hm]
theorem upTo_all {n : Nat} {t : List Int} (ht : t.length = n) : upTo n t n = padN n t := by
  unfold upTo padN
  rw [if_pos ht, Nat.sub_self, ← ht, List.take_length]
  simp
theorem upTo_none {n : Nat} (h : 0 < n) : upTo n [] 0 = padN n [] := by
  unfold upTo padN
  rw [if_neg (by simp; omega)]
  simp
set_option maxRecDepth 100000 in
set_option maxHeartbeats 1000000 in
theorem xtagR_any (B X : Nat) (rest : List Int) (e : Int) (w : World) (h : RSt B w X rest e) (hX : X < w.heap.size) (hBX : B ≤ X) : Calls Tryz.prog 128 #[.pointer (some ⟨X, 0, none⟩)] w fun en w' => en = .returned (.agg (v8 (padN 16 (rawS rest e 16).1)).toArray) ∧ RSt B w' X (rawS rest e 16).2.1 (rawS rest e 16).2.2 ∧ w.grownBy w' (some X) := by
  obtain ⟨zc, hzc, hzr⟩ : ∃ zc : List Value, Hid (zc = v8 (List.replicate 16 (0 : Int))) ∧ ∀ w' : World, (zeroValue 55).run Tryz.prog w' = .ok (.agg zc.toArray) w' := ⟨_, hide rfl, fun w => by kernel_rfl⟩
  obtain ⟨hB1, hr1, hs1⟩ := boxed_new w zc 55
  have ht1 := there_newN w zc.toArray 55 (n := 16) (by rw [hzc.out]; simp)
  have hip : (Tryz.prog.info? 55).map (·.size) = some (v8 (padN 16 (rawS rest e 16).1)).length := by rw [v8_length, padN_len]; kernel_rfl
  have hp1 := v8_one (padN 16 (rawS rest e 16).1)
  have hpl : (v8 (padN 16 (rawS rest e 16).1)).length = 16 := by rw [v8_length, padN_len]
  obtain ⟨pc, hpc⟩ : ∃ p, Hid (v8 (padN 16 (rawS rest e 16).1) = p) := ⟨_, hide rfl⟩
  rw [hpc.out] at hip hp1 hpl ⊢
  go_enter Tryz.func128, Tryz.ntmps128
  go_upto_region 0 with fail
  try simp only [Act.put]
  refine pl_begin ?_
  refine pl_run (d := some 2) (v := .pointer (some ⟨w.heap.size, 0, none⟩)) (w' := w.alloc (.cells zc.toArray 55)) (by rfl) (ex_alloc rfl (hzr _)) rfl ?_
  simp only [Act.put, List.setIfInBounds_toArray, List.set_cons_zero, List.set_cons_succ]
  refine pl_nil ?_
  obtain ⟨W1, hW1⟩ : ∃ W, w.alloc (.cells zc.toArray 55) = W := ⟨_, rfl⟩
  rw [hW1] at hB1 hr1 hs1 ht1 ⊢
  clear hW1 hr1
  obtain ⟨hB2, hr2, hs2⟩ := boxed_new W1 zc 55
  have ht2 := there_newN W1 zc.toArray 55 (n := 16) (by rw [hzc.out]; simp)
  go_upto_region 1 with fail
  try simp only [Act.put]
  refine pl_begin ?_
  refine pl_run (d := some 3) (v := .pointer (some ⟨W1.heap.size, 0, none⟩)) (w' := W1.alloc (.cells zc.toArray 55)) (by rfl) (ex_alloc rfl (hzr _)) rfl ?_
  simp only [Act.put, List.setIfInBounds_toArray, List.set_cons_zero, List.set_cons_succ]
  refine pl_nil ?_
  obtain ⟨W2, hW2⟩ : ∃ W, W1.alloc (.cells zc.toArray 55) = W := ⟨_, rfl⟩
  rw [hW2] at hB2 hr2 hs2 ht2 ⊢
  clear hW2
  rw [hzc.out] at hr2
  have thA := there_belowN ht1 hB2 hs1
  have hBW := hB1.trans (hB2.mono hB1.size)
  have st2 := h.below hBW
  clear hzc hzr ht1
  go_upto_region 2 with fail
  try simp only [Act.put]
  refine pl_begin ?_
  refine pl_take (d := some 6) (v := ?_) (by rfl) ?_ rfl ?_
  rotate_left
  · go_simp
    try with_reducible rfl
  simp only [Act.put, List.setIfInBounds_toArray, List.set_cons_zero, List.set_cons_succ]
  refine pl_call (d := some 7) (by rfl) (by go_simp; first | done | exact ⟨rfl, rfl⟩ | with_reducible rfl) rfl ?_
  refine (refRaw_any X rest e 16 W2 st2).mono ?_
  rintro _ w3 hfin
  obtain ⟨v9, rfl, m3, st3, g3⟩ := hfin
  refine ⟨_, rfl, ?_⟩
  simp only [Act.put, List.setIfInBounds_toArray, List.set_cons_zero, List.set_cons_succ]
  refine pl_take (d := some 4) (v := ?_) (by rfl) ?_ rfl ?_
  rotate_left
  · go_simp
    try with_reducible rfl
  simp only [Act.put, List.setIfInBounds_toArray, List.set_cons_zero, List.set_cons_succ]
  refine pl_nil ?_
  have hN : (rawS rest e 16).1.length = 16 ∨ (rawS rest e 16).1 = [] := rawS_N rest e 16
  obtain ⟨a9, c9, hve, _, _, row9⟩ := m3.rowAt (by unfold maxLen; rcases hN with h | h <;> (rw [h]; simp))
  rw [hve]
  have hfrom : ∀ x, a9 = some x → W2.heap.size ≤ x.block := fun x hx => by
    rcases own_range m3.1 with ⟨hv, _, _⟩ | ⟨g, cap, hv, hg, _⟩
    · rw [hve] at hv; injection hv with q1; rw [hx] at q1; cases q1
    · rw [hve] at hv; injection hv with q1; rw [hx] at q1; injection q1 with q1; rw [q1]; exact hg
  obtain ⟨t, htt⟩ : ∃ t, Hid ((rawS rest e 16).1 = t) := ⟨_, hide rfl⟩
  rw [htt.out] at hN row9 ⊢
  have hA3 : w3.there w.heap.size 0 16 := there_gbR thA g3 (Nat.lt_of_lt_of_le hs1 hB2.size) (by omega)
  have hT3 : w3.there W1.heap.size 0 16 := there_gbR ht2 g3 hs2 (by omega)
  have hR3 : w3.rangeAt W1.heap.size 0 (v8 (upTo 16 t 0)) := by
    have := range_gbR hr2 g3 hs2 (by omega)
    simpa [upTo] using this
  have hz3 : W1.heap.size < w3.heap.size := Nat.lt_of_lt_of_le hs2 g3.size
  have htn : t.length ≤ 16 := by rcases hN with h | h <;> (rw [h]; simp)
  have HK0 : Hid (w3.rangeAt W1.heap.size 0 (v8 (upTo 16 t 0)) ∧ w3.there W1.heap.size 0 16 ∧ w3.there w.heap.size 0 16 ∧ RowAt w3 a9 t ∧ w3.grownBy w3 (some W1.heap.size)) := hide ⟨hR3, hT3, hA3, row9, gb_refl _ _⟩
  clear hve m3 hR3 hT3 hA3 row9 thA ht2 hr2
  go_upto_region 3 with fail
  go_wp2_with fail
  go_loopw [5] (fun iv wr => ∃ k : Nat, k ≤ t.length ∧ iv = .int .i64 (k : Int) ∧ Hid (wr.rangeAt W1.heap.size 0 (v8 (upTo 16 t k)) ∧ wr.there W1.heap.size 0 16 ∧ wr.there w.heap.size 0 16 ∧ RowAt wr a9 t ∧ w3.grownBy wr (some W1.heap.size))) (fun iv _ => t.length - (intOf iv).toNat)
  case atStart => exact ⟨0, by omega, rfl, HK0⟩
  case round =>
    clear HK0
    obtain ⟨k, hk, rfl, HK⟩ := hrel
    obtain ⟨hR, hth, hthA, hrow, hgr⟩ := HK.out
    clear HK
    by_cases hlt : k < t.length
    · have htN : t.length = 16 := by
        rcases hN with h | h
        · exact h
        · rw [h] at hlt; simp at hlt
      have k1 : (k : Int) < t.length := by omega
      have kn : k < 16 := by omega
      have kn1 : (k : Int) < 16 := by omega
      have hus := upTo_set htN kn
      obtain ⟨b, off, hab, hb, hcb, hz0, hz1⟩ := hrow.get k hlt
      obtain ⟨c, hc⟩ : ∃ c, Hid (t.getD k 0 = c) := ⟨_, hide rfl⟩
      rw [hc.out] at hus hcb
      have hro : RowAt (wr.setCell ⟨W1.heap.size, k, none⟩ (.int .u8 c)) a9 t := hrow.other (.inr fun x hx => by have := hfrom x hx; show x.block ≠ W1.heap.size; omega)
      clear hc hz0 hz1
      subst hab
      go_upto_region 6 with fail
      try simp only [Act.put]
      refine pl_begin ?_
      refine pl_take (d := some 14) (v := ?_) (by rfl) ?_ rfl ?_
      rotate_left
      · go_simp
        try with_reducible rfl
      simp only [Act.put, List.setIfInBounds_toArray, List.set_cons_zero, List.set_cons_succ]
      refine pl_take (d := some 15) (v := ?_) (by rfl) ?_ rfl ?_
      rotate_left
      · go_simp
        try with_reducible rfl
      simp only [Act.put, List.setIfInBounds_toArray, List.set_cons_zero, List.set_cons_succ]
      refine pl_take (d := some 16) (v := ?_) (by rfl) ?_ rfl ?_
      rotate_left
      · go_simp
        try with_reducible rfl
      simp only [Act.put, List.setIfInBounds_toArray, List.set_cons_zero, List.set_cons_succ]
      refine pl_take (d := some 17) (v := ?_) (by rfl) ?_ rfl ?_
      rotate_left
      · go_simp
        try with_reducible rfl
      simp only [Act.put, List.setIfInBounds_toArray, List.set_cons_zero, List.set_cons_succ]
      refine pl_take (d := some 18) (v := .int .u8 c) (by rfl) (pl_one rfl rfl hcb Tryz.underlying5 rfl) rfl ?_
      simp only [Act.put, List.setIfInBounds_toArray, List.set_cons_zero, List.set_cons_succ]
      refine pl_take (d := some 19) (v := ?_) (by rfl) ?_ rfl ?_
      rotate_left
      · go_simp
        try with_reducible rfl
      simp only [Act.put, List.setIfInBounds_toArray, List.set_cons_zero, List.set_cons_succ]
      refine pl_store (w' := wr.setCells W1.heap.size k [.int .u8 c]) (by rfl) (ex_put1 (n := 16) rfl rfl rfl hth (by omega) isz8 rfl rfl) rfl ?_
      refine pl_nil ?_
      have hrs := range_set hR k (.int .u8 c)
      rw [Nat.zero_add, hus] at hrs
      have HN : Hid ((wr.setCells W1.heap.size k [.int .u8 c]).rangeAt W1.heap.size 0 (v8 (upTo 16 t (k + 1))) ∧ (wr.setCells W1.heap.size k [.int .u8 c]).there W1.heap.size 0 16 ∧ (wr.setCells W1.heap.size k [.int .u8 c]).there w.heap.size 0 16 ∧ RowAt (wr.setCells W1.heap.size k [.int .u8 c]) (some ⟨b, off, none⟩) t ∧ w3.grownBy (wr.setCells W1.heap.size k [.int .u8 c]) (some W1.heap.size)) := hide ⟨hrs, World.there_setCells hth _ _ _, World.there_setCells hthA _ _ _, hro, gb_trans hgr (gb_setsR _ _ _ _)⟩
      clear hrs hro hR hth hthA hrow hgr hcb
      go_wp2_with fail
      go_roundw
      case rel => exact ⟨k + 1, by omega, by go_num, HN⟩
      case measure => simp [intOf]; omega
    · obtain rfl : k = t.length := by omega
      have rpc : wr.rangeAt W1.heap.size 0 pc := by
        rw [← hpc.out, htt.out]
        rcases hN with h | h
        · have e := upTo_all h
          rw [h] at hR
          rw [e] at hR
          exact hR
        · subst h
          have e := upTo_none (n := 16) (by decide)
          rw [← e]
          exact hR
      have hlow := gb_low hgr (n := w.heap.size) (by omega) (by omega)
      have gf := gb_onR (gb_onR (gb_trans (gb_below hBW (some X)) g3) hlow (Nat.le_refl _)) (below_sets (B := w.heap.size) (b := w.heap.size) (Nat.le_refl _) pc 0 _ (Below.refl _ wr)) (Nat.le_refl _)
      have sf := (st3.gb hgr (.inr (by omega))).gb (gb_setsR wr w.heap.size pc 0) (.inr hX)
      have hrs := run_loadVar_mid (P := Tryz.prog) (wr.setCells w.heap.size 0 pc) w.heap.size 0 55 pc _ (World.rangeAt_setCells_same wr w.heap.size 0 pc (by rw [hpl]; exact hthA)) Tryz.underlying55 rfl hip
      have HF : Hid (RSt B (wr.setCells w.heap.size 0 pc) X (rawS rest e 16).2.1 (rawS rest e 16).2.2 ∧ w.grownBy (wr.setCells w.heap.size 0 pc) (some X)) := hide ⟨sf, gf⟩
      clear sf gf hlow hR hrow hgr hth st3 g3
      go_upto_region 7 with fail
      try simp only [Act.put]
      refine pl_begin ?_
      refine pl_take (d := some 20) (v := .agg pc.toArray) (by rfl) (ex_mid rfl rfl rpc Tryz.underlying55 rfl hip) rfl ?_
      simp only [Act.put, List.setIfInBounds_toArray, List.set_cons_zero, List.set_cons_succ]
      refine pl_store (w' := wr.setCells w.heap.size 0 pc) (by rfl) (ex_put (cs := pc.toArray) rfl rfl rfl (by simpa [hpl] using hthA) (by simpa using hip) (all_one hp1)) rfl ?_
      refine pl_nil ?_
      go_wp2_with fail
      refine bodyPost_ret (v := .agg pc.toArray) ?_ rfl ?_
      · simp [results, Tryz.results128, Act.put, asAddr, hrs]
      · exact ⟨rfl, HF.out⟩
set_option maxRecDepth 100000 in
set_option maxHeartbeats 1000000 in
theorem xdigestR_any (B X : Nat) (rest : List Int) (e : Int) (w : World) (h : RSt B w X rest e) (hX : X < w.heap.size) (hBX : B ≤ X) : Calls Tryz.prog 96 #[.pointer (some ⟨X, 0, none⟩)] w fun en w' => en = .returned (.agg (v8 (padN 32 (rawS rest e 32).1)).toArray) ∧ RSt B w' X (rawS rest e 32).2.1 (rawS rest e 32).2.2 ∧ w.grownBy w' (some X) := by
  obtain ⟨zc, hzc, hzr⟩ : ∃ zc : List Value, Hid (zc = v8 (List.replicate 32 (0 : Int))) ∧ ∀ w' : World, (zeroValue 26).run Tryz.prog w' = .ok (.agg zc.toArray) w' := ⟨_, hide rfl, fun w => by kernel_rfl⟩
  obtain ⟨hB1, hr1, hs1⟩ := boxed_new w zc 26
  have ht1 := there_newN w zc.toArray 26 (n := 32) (by rw [hzc.out]; simp)
  have hip : (Tryz.prog.info? 26).map (·.size) = some (v8 (padN 32 (rawS rest e 32).1)).length := by rw [v8_length, padN_len]; kernel_rfl
  have hp1 := v8_one (padN 32 (rawS rest e 32).1)
  have hpl : (v8 (padN 32 (rawS rest e 32).1)).length = 32 := by rw [v8_length, padN_len]
  obtain ⟨pc, hpc⟩ : ∃ p, Hid (v8 (padN 32 (rawS rest e 32).1) = p) := ⟨_, hide rfl⟩
  rw [hpc.out] at hip hp1 hpl ⊢
  go_enter Tryz.func96, Tryz.ntmps96
  go_upto_region 0 with fail
  try simp only [Act.put]
  refine pl_begin ?_
  refine pl_run (d := some 2) (v := .pointer (some ⟨w.heap.size, 0, none⟩)) (w' := w.alloc (.cells zc.toArray 26)) (by rfl) (ex_alloc rfl (hzr _)) rfl ?_
  simp only [Act.put, List.setIfInBounds_toArray, List.set_cons_zero, List.set_cons_succ]
  refine pl_nil ?_
  obtain ⟨W1, hW1⟩ : ∃ W, w.alloc (.cells zc.toArray 26) = W := ⟨_, rfl⟩
  rw [hW1] at hB1 hr1 hs1 ht1 ⊢
  clear hW1 hr1
  obtain ⟨hB2, hr2, hs2⟩ := boxed_new W1 zc 26
  have ht2 := there_newN W1 zc.toArray 26 (n := 32) (by rw [hzc.out]; simp)
  go_upto_region 1 with fail
  try simp only [Act.put]
  refine pl_begin ?_
  refine pl_run (d := some 3) (v := .pointer (some ⟨W1.heap.size, 0, none⟩)) (w' := W1.alloc (.cells zc.toArray 26)) (by rfl) (ex_alloc rfl (hzr _)) rfl ?_
  simp only [Act.put, List.setIfInBounds_toArray, List.set_cons_zero, List.set_cons_succ]
  refine pl_nil ?_
  obtain ⟨W2, hW2⟩ : ∃ W, W1.alloc (.cells zc.toArray 26) = W := ⟨_, rfl⟩
  rw [hW2] at hB2 hr2 hs2 ht2 ⊢
  clear hW2
  rw [hzc.out] at hr2
  have thA := there_belowN ht1 hB2 hs1
  have hBW := hB1.trans (hB2.mono hB1.size)
  have st2 := h.below hBW
  clear hzc hzr ht1
  go_upto_region 2 with fail
  try simp only [Act.put]
  refine pl_begin ?_
  refine pl_take (d := some 6) (v := ?_) (by rfl) ?_ rfl ?_
  rotate_left
  · go_simp
    try with_reducible rfl
  simp only [Act.put, List.setIfInBounds_toArray, List.set_cons_zero, List.set_cons_succ]
  refine pl_call (d := some 7) (by rfl) (by go_simp; first | done | exact ⟨rfl, rfl⟩ | with_reducible rfl) rfl ?_
  refine (refRaw_any X rest e 32 W2 st2).mono ?_
  rintro _ w3 hfin
  obtain ⟨v9, rfl, m3, st3, g3⟩ := hfin
  refine ⟨_, rfl, ?_⟩
  simp only [Act.put, List.setIfInBounds_toArray, List.set_cons_zero, List.set_cons_succ]
  refine pl_take (d := some 4) (v := ?_) (by rfl) ?_ rfl ?_
  rotate_left
  · go_simp
    try with_reducible rfl
  simp only [Act.put, List.setIfInBounds_toArray, List.set_cons_zero, List.set_cons_succ]
  refine pl_nil ?_
  have hN : (rawS rest e 32).1.length = 32 ∨ (rawS rest e 32).1 = [] := rawS_N rest e 32
  obtain ⟨a9, c9, hve, _, _, row9⟩ := m3.rowAt (by unfold maxLen; rcases hN with h | h <;> (rw [h]; simp))
  rw [hve]
  have hfrom : ∀ x, a9 = some x → W2.heap.size ≤ x.block := fun x hx => by
    rcases own_range m3.1 with ⟨hv, _, _⟩ | ⟨g, cap, hv, hg, _⟩
    · rw [hve] at hv; injection hv with q1; rw [hx] at q1; cases q1
    · rw [hve] at hv; injection hv with q1; rw [hx] at q1; injection q1 with q1; rw [q1]; exact hg
  obtain ⟨t, htt⟩ : ∃ t, Hid ((rawS rest e 32).1 = t) := ⟨_, hide rfl⟩
  rw [htt.out] at hN row9 ⊢
  have hA3 : w3.there w.heap.size 0 32 := there_gbR thA g3 (Nat.lt_of_lt_of_le hs1 hB2.size) (by omega)
  have hT3 : w3.there W1.heap.size 0 32 := there_gbR ht2 g3 hs2 (by omega)
  have hR3 : w3.rangeAt W1.heap.size 0 (v8 (upTo 32 t 0)) := by
    have := range_gbR hr2 g3 hs2 (by omega)
    simpa [upTo] using this
  have hz3 : W1.heap.size < w3.heap.size := Nat.lt_of_lt_of_le hs2 g3.size
  have htn : t.length ≤ 32 := by rcases hN with h | h <;> (rw [h]; simp)
  have HK0 : Hid (w3.rangeAt W1.heap.size 0 (v8 (upTo 32 t 0)) ∧ w3.there W1.heap.size 0 32 ∧ w3.there w.heap.size 0 32 ∧ RowAt w3 a9 t ∧ w3.grownBy w3 (some W1.heap.size)) := hide ⟨hR3, hT3, hA3, row9, gb_refl _ _⟩
  clear hve m3 hR3 hT3 hA3 row9 thA ht2 hr2
  go_upto_region 3 with fail
  go_wp2_with fail
  go_loopw [5] (fun iv wr => ∃ k : Nat, k ≤ t.length ∧ iv = .int .i64 (k : Int) ∧ Hid (wr.rangeAt W1.heap.size 0 (v8 (upTo 32 t k)) ∧ wr.there W1.heap.size 0 32 ∧ wr.there w.heap.size 0 32 ∧ RowAt wr a9 t ∧ w3.grownBy wr (some W1.heap.size))) (fun iv _ => t.length - (intOf iv).toNat)
  case atStart => exact ⟨0, by omega, rfl, HK0⟩
  case round =>
    clear HK0
    obtain ⟨k, hk, rfl, HK⟩ := hrel
    obtain ⟨hR, hth, hthA, hrow, hgr⟩ := HK.out
    clear HK
    by_cases hlt : k < t.length
    · have htN : t.length = 32 := by
        rcases hN with h | h
        · exact h
        · rw [h] at hlt; simp at hlt
      have k1 : (k : Int) < t.length := by omega
      have kn : k < 32 := by omega
      have kn1 : (k : Int) < 32 := by omega
      have hus := upTo_set htN kn
      obtain ⟨b, off, hab, hb, hcb, hz0, hz1⟩ := hrow.get k hlt
      obtain ⟨c, hc⟩ : ∃ c, Hid (t.getD k 0 = c) := ⟨_, hide rfl⟩
      rw [hc.out] at hus hcb
      have hro : RowAt (wr.setCell ⟨W1.heap.size, k, none⟩ (.int .u8 c)) a9 t := hrow.other (.inr fun x hx => by have := hfrom x hx; show x.block ≠ W1.heap.size; omega)
      clear hc hz0 hz1
      subst hab
      go_upto_region 6 with fail
      try simp only [Act.put]
      refine pl_begin ?_
      refine pl_take (d := some 14) (v := ?_) (by rfl) ?_ rfl ?_
      rotate_left
      · go_simp
        try with_reducible rfl
      simp only [Act.put, List.setIfInBounds_toArray, List.set_cons_zero, List.set_cons_succ]
      refine pl_take (d := some 15) (v := ?_) (by rfl) ?_ rfl ?_
      rotate_left
      · go_simp
        try with_reducible rfl
      simp only [Act.put, List.setIfInBounds_toArray, List.set_cons_zero, List.set_cons_succ]
      refine pl_take (d := some 16) (v := ?_) (by rfl) ?_ rfl ?_
      rotate_left
      · go_simp
        try with_reducible rfl
      simp only [Act.put, List.setIfInBounds_toArray, List.set_cons_zero, List.set_cons_succ]
      refine pl_take (d := some 17) (v := ?_) (by rfl) ?_ rfl ?_
      rotate_left
      · go_simp
        try with_reducible rfl
      simp only [Act.put, List.setIfInBounds_toArray, List.set_cons_zero, List.set_cons_succ]
      refine pl_take (d := some 18) (v := .int .u8 c) (by rfl) (pl_one rfl rfl hcb Tryz.underlying5 rfl) rfl ?_
      simp only [Act.put, List.setIfInBounds_toArray, List.set_cons_zero, List.set_cons_succ]
      refine pl_take (d := some 19) (v := ?_) (by rfl) ?_ rfl ?_
      rotate_left
      · go_simp
        try with_reducible rfl
      simp only [Act.put, List.setIfInBounds_toArray, List.set_cons_zero, List.set_cons_succ]
      refine pl_store (w' := wr.setCells W1.heap.size k [.int .u8 c]) (by rfl) (ex_put1 (n := 32) rfl rfl rfl hth (by omega) isz8 rfl rfl) rfl ?_
      refine pl_nil ?_
      have hrs := range_set hR k (.int .u8 c)
      rw [Nat.zero_add, hus] at hrs
      have HN : Hid ((wr.setCells W1.heap.size k [.int .u8 c]).rangeAt W1.heap.size 0 (v8 (upTo 32 t (k + 1))) ∧ (wr.setCells W1.heap.size k [.int .u8 c]).there W1.heap.size 0 32 ∧ (wr.setCells W1.heap.size k [.int .u8 c]).there w.heap.size 0 32 ∧ RowAt (wr.setCells W1.heap.size k [.int .u8 c]) (some ⟨b, off, none⟩) t ∧ w3.grownBy (wr.setCells W1.heap.size k [.int .u8 c]) (some W1.heap.size)) := hide ⟨hrs, World.there_setCells hth _ _ _, World.there_setCells hthA _ _ _, hro, gb_trans hgr (gb_setsR _ _ _ _)⟩
      clear hrs hro hR hth hthA hrow hgr hcb
      go_wp2_with fail
      go_roundw
      case rel => exact ⟨k + 1, by omega, by go_num, HN⟩
      case measure => simp [intOf]; omega
    · obtain rfl : k = t.length := by omega
      have rpc : wr.rangeAt W1.heap.size 0 pc := by
        rw [← hpc.out, htt.out]
        rcases hN with h | h
        · have e := upTo_all h
          rw [h] at hR
          rw [e] at hR
          exact hR
        · subst h
          have e := upTo_none (n := 32) (by decide)
          rw [← e]
          exact hR
      have hlow := gb_low hgr (n := w.heap.size) (by omega) (by omega)
      have gf := gb_onR (gb_onR (gb_trans (gb_below hBW (some X)) g3) hlow (Nat.le_refl _)) (below_sets (B := w.heap.size) (b := w.heap.size) (Nat.le_refl _) pc 0 _ (Below.refl _ wr)) (Nat.le_refl _)
      have sf := (st3.gb hgr (.inr (by omega))).gb (gb_setsR wr w.heap.size pc 0) (.inr hX)
      have hrs := run_loadVar_mid (P := Tryz.prog) (wr.setCells w.heap.size 0 pc) w.heap.size 0 26 pc _ (World.rangeAt_setCells_same wr w.heap.size 0 pc (by rw [hpl]; exact hthA)) Tryz.underlying26 rfl hip
      have HF : Hid (RSt B (wr.setCells w.heap.size 0 pc) X (rawS rest e 32).2.1 (rawS rest e 32).2.2 ∧ w.grownBy (wr.setCells w.heap.size 0 pc) (some X)) := hide ⟨sf, gf⟩
      clear sf gf hlow hR hrow hgr hth st3 g3
      go_upto_region 7 with fail
      try simp only [Act.put]
      refine pl_begin ?_
      refine pl_take (d := some 20) (v := .agg pc.toArray) (by rfl) (ex_mid rfl rfl rpc Tryz.underlying26 rfl hip) rfl ?_
      simp only [Act.put, List.setIfInBounds_toArray, List.set_cons_zero, List.set_cons_succ]
      refine pl_store (w' := wr.setCells w.heap.size 0 pc) (by rfl) (ex_put (cs := pc.toArray) rfl rfl rfl (by simpa [hpl] using hthA) (by simpa using hip) (all_one hp1)) rfl ?_
      refine pl_nil ?_
      go_wp2_with fail
      refine bodyPost_ret (v := .agg pc.toArray) ?_ rfl ?_
      · simp [results, Tryz.results96, Act.put, asAddr, hrs]
      · exact ⟨rfl, HF.out⟩
end Go.Proofs.YtgjalkbianpibaaGreat
namespace Go.Proofs.YtgjalkbianpibaaGreat
open Go.RowKit
open Sha Tal
set_option linter.unusedVariables false
set_option linter.unusedSimpArgs false
/-- what the document reads lies in the block B; the answer will lie in the block A -/
structure XS (w : World) (X A B n : Nat) (q : List Value) (W : World) : Prop where
  row : W.rangeAt B 0 q
  box : W.there B 0 n
  ans : W.there A 0 n
  grown : w.grownBy W (some X)
  la : A < W.heap.size
  lb : B < W.heap.size
  na : w.heap.size ≤ A
  nb : w.heap.size ≤ B
  ne : A ≠ B
  lx : X < w.heap.size
theorem XS.gb {w W W' : World} {X A B n : Nat} {q : List Value} (h : XS w X A B n q W) (g : W.grownBy W' (some X)) : XS w X A B n q W' := by
  have h1 := h.na
  have h2 := h.nb
  have h3 := h.lx
  exact ⟨range_gbR h.row g h.lb (by omega), there_gbR h.box g h.lb (by omega), there_gbR h.ans g h.la (by omega), gb_trans h.grown g, Nat.lt_of_lt_of_le h.la g.size, Nat.lt_of_lt_of_le h.lb g.size, h1, h2, h.ne, h3⟩
theorem XS.set {w W : World} {X A B n : Nat} {q q' : List Value} (h : XS w X A B n q W) (o : Nat) (vs : List Value) (hq : (W.setCells B o vs).rangeAt B 0 q') : XS w X A B n q' (W.setCells B o vs) :=
  ⟨hq, World.there_setCells h.box _ _ _, World.there_setCells h.ans _ _ _, gb_onR h.grown (below_sets h.nb vs o _ (Below.refl _ W)) (Nat.le_refl _), by rw [size_sets]; exact h.la, by rw [size_sets]; exact h.lb, h.na, h.nb, h.ne, h.lx⟩
theorem XS.st {w W : World} {D X A B n o : Nat} {q vs : List Value} {zs : List Int} {e : Int} (h : XS w X A B n q W) (hs : RSt D W X zs e) : RSt D (W.setCells B o vs) X zs e :=
  hs.gb (gb_setsR W B vs o) (.inr (by have := h.nb; have := h.lx; omega))
theorem RSt.err {D X : Nat} {w : World} {zs : List Int} {e : Int} (h : RSt D w X zs e) : w.cell? ⟨X, 2, none⟩ = some (.int .i64 e) := by
  obtain ⟨_, _, hR, _⟩ := h
  exact hR.2.2.2.1
theorem RSt.bad {D X : Nat} {w : World} {zs : List Int} {e : Int} (h : RSt D w X zs e) (e' : Int) (he : e' ≠ 0) : RSt D (w.setCells X 2 [.int .i64 e']) X zs e' := by
  obtain ⟨a, p, hR, _⟩ := h
  exact ⟨a, p, hR.set2 e', fun h => absurd h he⟩
theorem RSt.there {D X : Nat} {w : World} {zs : List Int} {e : Int} (h : RSt D w X zs e) : w.there X 0 3 := by
  obtain ⟨_, _, hR, _⟩ := h
  obtain ⟨_, ⟨a, cap, c0, _⟩, c1, c2, f0, f1, f2, _⟩ := hR
  intro j hj
  match j, hj with
  | 0, _ => exact ⟨by show (w.cell? ⟨X, 0, none⟩).isSome = true; rw [c0]; rfl, f0⟩
  | 1, _ => exact ⟨by show (w.cell? ⟨X, 1, none⟩).isSome = true; rw [c1]; rfl, f1⟩
  | 2, _ => exact ⟨by show (w.cell? ⟨X, 2, none⟩).isSome = true; rw [c2]; rfl, f2⟩
/-- the error behind a kind -/
def kdE (rest : List Int) (e most : Int) : Int := if (numS rest e most).2.2 == 0 then (if (numS rest e most).1 == 0 then 130 else (numS rest e most).2.2) else (numS rest e most).2.2
/-- a vote that the document reads -/
def xvtS (rest : List Int) (e : Int) : Vt × List Int × Int :=
  let x0 := numS rest e 2
  let x1 := numS x0.2.1 (kdE rest e 2) 1048576
  let x2 := numS x1.2.1 x1.2.2 1099511627776
  let x3 := numS x2.2.1 x2.2.2 1099511627776
  let x4 := rawS x3.2.1 x3.2.2 32
  (⟨x0.1, x1.1, x2.1, x3.1, padN 32 x4.1⟩, x4.2.1, x4.2.2)
set_option maxRecDepth 100000 in
set_option maxHeartbeats 1000000 in
theorem xgetVote_any (D X : Nat) (rest : List Int) (e : Int) (w : World) (h : RSt D w X rest e) (hX : X < w.heap.size) (hDX : D ≤ X) : Calls Tryz.prog 93 #[.pointer (some ⟨X, 0, none⟩)] w fun en w' => en = .returned (.agg (xvtS rest e).1.cells.toArray) ∧ RSt D w' X (xvtS rest e).2.1 (xvtS rest e).2.2 ∧ w.grownBy w' (some X) := by
  obtain ⟨zc, hzr, hzl, tz, htl, hzc⟩ := zeroVt
  have c0 := fun w0 h0 => refNum_any (B := D) X rest e 2 w0 h0
  unfold xvtS kdE
  simp only
  obtain ⟨v0, hv0⟩ : ∃ x, (numS rest e 2).1 = x := ⟨_, rfl⟩
  obtain ⟨r0, hr0⟩ : ∃ x, (numS rest e 2).2.1 = x := ⟨_, rfl⟩
  obtain ⟨e0, he0⟩ : ∃ x, (numS rest e 2).2.2 = x := ⟨_, rfl⟩
  simp only [hv0, hr0, he0] at c0 ⊢
  clear hv0 hr0 he0
  obtain ⟨b0, hb0⟩ : ∃ b, Hid ((e0 == 0) = b) := ⟨_, hide rfl⟩
  obtain ⟨b1, hb1⟩ : ∃ b, Hid ((v0 == 0) = b) := ⟨_, hide rfl⟩
  rw [hb0.out, hb1.out]
  obtain ⟨ek, hek⟩ : ∃ x : Int, Hid ((if b0 = true then (if b1 = true then 130 else e0) else e0) = x) := ⟨_, hide rfl⟩
  rw [hek.out]
  have c1 := fun w0 h0 => refNum_any (B := D) X r0 ek 1048576 w0 h0
  obtain ⟨v1, hv1⟩ : ∃ x, (numS r0 ek 1048576).1 = x := ⟨_, rfl⟩
  obtain ⟨r1, hr1⟩ : ∃ x, (numS r0 ek 1048576).2.1 = x := ⟨_, rfl⟩
  obtain ⟨e1, he1⟩ : ∃ x, (numS r0 ek 1048576).2.2 = x := ⟨_, rfl⟩
  simp only [hv1, hr1, he1] at c1 ⊢
  clear hv1 hr1 he1
  have c2 := fun w0 h0 => refNum_any (B := D) X r1 e1 1099511627776 w0 h0
  obtain ⟨v2, hv2⟩ : ∃ x, (numS r1 e1 1099511627776).1 = x := ⟨_, rfl⟩
  obtain ⟨r2, hr2⟩ : ∃ x, (numS r1 e1 1099511627776).2.1 = x := ⟨_, rfl⟩
  obtain ⟨e2, he2⟩ : ∃ x, (numS r1 e1 1099511627776).2.2 = x := ⟨_, rfl⟩
  simp only [hv2, hr2, he2] at c2 ⊢
  clear hv2 hr2 he2
  have c3 := fun w0 h0 => refNum_any (B := D) X r2 e2 1099511627776 w0 h0
  obtain ⟨v3, hv3⟩ : ∃ x, (numS r2 e2 1099511627776).1 = x := ⟨_, rfl⟩
  obtain ⟨r3, hr3⟩ : ∃ x, (numS r2 e2 1099511627776).2.1 = x := ⟨_, rfl⟩
  obtain ⟨e3, he3⟩ : ∃ x, (numS r2 e2 1099511627776).2.2 = x := ⟨_, rfl⟩
  simp only [hv3, hr3, he3] at c3 ⊢
  clear hv3 hr3 he3
  have c4 := fun w0 h0 hx => xdigestR_any D X r3 e3 w0 h0 hx hDX
  have hdl : (v8 (padN 32 (rawS r3 e3 32).1)).length = 32 := by rw [v8_length, padN_len]
  have hd1 := v8_one (padN 32 (rawS r3 e3 32).1)
  show Calls Tryz.prog 93 _ w fun en w' => en = .returned (.agg (Value.int .i64 v0 :: .int .i64 v1 :: .int .i64 v2 :: .int .i64 v3 :: v8 (padN 32 (rawS r3 e3 32).1)).toArray) ∧ _
  obtain ⟨dv, hdv⟩ : ∃ t, v8 (padN 32 (rawS r3 e3 32).1) = t := ⟨_, rfl⟩
  obtain ⟨r4, hr4⟩ : ∃ x, (rawS r3 e3 32).2.1 = x := ⟨_, rfl⟩
  obtain ⟨e4, he4⟩ : ∃ x, (rawS r3 e3 32).2.2 = x := ⟨_, rfl⟩
  simp only [hdv, hr4, he4] at c4 hdl hd1 ⊢
  clear hdv hr4 he4
  have hpl : (Value.int .i64 v0 :: .int .i64 v1 :: .int .i64 v2 :: .int .i64 v3 :: dv).length = 36 := by simp only [List.length_cons, hdl]
  have hip : (Tryz.prog.info? 28).map (·.size) = some (Value.int .i64 v0 :: .int .i64 v1 :: .int .i64 v2 :: .int .i64 v3 :: dv).length := by rw [hpl]; exact iszVo
  have hp1 : ∀ v ∈ (Value.int .i64 v0 :: .int .i64 v1 :: .int .i64 v2 :: .int .i64 v3 :: dv), v.oneCell' = true := fun v hv => by
    simp only [List.mem_cons] at hv
    rcases hv with rfl | rfl | rfl | rfl | hv
    · rfl
    · rfl
    · rfl
    · rfl
    · exact hd1 v hv
  obtain ⟨hB1, hr1, hs1⟩ := boxed_new w zc 28
  have ht1 := there_newN w zc.toArray 28 (n := 36) (by simp [hzl])
  obtain ⟨pc, hpc⟩ : ∃ p, Hid (Value.int .i64 v0 :: .int .i64 v1 :: .int .i64 v2 :: .int .i64 v3 :: dv = p) := ⟨_, hide rfl⟩
  rw [hpc.out] at hpl hip hp1 ⊢
  go_enter Tryz.func93, Tryz.ntmps93
  go_upto_region 0 with fail
  try simp only [Act.put]
  refine pl_begin ?_
  refine pl_run (d := some 2) (v := .pointer (some ⟨w.heap.size, 0, none⟩)) (w' := w.alloc (.cells zc.toArray 28)) (by rfl) (ex_alloc rfl (hzr _)) rfl ?_
  simp only [Act.put, List.setIfInBounds_toArray, List.set_cons_zero, List.set_cons_succ]
  refine pl_nil ?_
  obtain ⟨W1, hW1⟩ : ∃ W, w.alloc (.cells zc.toArray 28) = W := ⟨_, rfl⟩
  rw [hW1] at hB1 hr1 hs1 ht1 ⊢
  clear hW1 hr1
  obtain ⟨hB2, hr2, hs2⟩ := boxed_new W1 zc 28
  have ht2 := there_newN W1 zc.toArray 28 (n := 36) (by simp [hzl])
  go_upto_region 1 with fail
  try simp only [Act.put]
  refine pl_begin ?_
  refine pl_run (d := some 3) (v := .pointer (some ⟨W1.heap.size, 0, none⟩)) (w' := W1.alloc (.cells zc.toArray 28)) (by rfl) (ex_alloc rfl (hzr _)) rfl ?_
  simp only [Act.put, List.setIfInBounds_toArray, List.set_cons_zero, List.set_cons_succ]
  refine pl_nil ?_
  obtain ⟨W2, hW2⟩ : ∃ W, W1.alloc (.cells zc.toArray 28) = W := ⟨_, rfl⟩
  rw [hW2] at hB2 hr2 hs2 ht2 ⊢
  clear hW2
  rw [hzc] at hr2
  have hBW := hB1.trans (hB2.mono hB1.size)
  have V0 : XS w X w.heap.size W1.heap.size 36 _ W2 := ⟨hr2, ht2, there_belowN ht1 hB2 hs1, gb_below hBW _, Nat.lt_of_lt_of_le hs1 hB2.size, hs2, Nat.le_refl _, hB1.size, by omega, hX⟩
  have s2 := h.below hBW
  clear hr2 ht2 ht1 hzr hzc hzl hB1 hB2 hBW hs2 h
  go_upto_region 2 with fail
  try simp only [Act.put]
  refine pl_begin ?_
  refine pl_take (d := some 4) (v := ?_) (by rfl) ?_ rfl ?_
  rotate_left
  · go_simp
    try with_reducible rfl
  simp only [Act.put, List.setIfInBounds_toArray, List.set_cons_zero, List.set_cons_succ]
  refine pl_call (d := some 5) (by rfl) (by go_simp; first | done | exact ⟨rfl, rfl⟩ | with_reducible rfl) rfl ?_
  refine (c0 W2 s2).mono ?_
  rintro _ wa0 ⟨rfl, sa0, ga0⟩
  refine ⟨_, rfl, ?_⟩
  simp only [Act.put, List.setIfInBounds_toArray, List.set_cons_zero, List.set_cons_succ]
  refine pl_take (d := some 6) (v := ?_) (by rfl) ?_ rfl ?_
  rotate_left
  · go_simp
    try with_reducible rfl
  simp only [Act.put, List.setIfInBounds_toArray, List.set_cons_zero, List.set_cons_succ]
  have Va0 := V0.gb ga0
  have Vb0 := Va0.set 0 [.int .i64 v0] (vt_put Va0.row _).1
  have sb0 := Va0.st (o := 0) (vs := [.int .i64 v0]) sa0
  refine pl_store (w' := wa0.setCells W1.heap.size 0 [.int .i64 v0]) (by rfl) (ex_put1 (n := 36) rfl rfl rfl Va0.box (by decide) iszI rfl rfl) rfl ?_
  refine pl_nil ?_
  obtain ⟨wb0, hwb0⟩ : ∃ W, wa0.setCells W1.heap.size 0 [.int .i64 v0] = W := ⟨_, rfl⟩
  rw [hwb0] at Vb0 sb0 ⊢
  clear hwb0 Va0 sa0 ga0
  clear c0 V0 s2
  go_upto_region 3 with fail
  try simp only [Act.put]
  refine pl_begin ?_
  refine pl_take (d := some 7) (v := ?_) (by rfl) ?_ rfl ?_
  rotate_left
  · go_simp
    try with_reducible rfl
  simp only [Act.put, List.setIfInBounds_toArray, List.set_cons_zero, List.set_cons_succ]
  refine pl_take (d := some 8) (v := ?_) (by rfl) ?_ rfl ?_
  rotate_left
  · go_simp
    try with_reducible rfl
  simp only [Act.put, List.setIfInBounds_toArray, List.set_cons_zero, List.set_cons_succ]
  refine pl_take (d := some 9) (v := ?_) (by rfl) ?_ rfl ?_
  rotate_left
  · go_simp
    try with_reducible rfl
  simp only [Act.put, List.setIfInBounds_toArray, List.set_cons_zero, List.set_cons_succ]
  refine pl_take (d := some 10) (v := .int .i64 e0) (by rfl) (pl_one rfl rfl sb0.err Tryz.underlying3 rfl) rfl ?_
  simp only [Act.put, List.setIfInBounds_toArray, List.set_cons_zero, List.set_cons_succ]
  refine pl_take (d := some 11) (v := .bool b0) (by rfl) (by rw [← hb0.out]; go_simp) rfl ?_
  simp only [Act.put, List.setIfInBounds_toArray, List.set_cons_zero, List.set_cons_succ]
  cases b0
  · refine pl_take (d := some 12) (v := ?_) (by rfl) ?_ rfl ?_
    rotate_left
    · go_simp
      try with_reducible rfl
    simp only [Act.put, List.setIfInBounds_toArray, List.set_cons_zero, List.set_cons_succ]
    refine pl_skip (d := some 13) (by rfl) rfl ?_
    simp only [Act.put, List.setIfInBounds_toArray, List.set_cons_zero, List.set_cons_succ]
    refine pl_skip (d := some 14) (by rfl) rfl ?_
    simp only [Act.put, List.setIfInBounds_toArray, List.set_cons_zero, List.set_cons_succ]
    refine pl_skip (d := some 15) (by rfl) rfl ?_
    simp only [Act.put, List.setIfInBounds_toArray, List.set_cons_zero, List.set_cons_succ]
    refine pl_take (d := some 16) (v := ?_) (by rfl) ?_ rfl ?_
    rotate_left
    · go_simp
      try with_reducible rfl
    simp only [Act.put, List.setIfInBounds_toArray, List.set_cons_zero, List.set_cons_succ]
    refine pl_nil ?_
    obtain rfl : ek = e0 := by have := hek.out; simpa using this.symm
    have sk := sb0
    have Vk := Vb0
    go_upto_region 5 with fail
    try simp only [Act.put]
    refine pl_begin ?_
    refine pl_take (d := some 20) (v := ?_) (by rfl) ?_ rfl ?_
    rotate_left
    · go_simp
      try with_reducible rfl
    simp only [Act.put, List.setIfInBounds_toArray, List.set_cons_zero, List.set_cons_succ]
    refine pl_call (d := some 21) (by rfl) (by go_simp; first | done | exact ⟨rfl, rfl⟩ | with_reducible rfl) rfl ?_
    refine (c1 wb0 sk).mono ?_
    rintro _ wa1 ⟨rfl, sa1, ga1⟩
    refine ⟨_, rfl, ?_⟩
    simp only [Act.put, List.setIfInBounds_toArray, List.set_cons_zero, List.set_cons_succ]
    refine pl_take (d := some 22) (v := ?_) (by rfl) ?_ rfl ?_
    rotate_left
    · go_simp
      try with_reducible rfl
    simp only [Act.put, List.setIfInBounds_toArray, List.set_cons_zero, List.set_cons_succ]
    have Va1 := Vk.gb ga1
    have Vb1 := Va1.set 1 [.int .i64 v1] (vt_put Va1.row _).2.1
    have sb1 := Va1.st (o := 1) (vs := [.int .i64 v1]) sa1
    refine pl_store (w' := wa1.setCells W1.heap.size 1 [.int .i64 v1]) (by rfl) (ex_put1 (n := 36) rfl rfl rfl Va1.box (by decide) iszI rfl rfl) rfl ?_
    refine pl_nil ?_
    obtain ⟨wb1, hwb1⟩ : ∃ W, wa1.setCells W1.heap.size 1 [.int .i64 v1] = W := ⟨_, rfl⟩
    rw [hwb1] at Vb1 sb1 ⊢
    clear hwb1 Va1 sa1 ga1
    go_upto_region 6 with fail
    try simp only [Act.put]
    refine pl_begin ?_
    refine pl_take (d := some 23) (v := ?_) (by rfl) ?_ rfl ?_
    rotate_left
    · go_simp
      try with_reducible rfl
    simp only [Act.put, List.setIfInBounds_toArray, List.set_cons_zero, List.set_cons_succ]
    refine pl_call (d := some 24) (by rfl) (by go_simp; first | done | exact ⟨rfl, rfl⟩ | with_reducible rfl) rfl ?_
    refine (c2 wb1 sb1).mono ?_
    rintro _ wa2 ⟨rfl, sa2, ga2⟩
    refine ⟨_, rfl, ?_⟩
    simp only [Act.put, List.setIfInBounds_toArray, List.set_cons_zero, List.set_cons_succ]
    refine pl_take (d := some 25) (v := ?_) (by rfl) ?_ rfl ?_
    rotate_left
    · go_simp
      try with_reducible rfl
    simp only [Act.put, List.setIfInBounds_toArray, List.set_cons_zero, List.set_cons_succ]
    have Va2 := Vb1.gb ga2
    have Vb2 := Va2.set 2 [.int .i64 v2] (vt_put Va2.row _).2.2.1
    have sb2 := Va2.st (o := 2) (vs := [.int .i64 v2]) sa2
    refine pl_store (w' := wa2.setCells W1.heap.size 2 [.int .i64 v2]) (by rfl) (ex_put1 (n := 36) rfl rfl rfl Va2.box (by decide) iszI rfl rfl) rfl ?_
    refine pl_nil ?_
    obtain ⟨wb2, hwb2⟩ : ∃ W, wa2.setCells W1.heap.size 2 [.int .i64 v2] = W := ⟨_, rfl⟩
    rw [hwb2] at Vb2 sb2 ⊢
    clear hwb2 Va2 sa2 ga2
    go_upto_region 7 with fail
    try simp only [Act.put]
    refine pl_begin ?_
    refine pl_take (d := some 26) (v := ?_) (by rfl) ?_ rfl ?_
    rotate_left
    · go_simp
      try with_reducible rfl
    simp only [Act.put, List.setIfInBounds_toArray, List.set_cons_zero, List.set_cons_succ]
    refine pl_call (d := some 27) (by rfl) (by go_simp; first | done | exact ⟨rfl, rfl⟩ | with_reducible rfl) rfl ?_
    refine (c3 wb2 sb2).mono ?_
    rintro _ wa3 ⟨rfl, sa3, ga3⟩
    refine ⟨_, rfl, ?_⟩
    simp only [Act.put, List.setIfInBounds_toArray, List.set_cons_zero, List.set_cons_succ]
    refine pl_take (d := some 28) (v := ?_) (by rfl) ?_ rfl ?_
    rotate_left
    · go_simp
      try with_reducible rfl
    simp only [Act.put, List.setIfInBounds_toArray, List.set_cons_zero, List.set_cons_succ]
    have Va3 := Vb2.gb ga3
    have Vb3 := Va3.set 3 [.int .i64 v3] (vt_put Va3.row _).2.2.2
    have sb3 := Va3.st (o := 3) (vs := [.int .i64 v3]) sa3
    refine pl_store (w' := wa3.setCells W1.heap.size 3 [.int .i64 v3]) (by rfl) (ex_put1 (n := 36) rfl rfl rfl Va3.box (by decide) iszI rfl rfl) rfl ?_
    refine pl_nil ?_
    obtain ⟨wb3, hwb3⟩ : ∃ W, wa3.setCells W1.heap.size 3 [.int .i64 v3] = W := ⟨_, rfl⟩
    rw [hwb3] at Vb3 sb3 ⊢
    clear hwb3 Va3 sa3 ga3
    go_upto_region 8 with fail
    try simp only [Act.put]
    refine pl_begin ?_
    refine pl_take (d := some 29) (v := ?_) (by rfl) ?_ rfl ?_
    rotate_left
    · go_simp
      try with_reducible rfl
    simp only [Act.put, List.setIfInBounds_toArray, List.set_cons_zero, List.set_cons_succ]
    refine pl_call (d := some 30) (by rfl) (by go_simp; first | done | exact ⟨rfl, rfl⟩ | with_reducible rfl) rfl ?_
    refine (c4 wb3 sb3 (Nat.lt_of_lt_of_le Vb3.lx Vb3.grown.size)).mono ?_
    rintro _ wd ⟨rfl, sd, gd⟩
    refine ⟨_, rfl, ?_⟩
    simp only [Act.put, List.setIfInBounds_toArray, List.set_cons_zero, List.set_cons_succ]
    refine pl_take (d := some 31) (v := ?_) (by rfl) ?_ rfl ?_
    rotate_left
    · go_simp
      try with_reducible rfl
    simp only [Act.put, List.setIfInBounds_toArray, List.set_cons_zero, List.set_cons_succ]
    have Vd := Vb3.gb gd
    have Ve := Vd.set 4 dv (range_tail4 Vd.row (by rw [hdl]; exact there_part1 Vd.box (by decide)))
    have se := Vd.st (o := 4) (vs := dv) sd
    refine pl_store (w' := wd.setCells W1.heap.size 4 dv) (by rfl) (ex_put (cs := dv.toArray) rfl rfl rfl (by simpa [hdl] using there_part1 Vd.box (o := 4) (m := 32) (by decide)) (by simpa [hdl] using iszD) (all_one hd1)) rfl ?_
    refine pl_nil ?_
    obtain ⟨we, hwe⟩ : ∃ W, wd.setCells W1.heap.size 4 dv = W := ⟨_, rfl⟩
    rw [hwe] at Ve se ⊢
    clear hwe Vd sd gd
    have rpc := Ve.row
    rw [hpc.out] at rpc
    go_upto_region 9 with fail
    try simp only [Act.put]
    refine pl_begin ?_
    refine pl_take (d := some 32) (v := .agg pc.toArray) (by rfl) (ex_mid rfl rfl rpc Tryz.underlying28 rfl hip) rfl ?_
    simp only [Act.put, List.setIfInBounds_toArray, List.set_cons_zero, List.set_cons_succ]
    refine pl_store (w' := we.setCells w.heap.size 0 pc) (by rfl) (ex_put (cs := pc.toArray) rfl rfl rfl (by simpa [hpl] using Ve.ans) (by simpa using hip) (all_one hp1)) rfl ?_
    refine pl_nil ?_
    have hrs := run_loadVar_mid (P := Tryz.prog) (we.setCells w.heap.size 0 pc) w.heap.size 0 28 pc _ (World.rangeAt_setCells_same we w.heap.size 0 pc (by rw [hpl]; exact Ve.ans)) Tryz.underlying28 rfl hip
    have HF : Hid (RSt D (we.setCells w.heap.size 0 pc) X r4 e4 ∧ w.grownBy (we.setCells w.heap.size 0 pc) (some X)) := hide ⟨se.gb (gb_setsR we w.heap.size pc 0) (.inr Ve.lx), gb_onR Ve.grown (below_sets (B := w.heap.size) (b := w.heap.size) (Nat.le_refl _) pc 0 _ (Below.refl _ we)) (Nat.le_refl _)⟩
    clear Ve se rpc
    go_wp2_with fail
    refine bodyPost_ret (v := .agg pc.toArray) ?_ rfl ?_
    · simp [results, Tryz.results93, Act.put, asAddr, hrs]
    · exact ⟨rfl, HF.out⟩
  · refine pl_take (d := some 12) (v := ?_) (by rfl) ?_ rfl ?_
    rotate_left
    · go_simp
      try with_reducible rfl
    simp only [Act.put, List.setIfInBounds_toArray, List.set_cons_zero, List.set_cons_succ]
    refine pl_take (d := some 13) (v := ?_) (by rfl) ?_ rfl ?_
    rotate_left
    · go_simp
      try with_reducible rfl
    simp only [Act.put, List.setIfInBounds_toArray, List.set_cons_zero, List.set_cons_succ]
    refine pl_take (d := some 14) (v := .int .i64 v0) (by rfl) (pl_one rfl rfl (Vb0.row 0 _ rfl) Tryz.underlying3 rfl) rfl ?_
    simp only [Act.put, List.setIfInBounds_toArray, List.set_cons_zero, List.set_cons_succ]
    refine pl_take (d := some 15) (v := .bool b1) (by rfl) (by rw [← hb1.out]; go_simp) rfl ?_
    simp only [Act.put, List.setIfInBounds_toArray, List.set_cons_zero, List.set_cons_succ]
    cases b1
    · refine pl_take (d := some 16) (v := ?_) (by rfl) ?_ rfl ?_
      rotate_left
      · go_simp
        try with_reducible rfl
      simp only [Act.put, List.setIfInBounds_toArray, List.set_cons_zero, List.set_cons_succ]
      refine pl_nil ?_
      obtain rfl : ek = e0 := by have := hek.out; simpa using this.symm
      have sk := sb0
      have Vk := Vb0
      go_upto_region 5 with fail
      try simp only [Act.put]
      refine pl_begin ?_
      refine pl_take (d := some 20) (v := ?_) (by rfl) ?_ rfl ?_
      rotate_left
      · go_simp
        try with_reducible rfl
      simp only [Act.put, List.setIfInBounds_toArray, List.set_cons_zero, List.set_cons_succ]
      refine pl_call (d := some 21) (by rfl) (by go_simp; first | done | exact ⟨rfl, rfl⟩ | with_reducible rfl) rfl ?_
      refine (c1 wb0 sk).mono ?_
      rintro _ wa1 ⟨rfl, sa1, ga1⟩
      refine ⟨_, rfl, ?_⟩
      simp only [Act.put, List.setIfInBounds_toArray, List.set_cons_zero, List.set_cons_succ]
      refine pl_take (d := some 22) (v := ?_) (by rfl) ?_ rfl ?_
      rotate_left
      · go_simp
        try with_reducible rfl
      simp only [Act.put, List.setIfInBounds_toArray, List.set_cons_zero, List.set_cons_succ]
      have Va1 := Vk.gb ga1
      have Vb1 := Va1.set 1 [.int .i64 v1] (vt_put Va1.row _).2.1
      have sb1 := Va1.st (o := 1) (vs := [.int .i64 v1]) sa1
      refine pl_store (w' := wa1.setCells W1.heap.size 1 [.int .i64 v1]) (by rfl) (ex_put1 (n := 36) rfl rfl rfl Va1.box (by decide) iszI rfl rfl) rfl ?_
      refine pl_nil ?_
      obtain ⟨wb1, hwb1⟩ : ∃ W, wa1.setCells W1.heap.size 1 [.int .i64 v1] = W := ⟨_, rfl⟩
      rw [hwb1] at Vb1 sb1 ⊢
      clear hwb1 Va1 sa1 ga1
      go_upto_region 6 with fail
      try simp only [Act.put]
      refine pl_begin ?_
      refine pl_take (d := some 23) (v := ?_) (by rfl) ?_ rfl ?_
      rotate_left
      · go_simp
        try with_reducible rfl
      simp only [Act.put, List.setIfInBounds_toArray, List.set_cons_zero, List.set_cons_succ]
      refine pl_call (d := some 24) (by rfl) (by go_simp; first | done | exact ⟨rfl, rfl⟩ | with_reducible rfl) rfl ?_
      refine (c2 wb1 sb1).mono ?_
      rintro _ wa2 ⟨rfl, sa2, ga2⟩
      refine ⟨_, rfl, ?_⟩
      simp only [Act.put, List.setIfInBounds_toArray, List.set_cons_zero, List.set_cons_succ]
      refine pl_take (d := some 25) (v := ?_) (by rfl) ?_ rfl ?_
      rotate_left
      · go_simp
        try with_reducible rfl
      simp only [Act.put, List.setIfInBounds_toArray, List.set_cons_zero, List.set_cons_succ]
      have Va2 := Vb1.gb ga2
      have Vb2 := Va2.set 2 [.int .i64 v2] (vt_put Va2.row _).2.2.1
      have sb2 := Va2.st (o := 2) (vs := [.int .i64 v2]) sa2
      refine pl_store (w' := wa2.setCells W1.heap.size 2 [.int .i64 v2]) (by rfl) (ex_put1 (n := 36) rfl rfl rfl Va2.box (by decide) iszI rfl rfl) rfl ?_
      refine pl_nil ?_
      obtain ⟨wb2, hwb2⟩ : ∃ W, wa2.setCells W1.heap.size 2 [.int .i64 v2] = W := ⟨_, rfl⟩
      rw [hwb2] at Vb2 sb2 ⊢
      clear hwb2 Va2 sa2 ga2
      go_upto_region 7 with fail
      try simp only [Act.put]
      refine pl_begin ?_
      refine pl_take (d := some 26) (v := ?_) (by rfl) ?_ rfl ?_
      rotate_left
      · go_simp
        try with_reducible rfl
      simp only [Act.put, List.setIfInBounds_toArray, List.set_cons_zero, List.set_cons_succ]
      refine pl_call (d := some 27) (by rfl) (by go_simp; first | done | exact ⟨rfl, rfl⟩ | with_reducible rfl) rfl ?_
      refine (c3 wb2 sb2).mono ?_
      rintro _ wa3 ⟨rfl, sa3, ga3⟩
      refine ⟨_, rfl, ?_⟩
      simp only [Act.put, List.setIfInBounds_toArray, List.set_cons_zero, List.set_cons_succ]
      refine pl_take (d := some 28) (v := ?_) (by rfl) ?_ rfl ?_
      rotate_left
      · go_simp
        try with_reducible rfl
      simp only [Act.put, List.setIfInBounds_toArray, List.set_cons_zero, List.set_cons_succ]
      have Va3 := Vb2.gb ga3
      have Vb3 := Va3.set 3 [.int .i64 v3] (vt_put Va3.row _).2.2.2
      have sb3 := Va3.st (o := 3) (vs := [.int .i64 v3]) sa3
      refine pl_store (w' := wa3.setCells W1.heap.size 3 [.int .i64 v3]) (by rfl) (ex_put1 (n := 36) rfl rfl rfl Va3.box (by decide) iszI rfl rfl) rfl ?_
      refine pl_nil ?_
      obtain ⟨wb3, hwb3⟩ : ∃ W, wa3.setCells W1.heap.size 3 [.int .i64 v3] = W := ⟨_, rfl⟩
      rw [hwb3] at Vb3 sb3 ⊢
      clear hwb3 Va3 sa3 ga3
      go_upto_region 8 with fail
      try simp only [Act.put]
      refine pl_begin ?_
      refine pl_take (d := some 29) (v := ?_) (by rfl) ?_ rfl ?_
      rotate_left
      · go_simp
        try with_reducible rfl
      simp only [Act.put, List.setIfInBounds_toArray, List.set_cons_zero, List.set_cons_succ]
      refine pl_call (d := some 30) (by rfl) (by go_simp; first | done | exact ⟨rfl, rfl⟩ | with_reducible rfl) rfl ?_
      refine (c4 wb3 sb3 (Nat.lt_of_lt_of_le Vb3.lx Vb3.grown.size)).mono ?_
      rintro _ wd ⟨rfl, sd, gd⟩
      refine ⟨_, rfl, ?_⟩
      simp only [Act.put, List.setIfInBounds_toArray, List.set_cons_zero, List.set_cons_succ]
      refine pl_take (d := some 31) (v := ?_) (by rfl) ?_ rfl ?_
      rotate_left
      · go_simp
        try with_reducible rfl
      simp only [Act.put, List.setIfInBounds_toArray, List.set_cons_zero, List.set_cons_succ]
      have Vd := Vb3.gb gd
      have Ve := Vd.set 4 dv (range_tail4 Vd.row (by rw [hdl]; exact there_part1 Vd.box (by decide)))
      have se := Vd.st (o := 4) (vs := dv) sd
      refine pl_store (w' := wd.setCells W1.heap.size 4 dv) (by rfl) (ex_put (cs := dv.toArray) rfl rfl rfl (by simpa [hdl] using there_part1 Vd.box (o := 4) (m := 32) (by decide)) (by simpa [hdl] using iszD) (all_one hd1)) rfl ?_
      refine pl_nil ?_
      obtain ⟨we, hwe⟩ : ∃ W, wd.setCells W1.heap.size 4 dv = W := ⟨_, rfl⟩
      rw [hwe] at Ve se ⊢
      clear hwe Vd sd gd
      have rpc := Ve.row
      rw [hpc.out] at rpc
      go_upto_region 9 with fail
      try simp only [Act.put]
      refine pl_begin ?_
      refine pl_take (d := some 32) (v := .agg pc.toArray) (by rfl) (ex_mid rfl rfl rpc Tryz.underlying28 rfl hip) rfl ?_
      simp only [Act.put, List.setIfInBounds_toArray, List.set_cons_zero, List.set_cons_succ]
      refine pl_store (w' := we.setCells w.heap.size 0 pc) (by rfl) (ex_put (cs := pc.toArray) rfl rfl rfl (by simpa [hpl] using Ve.ans) (by simpa using hip) (all_one hp1)) rfl ?_
      refine pl_nil ?_
      have hrs := run_loadVar_mid (P := Tryz.prog) (we.setCells w.heap.size 0 pc) w.heap.size 0 28 pc _ (World.rangeAt_setCells_same we w.heap.size 0 pc (by rw [hpl]; exact Ve.ans)) Tryz.underlying28 rfl hip
      have HF : Hid (RSt D (we.setCells w.heap.size 0 pc) X r4 e4 ∧ w.grownBy (we.setCells w.heap.size 0 pc) (some X)) := hide ⟨se.gb (gb_setsR we w.heap.size pc 0) (.inr Ve.lx), gb_onR Ve.grown (below_sets (B := w.heap.size) (b := w.heap.size) (Nat.le_refl _) pc 0 _ (Below.refl _ we)) (Nat.le_refl _)⟩
      clear Ve se rpc
      go_wp2_with fail
      refine bodyPost_ret (v := .agg pc.toArray) ?_ rfl ?_
      · simp [results, Tryz.results93, Act.put, asAddr, hrs]
      · exact ⟨rfl, HF.out⟩
    · refine pl_take (d := some 16) (v := ?_) (by rfl) ?_ rfl ?_
      rotate_left
      · go_simp
        try with_reducible rfl
      simp only [Act.put, List.setIfInBounds_toArray, List.set_cons_zero, List.set_cons_succ]
      refine pl_nil ?_
      obtain rfl : ek = 130 := by have := hek.out; simpa using this.symm
      go_upto_region 4 with fail
      try simp only [Act.put]
      refine pl_begin ?_
      refine pl_take (d := some 17) (v := ?_) (by rfl) ?_ rfl ?_
      rotate_left
      · go_simp
        try with_reducible rfl
      simp only [Act.put, List.setIfInBounds_toArray, List.set_cons_zero, List.set_cons_succ]
      refine pl_take (d := some 18) (v := ?_) (by rfl) ?_ rfl ?_
      rotate_left
      · go_simp
        try with_reducible rfl
      simp only [Act.put, List.setIfInBounds_toArray, List.set_cons_zero, List.set_cons_succ]
      refine pl_take (d := some 19) (v := ?_) (by rfl) ?_ rfl ?_
      rotate_left
      · go_simp
        try with_reducible rfl
      simp only [Act.put, List.setIfInBounds_toArray, List.set_cons_zero, List.set_cons_succ]
      have sk := sb0.bad 130 (by decide)
      have Vk := Vb0.gb (gb_setsR wb0 X [.int .i64 130] 2)
      refine pl_store (w' := wb0.setCells X 2 [.int .i64 130]) (by rfl) (ex_put1 (n := 3) rfl rfl rfl sb0.there (by decide) iszI rfl rfl) rfl ?_
      refine pl_nil ?_
      obtain ⟨wk, hwk⟩ : ∃ W, wb0.setCells X 2 [.int .i64 130] = W := ⟨_, rfl⟩
      rw [hwk] at sk Vk ⊢
      clear hwk
      go_upto_region 5 with fail
      try simp only [Act.put]
      refine pl_begin ?_
      refine pl_take (d := some 20) (v := ?_) (by rfl) ?_ rfl ?_
      rotate_left
      · go_simp
        try with_reducible rfl
      simp only [Act.put, List.setIfInBounds_toArray, List.set_cons_zero, List.set_cons_succ]
      refine pl_call (d := some 21) (by rfl) (by go_simp; first | done | exact ⟨rfl, rfl⟩ | with_reducible rfl) rfl ?_
      refine (c1 wk sk).mono ?_
      rintro _ wa1 ⟨rfl, sa1, ga1⟩
      refine ⟨_, rfl, ?_⟩
      simp only [Act.put, List.setIfInBounds_toArray, List.set_cons_zero, List.set_cons_succ]
      refine pl_take (d := some 22) (v := ?_) (by rfl) ?_ rfl ?_
      rotate_left
      · go_simp
        try with_reducible rfl
      simp only [Act.put, List.setIfInBounds_toArray, List.set_cons_zero, List.set_cons_succ]
      have Va1 := Vk.gb ga1
      have Vb1 := Va1.set 1 [.int .i64 v1] (vt_put Va1.row _).2.1
      have sb1 := Va1.st (o := 1) (vs := [.int .i64 v1]) sa1
      refine pl_store (w' := wa1.setCells W1.heap.size 1 [.int .i64 v1]) (by rfl) (ex_put1 (n := 36) rfl rfl rfl Va1.box (by decide) iszI rfl rfl) rfl ?_
      refine pl_nil ?_
      obtain ⟨wb1, hwb1⟩ : ∃ W, wa1.setCells W1.heap.size 1 [.int .i64 v1] = W := ⟨_, rfl⟩
      rw [hwb1] at Vb1 sb1 ⊢
      clear hwb1 Va1 sa1 ga1
      go_upto_region 6 with fail
      try simp only [Act.put]
      refine pl_begin ?_
      refine pl_take (d := some 23) (v := ?_) (by rfl) ?_ rfl ?_
      rotate_left
      · go_simp
        try with_reducible rfl
      simp only [Act.put, List.setIfInBounds_toArray, List.set_cons_zero, List.set_cons_succ]
      refine pl_call (d := some 24) (by rfl) (by go_simp; first | done | exact ⟨rfl, rfl⟩ | with_reducible rfl) rfl ?_
      refine (c2 wb1 sb1).mono ?_
      rintro _ wa2 ⟨rfl, sa2, ga2⟩
      refine ⟨_, rfl, ?_⟩
      simp only [Act.put, List.setIfInBounds_toArray, List.set_cons_zero, List.set_cons_succ]
      refine pl_take (d := some 25) (v := ?_) (by rfl) ?_ rfl ?_
      rotate_left
      · go_simp
        try with_reducible rfl
      simp only [Act.put, List.setIfInBounds_toArray, List.set_cons_zero, List.set_cons_succ]
      have Va2 := Vb1.gb ga2
      have Vb2 := Va2.set 2 [.int .i64 v2] (vt_put Va2.row _).2.2.1
      have sb2 := Va2.st (o := 2) (vs := [.int .i64 v2]) sa2
      refine pl_store (w' := wa2.setCells W1.heap.size 2 [.int .i64 v2]) (by rfl) (ex_put1 (n := 36) rfl rfl rfl Va2.box (by decide) iszI rfl rfl) rfl ?_
      refine pl_nil ?_
      obtain ⟨wb2, hwb2⟩ : ∃ W, wa2.setCells W1.heap.size 2 [.int .i64 v2] = W := ⟨_, rfl⟩
      rw [hwb2] at Vb2 sb2 ⊢
      clear hwb2 Va2 sa2 ga2
      go_upto_region 7 with fail
      try simp only [Act.put]
      refine pl_begin ?_
      refine pl_take (d := some 26) (v := ?_) (by rfl) ?_ rfl ?_
      rotate_left
      · go_simp
        try with_reducible rfl
      simp only [Act.put, List.setIfInBounds_toArray, List.set_cons_zero, List.set_cons_succ]
      refine pl_call (d := some 27) (by rfl) (by go_simp; first | done | exact ⟨rfl, rfl⟩ | with_reducible rfl) rfl ?_
      refine (c3 wb2 sb2).mono ?_
      rintro _ wa3 ⟨rfl, sa3, ga3⟩
      refine ⟨_, rfl, ?_⟩
      simp only [Act.put, List.setIfInBounds_toArray, List.set_cons_zero, List.set_cons_succ]
      refine pl_take (d := some 28) (v := ?_) (by rfl) ?_ rfl ?_
      rotate_left
      · go_simp
        try with_reducible rfl
      simp only [Act.put, List.setIfInBounds_toArray, List.set_cons_zero, List.set_cons_succ]
      have Va3 := Vb2.gb ga3
      have Vb3 := Va3.set 3 [.int .i64 v3] (vt_put Va3.row _).2.2.2
      have sb3 := Va3.st (o := 3) (vs := [.int .i64 v3]) sa3
      refine pl_store (w' := wa3.setCells W1.heap.size 3 [.int .i64 v3]) (by rfl) (ex_put1 (n := 36) rfl rfl rfl Va3.box (by decide) iszI rfl rfl) rfl ?_
      refine pl_nil ?_
      obtain ⟨wb3, hwb3⟩ : ∃ W, wa3.setCells W1.heap.size 3 [.int .i64 v3] = W := ⟨_, rfl⟩
      rw [hwb3] at Vb3 sb3 ⊢
      clear hwb3 Va3 sa3 ga3
      go_upto_region 8 with fail
      try simp only [Act.put]
      refine pl_begin ?_
      refine pl_take (d := some 29) (v := ?_) (by rfl) ?_ rfl ?_
      rotate_left
      · go_simp
        try with_reducible rfl
      simp only [Act.put, List.setIfInBounds_toArray, List.set_cons_zero, List.set_cons_succ]
      refine pl_call (d := some 30) (by rfl) (by go_simp; first | done | exact ⟨rfl, rfl⟩ | with_reducible rfl) rfl ?_
      refine (c4 wb3 sb3 (Nat.lt_of_lt_of_le Vb3.lx Vb3.grown.size)).mono ?_
      rintro _ wd ⟨rfl, sd, gd⟩
      refine ⟨_, rfl, ?_⟩
      simp only [Act.put, List.setIfInBounds_toArray, List.set_cons_zero, List.set_cons_succ]
      refine pl_take (d := some 31) (v := ?_) (by rfl) ?_ rfl ?_
      rotate_left
      · go_simp
        try with_reducible rfl
      simp only [Act.put, List.setIfInBounds_toArray, List.set_cons_zero, List.set_cons_succ]
      have Vd := Vb3.gb gd
      have Ve := Vd.set 4 dv (range_tail4 Vd.row (by rw [hdl]; exact there_part1 Vd.box (by decide)))
      have se := Vd.st (o := 4) (vs := dv) sd
      refine pl_store (w' := wd.setCells W1.heap.size 4 dv) (by rfl) (ex_put (cs := dv.toArray) rfl rfl rfl (by simpa [hdl] using there_part1 Vd.box (o := 4) (m := 32) (by decide)) (by simpa [hdl] using iszD) (all_one hd1)) rfl ?_
      refine pl_nil ?_
      obtain ⟨we, hwe⟩ : ∃ W, wd.setCells W1.heap.size 4 dv = W := ⟨_, rfl⟩
      rw [hwe] at Ve se ⊢
      clear hwe Vd sd gd
      have rpc := Ve.row
      rw [hpc.out] at rpc
      go_upto_region 9 with fail
      try simp only [Act.put]
      refine pl_begin ?_
      refine pl_take (d := some 32) (v := .agg pc.toArray) (by rfl) (ex_mid rfl rfl rpc Tryz.underlying28 rfl hip) rfl ?_
      simp only [Act.put, List.setIfInBounds_toArray, List.set_cons_zero, List.set_cons_succ]
      refine pl_store (w' := we.setCells w.heap.size 0 pc) (by rfl) (ex_put (cs := pc.toArray) rfl rfl rfl (by simpa [hpl] using Ve.ans) (by simpa using hip) (all_one hp1)) rfl ?_
      refine pl_nil ?_
      have hrs := run_loadVar_mid (P := Tryz.prog) (we.setCells w.heap.size 0 pc) w.heap.size 0 28 pc _ (World.rangeAt_setCells_same we w.heap.size 0 pc (by rw [hpl]; exact Ve.ans)) Tryz.underlying28 rfl hip
      have HF : Hid (RSt D (we.setCells w.heap.size 0 pc) X r4 e4 ∧ w.grownBy (we.setCells w.heap.size 0 pc) (some X)) := hide ⟨se.gb (gb_setsR we w.heap.size pc 0) (.inr Ve.lx), gb_onR Ve.grown (below_sets (B := w.heap.size) (b := w.heap.size) (Nat.le_refl _) pc 0 _ (Below.refl _ we)) (Nat.le_refl _)⟩
      clear Ve se rpc
      go_wp2_with fail
      refine bodyPost_ret (v := .agg pc.toArray) ?_ rfl ?_
      · simp [results, Tryz.results93, Act.put, asAddr, hrs]
      · exact ⟨rfl, HF.out⟩
end Go.Proofs.YtgjalkbianpibaaGreat
