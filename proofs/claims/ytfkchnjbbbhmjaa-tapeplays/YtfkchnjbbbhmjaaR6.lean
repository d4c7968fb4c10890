/- an act done to both tapes -/
import Derived.Test.YtfkchnjbbbhmjaaR5
namespace Go.Proofs.Ytfkchnjbbbhmjaa
open Go.RowKit
set_option linter.unusedVariables false
/-- the program's tape and the document's, of one state; neither in a block of A -/
structure Two (A : Nat → Prop) (w : World) (t : Tv) (r : Rv) (M : Mt) : Prop where
  tp : TapeAt w t M
  rf : RefAt w r M
  d : ∀ b, t.own b → ¬ r.own b
  ta : ∀ b, t.own b → ¬ A b
  ra : ∀ b, r.own b → ¬ A b
theorem Two.below {A : Nat → Prop} {w w' : World} {t : Tv} {r : Rv} {M : Mt} (h : Two A w t r M) (hb : Below w.heap.size w w') : Two A w' t r M := ⟨h.tp.below hb, h.rf.below hb, h.d, h.ta, h.ra⟩
/-- both have gone on -/
structure Mid2 (A : Nat → Prop) (w w1 : World) (t t1 : Tv) (r : Rv) (M M1 : Mt) : Prop where
  p : t1.p = t.p
  tp : TapeAt w1 t1 M1
  rf : RefAt w1 r M
  d : ∀ b, t1.own b → ¬ r.own b
  ta : ∀ b, t1.own b → ¬ A b
  off : Off t.own w w1
  fresh : ∀ b, t1.own b → t.own b ∨ w.heap.size ≤ b
theorem Two.first {A : Nat → Prop} {w w1 : World} {t : Tv} {r : Rv} {M M1 : Mt} (h : Two A w t r M) (hA : ∀ b, A b → b < w.heap.size) (hT : Turned w w1 t M1) : ∃ t1, Mid2 A w w1 t t1 r M M1 := by
  obtain ⟨t1, e1, e2, e3, e4⟩ := hT
  refine ⟨t1, e1, e2, h.rf.off e3 (fun b q q1 => h.d b q1 q), fun b q q1 => ?_, fun b q q1 => ?_, e3, e4⟩
  · rcases e4 b q with q2 | q2
    · exact h.d b q2 q1
    · have := h.rf.own_lt q1; omega
  · rcases e4 b q with q2 | q2
    · exact h.ta b q2 q1
    · have := hA b q1; omega
/-- what both come to -/
def Next2 (A : Nat → Prop) (w w' : World) (t : Tv) (r : Rv) (M' : Mt) : Prop := ∃ t' r', t'.p = t.p ∧ r'.r = r.r ∧ Two A w' t' r' M' ∧ Off (fun b => ¬ A b) w w'
theorem Mid2.second {A : Nat → Prop} {w w1 w2 w3 : World} {t t1 : Tv} {r : Rv} {M1 : Mt} (hw : Off (fun b => ¬ A b) w w1) (hra : ∀ b, r.own b → ¬ A b) (hA : ∀ b, A b → b < w.heap.size) (hp : t1.p = t.p) (ht : TapeAt w2 t1 M1) (hd : ∀ b, t1.own b → ¬ r.own b) (hta : ∀ b, t1.own b → ¬ A b) (ho : Off (fun b => ¬ A b) w1 w2) (hR : RTurned w2 w3 r M1) : Next2 A w w3 t r M1 := by
  obtain ⟨r1, e1, e2, e3, e4⟩ := hR
  have hw2 : Off (fun b => ¬ A b) w w2 := hw.trans ho (fun _ _ q => q)
  refine ⟨t1, r1, hp, e1, ⟨ht.off e3 (fun b q q1 => hd b q (.inl q1)), e2, fun b q q1 => ?_, hta, fun b q q1 => ?_⟩, hw2.trans e3 (fun b _ q => by rw [q]; exact hra _ (.inl rfl))⟩
  · rcases e4 b q1 with q2 | q2
    · exact hd b q q2
    · have := ht.own_lt q; omega
  · rcases e4 b q with q2 | q2
    · exact hra b q2 q1
    · have := hA b q1; have := hw2.size; omega
/-- the state behind an act -/
def actM (M : Mt) (y : Ac) : Mt :=
  if y.kind = 0 then (M.append y.area y.zs).2 else if y.kind = 1 then (M.sync y.area).2 else if y.kind = 2 then (M.empty y.area).2 else if y.kind = 3 then (M.arm y.n y.keep).2 else if y.kind = 4 then (M.fail y.keep).2 else if y.kind = 5 then { M with on := true } else M
set_option maxRecDepth 100000 in
set_option maxHeartbeats 4000000 in
theorem both_1 (t : Tv) (r : Rv) (M : Mt) (y : Ac) (A : Nat → Prop) (w : World) (h : Two A w t r M) (hA : ∀ b, A b → b < w.heap.size) (hyo : y.ok w) (hk : y.kind = 1) :
    Calls Try.prog 12 #[tptr t, rptr r, .agg y.cells.toArray] w fun e w' => e = .returned (.bool true) ∧ Next2 A w w' t r (M.sync y.area).2 := by
  have hB1 : Below w.heap.size w (w.alloc (.cells y.cells.toArray 31)) := (Below.refl _ _).alloc (Nat.le_refl _) _
  have hR1 : (w.alloc (.cells y.cells.toArray 31)).rangeAt w.heap.size 0 y.cells := by simpa using range_new w y.cells.toArray 31
  obtain ⟨w1, hw1⟩ : ∃ w1, w.alloc (.cells y.cells.toArray 31) = w1 := ⟨_, rfl⟩
  have hX1 : w.heap.size < w1.heap.size := by rw [← hw1]; simp
  rw [hw1] at hB1 hR1
  have y0 := (act_cells hR1).1
  have y1 := (act_cells hR1).2.1
  have y3 := (act_cells hR1).2.2.2.1
  have y4 := (act_cells hR1).2.2.2.2
  simp only [Nat.zero_add] at y1 y3 y4
  rw [hk] at y0
  obtain ⟨u, hu⟩ : ∃ u, Hid (y.cells = u) := ⟨_, hide rfl⟩
  rw [hu.out] at hw1 ⊢
  clear hu hR1 hk
  unfold tptr rptr
  go_enter Try.func12, Try.ntmps12
  go_wp2_with fail
  try rw [hw1]
  obtain ⟨w8, hw8⟩ : ∃ w8, w1.drew = w8 := ⟨_, rfl⟩
  have B18 : Below w1.heap.size w1 w8 := by rw [← hw8]; exact (Below.refl _ _).drew
  have B8 : Below w.heap.size w w8 := hB1.trans (B18.mono hB1.size)
  have h8 := h.below B8
  have hA8 : ∀ b, A b → b < w8.heap.size := fun b hb => Nat.lt_of_lt_of_le (hA b hb) B8.size
  have hX8 : w.heap.size < w8.heap.size := Nat.lt_of_lt_of_le hX1 B18.size
  have hXt : ¬ t.own w.heap.size := fun q => by have := h.tp.own_lt q; omega
  have hXr : ¬ w.heap.size = r.r := fun q => by have := h.rf.lt; omega
  have x1 : ∀ w' : World, w'.heap[w.heap.size]? = w1.heap[w.heap.size]? → w'.cell? ⟨w.heap.size, 1, none⟩ = some (.int .i64 y.area) := fun w' q => cell_at y1 q
  have x3 : ∀ w' : World, w'.heap[w.heap.size]? = w1.heap[w.heap.size]? → w'.cell? ⟨w.heap.size, 3, none⟩ = some (.int .i64 y.n) := fun w' q => cell_at y3 q
  have x4 : ∀ w' : World, w'.heap[w.heap.size]? = w1.heap[w.heap.size]? → w'.cell? ⟨w.heap.size, 4, none⟩ = some (.int .i64 y.keep) := fun w' q => cell_at y4 q
  refine hs_begin (S := (fun w' : World => w'.heap[w.heap.size]? = w1.heap[w.heap.size]?)) 10 rfl (by kernel_rfl) ?_
  rw [hw8]
  clear hw8
  have hS : (fun w' : World => w'.heap[w.heap.size]? = w1.heap[w.heap.size]?) w8 := B18.block _ hX1
  refine hs_take (i := 0) (d := some 45) (v := ?_) rfl (by kernel_rfl) (by kernel_rfl) (by kernel_rfl) (by rfl) ?_ hS rfl ?_
  rotate_left
  · intro w' hw
    go_simp
    try with_reducible rfl
  simp only [Act.put, List.setIfInBounds_toArray, List.set_cons_zero, List.set_cons_succ]
  refine hs_take (i := 1) (d := some 46) (v := ?_) rfl (by kernel_rfl) (by kernel_rfl) (by kernel_rfl) (by rfl) ?_ hS rfl ?_
  rotate_left
  · intro w' hw
    go_simp
    try with_reducible rfl
  simp only [Act.put, List.setIfInBounds_toArray, List.set_cons_zero, List.set_cons_succ]
  refine hs_take (i := 2) (d := some 47) (v := ?_) rfl (by kernel_rfl) (by kernel_rfl) (by kernel_rfl) (by rfl) ?_ hS rfl ?_
  rotate_left
  · intro w' hw
    have hc := x1 w' hw
    go_simp
    try with_reducible rfl
  simp only [Act.put, List.setIfInBounds_toArray, List.set_cons_zero, List.set_cons_succ]
  refine hs_take (i := 4) (d := some 49) (v := ?_) rfl (by kernel_rfl) (by kernel_rfl) (by kernel_rfl) (by rfl) ?_ hS rfl ?_
  rotate_left
  · intro w' hw
    go_simp
    try with_reducible rfl
  simp only [Act.put, List.setIfInBounds_toArray, List.set_cons_zero, List.set_cons_succ]
  refine hs_take (i := 5) (d := some 50) (v := ?_) rfl (by kernel_rfl) (by kernel_rfl) (by kernel_rfl) (by rfl) ?_ hS rfl ?_
  rotate_left
  · intro w' hw
    go_simp
    try with_reducible rfl
  simp only [Act.put, List.setIfInBounds_toArray, List.set_cons_zero, List.set_cons_succ]
  refine hs_take (i := 6) (d := some 51) (v := ?_) rfl (by kernel_rfl) (by kernel_rfl) (by kernel_rfl) (by rfl) ?_ hS rfl ?_
  rotate_left
  · intro w' hw
    have hc := x1 w' hw
    go_simp
    try with_reducible rfl
  simp only [Act.put, List.setIfInBounds_toArray, List.set_cons_zero, List.set_cons_succ]
  refine hs_call (i := 3) (d := some 48) rfl (by kernel_rfl) (by rfl) (by go_simp; first | done | exact ⟨rfl, rfl⟩ | with_reducible rfl) rfl ?_
  refine (tsync_any t M y.area w8 h8.tp).mono ?_
  rintro e' wA ⟨rfl, hTA⟩
  obtain ⟨t1, hM2⟩ := h8.first hA8 hTA
  have hS : (fun w' : World => w'.heap[w.heap.size]? = w1.heap[w.heap.size]?) wA := (hM2.off.2 _ hX8 (fun q => hXt q)).trans hS
  refine ⟨_, rfl, hS, ?_⟩
  simp only [Act.put, List.setIfInBounds_toArray, List.set_cons_zero, List.set_cons_succ]
  refine hs_call (i := 7) (d := some 52) rfl (by kernel_rfl) (by rfl) (by go_simp; first | done | exact ⟨rfl, rfl⟩ | with_reducible rfl) rfl ?_
  refine (rsync_any r M y.area wA hM2.rf).mono ?_
  rintro e' wB ⟨rfl, hRB⟩
  have HN := hide (Mid2.second (Off.of_below B8 |>.trans (hM2.off.mono (fun b _ q => h8.ta b q)) (fun _ _ q => q)) h8.ra hA hM2.p hM2.tp hM2.d hM2.ta (Off.refl _ _) hRB)
  have hS : (fun w' : World => w'.heap[w.heap.size]? = w1.heap[w.heap.size]?) wB := by
    obtain ⟨_, _, _, e3, _⟩ := hRB
    exact (e3.2 _ (Nat.lt_of_lt_of_le hX8 hM2.off.size) (fun q => hXr q)).trans hS
  refine ⟨_, rfl, hS, ?_⟩
  simp only [Act.put, List.setIfInBounds_toArray, List.set_cons_zero, List.set_cons_succ]
  refine hs_take (i := 8) (d := some 53) (v := .bool true) rfl (by kernel_rfl) (by kernel_rfl) (by kernel_rfl) (by rfl) (fun w' hw => by go_simp) hS rfl ?_
  simp only [Act.put, List.setIfInBounds_toArray, List.set_cons_zero, List.set_cons_succ]
  refine hs_take (i := 9) (d := some 6) (v := ?_) rfl (by kernel_rfl) (by kernel_rfl) (by kernel_rfl) (by rfl) ?_ hS rfl ?_
  rotate_left
  · intro w' hw
    go_simp
    try with_reducible rfl
  simp only [Act.put, List.setIfInBounds_toArray, List.set_cons_zero, List.set_cons_succ]
  refine hs_done (by kernel_rfl) ?_
  clear hS x1 x3 x4
  go_wp2_with fail
  go_ret
  exact ⟨rfl, HN.out⟩
set_option maxRecDepth 100000 in
set_option maxHeartbeats 4000000 in
theorem both_2 (t : Tv) (r : Rv) (M : Mt) (y : Ac) (A : Nat → Prop) (w : World) (h : Two A w t r M) (hA : ∀ b, A b → b < w.heap.size) (hyo : y.ok w) (hk : y.kind = 2) :
    Calls Try.prog 12 #[tptr t, rptr r, .agg y.cells.toArray] w fun e w' => e = .returned (.bool true) ∧ Next2 A w w' t r (M.empty y.area).2 := by
  have hB1 : Below w.heap.size w (w.alloc (.cells y.cells.toArray 31)) := (Below.refl _ _).alloc (Nat.le_refl _) _
  have hR1 : (w.alloc (.cells y.cells.toArray 31)).rangeAt w.heap.size 0 y.cells := by simpa using range_new w y.cells.toArray 31
  obtain ⟨w1, hw1⟩ : ∃ w1, w.alloc (.cells y.cells.toArray 31) = w1 := ⟨_, rfl⟩
  have hX1 : w.heap.size < w1.heap.size := by rw [← hw1]; simp
  rw [hw1] at hB1 hR1
  have y0 := (act_cells hR1).1
  have y1 := (act_cells hR1).2.1
  have y3 := (act_cells hR1).2.2.2.1
  have y4 := (act_cells hR1).2.2.2.2
  simp only [Nat.zero_add] at y1 y3 y4
  rw [hk] at y0
  obtain ⟨u, hu⟩ : ∃ u, Hid (y.cells = u) := ⟨_, hide rfl⟩
  rw [hu.out] at hw1 ⊢
  clear hu hR1 hk
  unfold tptr rptr
  go_enter Try.func12, Try.ntmps12
  go_wp2_with fail
  try rw [hw1]
  obtain ⟨w8, hw8⟩ : ∃ w8, w1.drew = w8 := ⟨_, rfl⟩
  have B18 : Below w1.heap.size w1 w8 := by rw [← hw8]; exact (Below.refl _ _).drew
  have B8 : Below w.heap.size w w8 := hB1.trans (B18.mono hB1.size)
  have h8 := h.below B8
  have hA8 : ∀ b, A b → b < w8.heap.size := fun b hb => Nat.lt_of_lt_of_le (hA b hb) B8.size
  have hX8 : w.heap.size < w8.heap.size := Nat.lt_of_lt_of_le hX1 B18.size
  have hXt : ¬ t.own w.heap.size := fun q => by have := h.tp.own_lt q; omega
  have hXr : ¬ w.heap.size = r.r := fun q => by have := h.rf.lt; omega
  have x1 : ∀ w' : World, w'.heap[w.heap.size]? = w1.heap[w.heap.size]? → w'.cell? ⟨w.heap.size, 1, none⟩ = some (.int .i64 y.area) := fun w' q => cell_at y1 q
  have x3 : ∀ w' : World, w'.heap[w.heap.size]? = w1.heap[w.heap.size]? → w'.cell? ⟨w.heap.size, 3, none⟩ = some (.int .i64 y.n) := fun w' q => cell_at y3 q
  have x4 : ∀ w' : World, w'.heap[w.heap.size]? = w1.heap[w.heap.size]? → w'.cell? ⟨w.heap.size, 4, none⟩ = some (.int .i64 y.keep) := fun w' q => cell_at y4 q
  refine hs_begin (S := (fun w' : World => w'.heap[w.heap.size]? = w1.heap[w.heap.size]?)) 10 rfl (by kernel_rfl) ?_
  rw [hw8]
  clear hw8
  have hS : (fun w' : World => w'.heap[w.heap.size]? = w1.heap[w.heap.size]?) w8 := B18.block _ hX1
  refine hs_take (i := 0) (d := some 56) (v := ?_) rfl (by kernel_rfl) (by kernel_rfl) (by kernel_rfl) (by rfl) ?_ hS rfl ?_
  rotate_left
  · intro w' hw
    go_simp
    try with_reducible rfl
  simp only [Act.put, List.setIfInBounds_toArray, List.set_cons_zero, List.set_cons_succ]
  refine hs_take (i := 1) (d := some 57) (v := ?_) rfl (by kernel_rfl) (by kernel_rfl) (by kernel_rfl) (by rfl) ?_ hS rfl ?_
  rotate_left
  · intro w' hw
    go_simp
    try with_reducible rfl
  simp only [Act.put, List.setIfInBounds_toArray, List.set_cons_zero, List.set_cons_succ]
  refine hs_take (i := 2) (d := some 58) (v := ?_) rfl (by kernel_rfl) (by kernel_rfl) (by kernel_rfl) (by rfl) ?_ hS rfl ?_
  rotate_left
  · intro w' hw
    have hc := x1 w' hw
    go_simp
    try with_reducible rfl
  simp only [Act.put, List.setIfInBounds_toArray, List.set_cons_zero, List.set_cons_succ]
  refine hs_take (i := 4) (d := some 60) (v := ?_) rfl (by kernel_rfl) (by kernel_rfl) (by kernel_rfl) (by rfl) ?_ hS rfl ?_
  rotate_left
  · intro w' hw
    go_simp
    try with_reducible rfl
  simp only [Act.put, List.setIfInBounds_toArray, List.set_cons_zero, List.set_cons_succ]
  refine hs_take (i := 5) (d := some 61) (v := ?_) rfl (by kernel_rfl) (by kernel_rfl) (by kernel_rfl) (by rfl) ?_ hS rfl ?_
  rotate_left
  · intro w' hw
    go_simp
    try with_reducible rfl
  simp only [Act.put, List.setIfInBounds_toArray, List.set_cons_zero, List.set_cons_succ]
  refine hs_take (i := 6) (d := some 62) (v := ?_) rfl (by kernel_rfl) (by kernel_rfl) (by kernel_rfl) (by rfl) ?_ hS rfl ?_
  rotate_left
  · intro w' hw
    have hc := x1 w' hw
    go_simp
    try with_reducible rfl
  simp only [Act.put, List.setIfInBounds_toArray, List.set_cons_zero, List.set_cons_succ]
  refine hs_call (i := 3) (d := some 59) rfl (by kernel_rfl) (by rfl) (by go_simp; first | done | exact ⟨rfl, rfl⟩ | with_reducible rfl) rfl ?_
  refine (tclear_any t M y.area w8 h8.tp).mono ?_
  rintro e' wA ⟨rfl, hTA⟩
  obtain ⟨t1, hM2⟩ := h8.first hA8 hTA
  have hS : (fun w' : World => w'.heap[w.heap.size]? = w1.heap[w.heap.size]?) wA := (hM2.off.2 _ hX8 (fun q => hXt q)).trans hS
  refine ⟨_, rfl, hS, ?_⟩
  simp only [Act.put, List.setIfInBounds_toArray, List.set_cons_zero, List.set_cons_succ]
  refine hs_call (i := 7) (d := some 63) rfl (by kernel_rfl) (by rfl) (by go_simp; first | done | exact ⟨rfl, rfl⟩ | with_reducible rfl) rfl ?_
  refine (rclear_any r M y.area wA hM2.rf).mono ?_
  rintro e' wB ⟨rfl, hRB⟩
  have HN := hide (Mid2.second (Off.of_below B8 |>.trans (hM2.off.mono (fun b _ q => h8.ta b q)) (fun _ _ q => q)) h8.ra hA hM2.p hM2.tp hM2.d hM2.ta (Off.refl _ _) hRB)
  have hS : (fun w' : World => w'.heap[w.heap.size]? = w1.heap[w.heap.size]?) wB := by
    obtain ⟨_, _, _, e3, _⟩ := hRB
    exact (e3.2 _ (Nat.lt_of_lt_of_le hX8 hM2.off.size) (fun q => hXr q)).trans hS
  refine ⟨_, rfl, hS, ?_⟩
  simp only [Act.put, List.setIfInBounds_toArray, List.set_cons_zero, List.set_cons_succ]
  refine hs_take (i := 8) (d := some 64) (v := .bool true) rfl (by kernel_rfl) (by kernel_rfl) (by kernel_rfl) (by rfl) (fun w' hw => by go_simp) hS rfl ?_
  simp only [Act.put, List.setIfInBounds_toArray, List.set_cons_zero, List.set_cons_succ]
  refine hs_take (i := 9) (d := some 6) (v := ?_) rfl (by kernel_rfl) (by kernel_rfl) (by kernel_rfl) (by rfl) ?_ hS rfl ?_
  rotate_left
  · intro w' hw
    go_simp
    try with_reducible rfl
  simp only [Act.put, List.setIfInBounds_toArray, List.set_cons_zero, List.set_cons_succ]
  refine hs_done (by kernel_rfl) ?_
  clear hS x1 x3 x4
  go_wp2_with fail
  go_ret
  exact ⟨rfl, HN.out⟩
set_option maxRecDepth 100000 in
set_option maxHeartbeats 4000000 in
theorem both_3 (t : Tv) (r : Rv) (M : Mt) (y : Ac) (A : Nat → Prop) (w : World) (h : Two A w t r M) (hA : ∀ b, A b → b < w.heap.size) (hyo : y.ok w) (hk : y.kind = 3) :
    Calls Try.prog 12 #[tptr t, rptr r, .agg y.cells.toArray] w fun e w' => e = .returned (.bool true) ∧ Next2 A w w' t r (M.arm y.n y.keep).2 := by
  have hB1 : Below w.heap.size w (w.alloc (.cells y.cells.toArray 31)) := (Below.refl _ _).alloc (Nat.le_refl _) _
  have hR1 : (w.alloc (.cells y.cells.toArray 31)).rangeAt w.heap.size 0 y.cells := by simpa using range_new w y.cells.toArray 31
  obtain ⟨w1, hw1⟩ : ∃ w1, w.alloc (.cells y.cells.toArray 31) = w1 := ⟨_, rfl⟩
  have hX1 : w.heap.size < w1.heap.size := by rw [← hw1]; simp
  rw [hw1] at hB1 hR1
  have y0 := (act_cells hR1).1
  have y1 := (act_cells hR1).2.1
  have y3 := (act_cells hR1).2.2.2.1
  have y4 := (act_cells hR1).2.2.2.2
  simp only [Nat.zero_add] at y1 y3 y4
  rw [hk] at y0
  obtain ⟨u, hu⟩ : ∃ u, Hid (y.cells = u) := ⟨_, hide rfl⟩
  rw [hu.out] at hw1 ⊢
  clear hu hR1 hk
  unfold tptr rptr
  go_enter Try.func12, Try.ntmps12
  go_wp2_with fail
  try rw [hw1]
  obtain ⟨w8, hw8⟩ : ∃ w8, w1.drew = w8 := ⟨_, rfl⟩
  have B18 : Below w1.heap.size w1 w8 := by rw [← hw8]; exact (Below.refl _ _).drew
  have B8 : Below w.heap.size w w8 := hB1.trans (B18.mono hB1.size)
  have h8 := h.below B8
  have hA8 : ∀ b, A b → b < w8.heap.size := fun b hb => Nat.lt_of_lt_of_le (hA b hb) B8.size
  have hX8 : w.heap.size < w8.heap.size := Nat.lt_of_lt_of_le hX1 B18.size
  have hXt : ¬ t.own w.heap.size := fun q => by have := h.tp.own_lt q; omega
  have hXr : ¬ w.heap.size = r.r := fun q => by have := h.rf.lt; omega
  have x1 : ∀ w' : World, w'.heap[w.heap.size]? = w1.heap[w.heap.size]? → w'.cell? ⟨w.heap.size, 1, none⟩ = some (.int .i64 y.area) := fun w' q => cell_at y1 q
  have x3 : ∀ w' : World, w'.heap[w.heap.size]? = w1.heap[w.heap.size]? → w'.cell? ⟨w.heap.size, 3, none⟩ = some (.int .i64 y.n) := fun w' q => cell_at y3 q
  have x4 : ∀ w' : World, w'.heap[w.heap.size]? = w1.heap[w.heap.size]? → w'.cell? ⟨w.heap.size, 4, none⟩ = some (.int .i64 y.keep) := fun w' q => cell_at y4 q
  refine hs_begin (S := (fun w' : World => w'.heap[w.heap.size]? = w1.heap[w.heap.size]?)) 14 rfl (by kernel_rfl) ?_
  rw [hw8]
  clear hw8
  have hS : (fun w' : World => w'.heap[w.heap.size]? = w1.heap[w.heap.size]?) w8 := B18.block _ hX1
  refine hs_take (i := 0) (d := some 67) (v := ?_) rfl (by kernel_rfl) (by kernel_rfl) (by kernel_rfl) (by rfl) ?_ hS rfl ?_
  rotate_left
  · intro w' hw
    go_simp
    try with_reducible rfl
  simp only [Act.put, List.setIfInBounds_toArray, List.set_cons_zero, List.set_cons_succ]
  refine hs_take (i := 1) (d := some 68) (v := ?_) rfl (by kernel_rfl) (by kernel_rfl) (by kernel_rfl) (by rfl) ?_ hS rfl ?_
  rotate_left
  · intro w' hw
    go_simp
    try with_reducible rfl
  simp only [Act.put, List.setIfInBounds_toArray, List.set_cons_zero, List.set_cons_succ]
  refine hs_take (i := 2) (d := some 69) (v := ?_) rfl (by kernel_rfl) (by kernel_rfl) (by kernel_rfl) (by rfl) ?_ hS rfl ?_
  rotate_left
  · intro w' hw
    have hc := x3 w' hw
    go_simp
    try with_reducible rfl
  simp only [Act.put, List.setIfInBounds_toArray, List.set_cons_zero, List.set_cons_succ]
  refine hs_take (i := 3) (d := some 70) (v := ?_) rfl (by kernel_rfl) (by kernel_rfl) (by kernel_rfl) (by rfl) ?_ hS rfl ?_
  rotate_left
  · intro w' hw
    go_simp
    try with_reducible rfl
  simp only [Act.put, List.setIfInBounds_toArray, List.set_cons_zero, List.set_cons_succ]
  refine hs_take (i := 4) (d := some 71) (v := ?_) rfl (by kernel_rfl) (by kernel_rfl) (by kernel_rfl) (by rfl) ?_ hS rfl ?_
  rotate_left
  · intro w' hw
    have hc := x4 w' hw
    go_simp
    try with_reducible rfl
  simp only [Act.put, List.setIfInBounds_toArray, List.set_cons_zero, List.set_cons_succ]
  refine hs_take (i := 6) (d := some 73) (v := ?_) rfl (by kernel_rfl) (by kernel_rfl) (by kernel_rfl) (by rfl) ?_ hS rfl ?_
  rotate_left
  · intro w' hw
    go_simp
    try with_reducible rfl
  simp only [Act.put, List.setIfInBounds_toArray, List.set_cons_zero, List.set_cons_succ]
  refine hs_take (i := 7) (d := some 74) (v := ?_) rfl (by kernel_rfl) (by kernel_rfl) (by kernel_rfl) (by rfl) ?_ hS rfl ?_
  rotate_left
  · intro w' hw
    go_simp
    try with_reducible rfl
  simp only [Act.put, List.setIfInBounds_toArray, List.set_cons_zero, List.set_cons_succ]
  refine hs_take (i := 8) (d := some 75) (v := ?_) rfl (by kernel_rfl) (by kernel_rfl) (by kernel_rfl) (by rfl) ?_ hS rfl ?_
  rotate_left
  · intro w' hw
    have hc := x3 w' hw
    go_simp
    try with_reducible rfl
  simp only [Act.put, List.setIfInBounds_toArray, List.set_cons_zero, List.set_cons_succ]
  refine hs_take (i := 9) (d := some 76) (v := ?_) rfl (by kernel_rfl) (by kernel_rfl) (by kernel_rfl) (by rfl) ?_ hS rfl ?_
  rotate_left
  · intro w' hw
    go_simp
    try with_reducible rfl
  simp only [Act.put, List.setIfInBounds_toArray, List.set_cons_zero, List.set_cons_succ]
  refine hs_take (i := 10) (d := some 77) (v := ?_) rfl (by kernel_rfl) (by kernel_rfl) (by kernel_rfl) (by rfl) ?_ hS rfl ?_
  rotate_left
  · intro w' hw
    have hc := x4 w' hw
    go_simp
    try with_reducible rfl
  simp only [Act.put, List.setIfInBounds_toArray, List.set_cons_zero, List.set_cons_succ]
  refine hs_call (i := 5) (d := some 72) rfl (by kernel_rfl) (by rfl) (by go_simp; first | done | exact ⟨rfl, rfl⟩ | with_reducible rfl) rfl ?_
  refine (arm_any t M y.n y.keep w8 h8.tp hyo.n.2).mono ?_
  rintro e' wA ⟨rfl, hTA⟩
  obtain ⟨t1, hM2⟩ := h8.first hA8 hTA
  have hS : (fun w' : World => w'.heap[w.heap.size]? = w1.heap[w.heap.size]?) wA := (hM2.off.2 _ hX8 (fun q => hXt q)).trans hS
  refine ⟨_, rfl, hS, ?_⟩
  simp only [Act.put, List.setIfInBounds_toArray, List.set_cons_zero, List.set_cons_succ]
  refine hs_call (i := 11) (d := some 78) rfl (by kernel_rfl) (by rfl) (by go_simp; first | done | exact ⟨rfl, rfl⟩ | with_reducible rfl) rfl ?_
  refine (rarm_any r M y.n y.keep wA hM2.rf hyo.n.2).mono ?_
  rintro e' wB ⟨rfl, hRB⟩
  have HN := hide (Mid2.second (Off.of_below B8 |>.trans (hM2.off.mono (fun b _ q => h8.ta b q)) (fun _ _ q => q)) h8.ra hA hM2.p hM2.tp hM2.d hM2.ta (Off.refl _ _) hRB)
  have hS : (fun w' : World => w'.heap[w.heap.size]? = w1.heap[w.heap.size]?) wB := by
    obtain ⟨_, _, _, e3, _⟩ := hRB
    exact (e3.2 _ (Nat.lt_of_lt_of_le hX8 hM2.off.size) (fun q => hXr q)).trans hS
  refine ⟨_, rfl, hS, ?_⟩
  simp only [Act.put, List.setIfInBounds_toArray, List.set_cons_zero, List.set_cons_succ]
  refine hs_take (i := 12) (d := some 79) (v := .bool true) rfl (by kernel_rfl) (by kernel_rfl) (by kernel_rfl) (by rfl) (fun w' hw => by go_simp) hS rfl ?_
  simp only [Act.put, List.setIfInBounds_toArray, List.set_cons_zero, List.set_cons_succ]
  refine hs_take (i := 13) (d := some 6) (v := ?_) rfl (by kernel_rfl) (by kernel_rfl) (by kernel_rfl) (by rfl) ?_ hS rfl ?_
  rotate_left
  · intro w' hw
    go_simp
    try with_reducible rfl
  simp only [Act.put, List.setIfInBounds_toArray, List.set_cons_zero, List.set_cons_succ]
  refine hs_done (by kernel_rfl) ?_
  clear hS x1 x3 x4
  go_wp2_with fail
  go_ret
  exact ⟨rfl, HN.out⟩
set_option maxRecDepth 100000 in
set_option maxHeartbeats 4000000 in
theorem both_4 (t : Tv) (r : Rv) (M : Mt) (y : Ac) (A : Nat → Prop) (w : World) (h : Two A w t r M) (hA : ∀ b, A b → b < w.heap.size) (hyo : y.ok w) (hk : y.kind = 4) :
    Calls Try.prog 12 #[tptr t, rptr r, .agg y.cells.toArray] w fun e w' => e = .returned (.bool true) ∧ Next2 A w w' t r (M.fail y.keep).2 := by
  have hB1 : Below w.heap.size w (w.alloc (.cells y.cells.toArray 31)) := (Below.refl _ _).alloc (Nat.le_refl _) _
  have hR1 : (w.alloc (.cells y.cells.toArray 31)).rangeAt w.heap.size 0 y.cells := by simpa using range_new w y.cells.toArray 31
  obtain ⟨w1, hw1⟩ : ∃ w1, w.alloc (.cells y.cells.toArray 31) = w1 := ⟨_, rfl⟩
  have hX1 : w.heap.size < w1.heap.size := by rw [← hw1]; simp
  rw [hw1] at hB1 hR1
  have y0 := (act_cells hR1).1
  have y1 := (act_cells hR1).2.1
  have y3 := (act_cells hR1).2.2.2.1
  have y4 := (act_cells hR1).2.2.2.2
  simp only [Nat.zero_add] at y1 y3 y4
  rw [hk] at y0
  obtain ⟨u, hu⟩ : ∃ u, Hid (y.cells = u) := ⟨_, hide rfl⟩
  rw [hu.out] at hw1 ⊢
  clear hu hR1 hk
  unfold tptr rptr
  go_enter Try.func12, Try.ntmps12
  go_wp2_with fail
  try rw [hw1]
  obtain ⟨w8, hw8⟩ : ∃ w8, w1.drew = w8 := ⟨_, rfl⟩
  have B18 : Below w1.heap.size w1 w8 := by rw [← hw8]; exact (Below.refl _ _).drew
  have B8 : Below w.heap.size w w8 := hB1.trans (B18.mono hB1.size)
  have h8 := h.below B8
  have hA8 : ∀ b, A b → b < w8.heap.size := fun b hb => Nat.lt_of_lt_of_le (hA b hb) B8.size
  have hX8 : w.heap.size < w8.heap.size := Nat.lt_of_lt_of_le hX1 B18.size
  have hXt : ¬ t.own w.heap.size := fun q => by have := h.tp.own_lt q; omega
  have hXr : ¬ w.heap.size = r.r := fun q => by have := h.rf.lt; omega
  have x1 : ∀ w' : World, w'.heap[w.heap.size]? = w1.heap[w.heap.size]? → w'.cell? ⟨w.heap.size, 1, none⟩ = some (.int .i64 y.area) := fun w' q => cell_at y1 q
  have x3 : ∀ w' : World, w'.heap[w.heap.size]? = w1.heap[w.heap.size]? → w'.cell? ⟨w.heap.size, 3, none⟩ = some (.int .i64 y.n) := fun w' q => cell_at y3 q
  have x4 : ∀ w' : World, w'.heap[w.heap.size]? = w1.heap[w.heap.size]? → w'.cell? ⟨w.heap.size, 4, none⟩ = some (.int .i64 y.keep) := fun w' q => cell_at y4 q
  refine hs_begin (S := (fun w' : World => w'.heap[w.heap.size]? = w1.heap[w.heap.size]?)) 10 rfl (by kernel_rfl) ?_
  rw [hw8]
  clear hw8
  have hS : (fun w' : World => w'.heap[w.heap.size]? = w1.heap[w.heap.size]?) w8 := B18.block _ hX1
  refine hs_take (i := 0) (d := some 82) (v := ?_) rfl (by kernel_rfl) (by kernel_rfl) (by kernel_rfl) (by rfl) ?_ hS rfl ?_
  rotate_left
  · intro w' hw
    go_simp
    try with_reducible rfl
  simp only [Act.put, List.setIfInBounds_toArray, List.set_cons_zero, List.set_cons_succ]
  refine hs_take (i := 1) (d := some 83) (v := ?_) rfl (by kernel_rfl) (by kernel_rfl) (by kernel_rfl) (by rfl) ?_ hS rfl ?_
  rotate_left
  · intro w' hw
    go_simp
    try with_reducible rfl
  simp only [Act.put, List.setIfInBounds_toArray, List.set_cons_zero, List.set_cons_succ]
  refine hs_take (i := 2) (d := some 84) (v := ?_) rfl (by kernel_rfl) (by kernel_rfl) (by kernel_rfl) (by rfl) ?_ hS rfl ?_
  rotate_left
  · intro w' hw
    have hc := x4 w' hw
    go_simp
    try with_reducible rfl
  simp only [Act.put, List.setIfInBounds_toArray, List.set_cons_zero, List.set_cons_succ]
  refine hs_take (i := 4) (d := some 86) (v := ?_) rfl (by kernel_rfl) (by kernel_rfl) (by kernel_rfl) (by rfl) ?_ hS rfl ?_
  rotate_left
  · intro w' hw
    go_simp
    try with_reducible rfl
  simp only [Act.put, List.setIfInBounds_toArray, List.set_cons_zero, List.set_cons_succ]
  refine hs_take (i := 5) (d := some 87) (v := ?_) rfl (by kernel_rfl) (by kernel_rfl) (by kernel_rfl) (by rfl) ?_ hS rfl ?_
  rotate_left
  · intro w' hw
    go_simp
    try with_reducible rfl
  simp only [Act.put, List.setIfInBounds_toArray, List.set_cons_zero, List.set_cons_succ]
  refine hs_take (i := 6) (d := some 88) (v := ?_) rfl (by kernel_rfl) (by kernel_rfl) (by kernel_rfl) (by rfl) ?_ hS rfl ?_
  rotate_left
  · intro w' hw
    have hc := x4 w' hw
    go_simp
    try with_reducible rfl
  simp only [Act.put, List.setIfInBounds_toArray, List.set_cons_zero, List.set_cons_succ]
  refine hs_call (i := 3) (d := some 85) rfl (by kernel_rfl) (by rfl) (by go_simp; first | done | exact ⟨rfl, rfl⟩ | with_reducible rfl) rfl ?_
  refine (fail_any t M y.keep w8 h8.tp).mono ?_
  rintro e' wA ⟨rfl, hTA⟩
  obtain ⟨t1, hM2⟩ := h8.first hA8 hTA
  have hS : (fun w' : World => w'.heap[w.heap.size]? = w1.heap[w.heap.size]?) wA := (hM2.off.2 _ hX8 (fun q => hXt q)).trans hS
  refine ⟨_, rfl, hS, ?_⟩
  simp only [Act.put, List.setIfInBounds_toArray, List.set_cons_zero, List.set_cons_succ]
  refine hs_call (i := 7) (d := some 89) rfl (by kernel_rfl) (by rfl) (by go_simp; first | done | exact ⟨rfl, rfl⟩ | with_reducible rfl) rfl ?_
  refine (rfail_any r M y.keep wA hM2.rf).mono ?_
  rintro e' wB ⟨rfl, hRB⟩
  have HN := hide (Mid2.second (Off.of_below B8 |>.trans (hM2.off.mono (fun b _ q => h8.ta b q)) (fun _ _ q => q)) h8.ra hA hM2.p hM2.tp hM2.d hM2.ta (Off.refl _ _) hRB)
  have hS : (fun w' : World => w'.heap[w.heap.size]? = w1.heap[w.heap.size]?) wB := by
    obtain ⟨_, _, _, e3, _⟩ := hRB
    exact (e3.2 _ (Nat.lt_of_lt_of_le hX8 hM2.off.size) (fun q => hXr q)).trans hS
  refine ⟨_, rfl, hS, ?_⟩
  simp only [Act.put, List.setIfInBounds_toArray, List.set_cons_zero, List.set_cons_succ]
  refine hs_take (i := 8) (d := some 90) (v := .bool true) rfl (by kernel_rfl) (by kernel_rfl) (by kernel_rfl) (by rfl) (fun w' hw => by go_simp) hS rfl ?_
  simp only [Act.put, List.setIfInBounds_toArray, List.set_cons_zero, List.set_cons_succ]
  refine hs_take (i := 9) (d := some 6) (v := ?_) rfl (by kernel_rfl) (by kernel_rfl) (by kernel_rfl) (by rfl) ?_ hS rfl ?_
  rotate_left
  · intro w' hw
    go_simp
    try with_reducible rfl
  simp only [Act.put, List.setIfInBounds_toArray, List.set_cons_zero, List.set_cons_succ]
  refine hs_done (by kernel_rfl) ?_
  clear hS x1 x3 x4
  go_wp2_with fail
  go_ret
  exact ⟨rfl, HN.out⟩
set_option maxRecDepth 100000 in
set_option maxHeartbeats 4000000 in
theorem both_no (t : Tv) (r : Rv) (M : Mt) (y : Ac) (A : Nat → Prop) (w : World) (h : Two A w t r M) (hk : ¬ (y.kind = 0 ∨ y.kind = 1 ∨ y.kind = 2 ∨ y.kind = 3 ∨ y.kind = 4 ∨ y.kind = 5)) :
    Calls Try.prog 12 #[tptr t, rptr r, .agg y.cells.toArray] w fun e w' => e = .returned (.bool true) ∧ Next2 A w w' t r M := by
  have hB1 : Below w.heap.size w (w.alloc (.cells y.cells.toArray 31)) := (Below.refl _ _).alloc (Nat.le_refl _) _
  have hR1 : (w.alloc (.cells y.cells.toArray 31)).rangeAt w.heap.size 0 y.cells := by simpa using range_new w y.cells.toArray 31
  obtain ⟨w1, hw1⟩ : ∃ w1, w.alloc (.cells y.cells.toArray 31) = w1 := ⟨_, rfl⟩
  have hX1 : w.heap.size < w1.heap.size := by rw [← hw1]; simp
  rw [hw1] at hB1 hR1
  have y0 := (act_cells hR1).1
  have y1 := (act_cells hR1).2.1
  have y2 := (act_cells hR1).2.2.1
  simp only [Nat.zero_add] at y1 y2
  obtain ⟨u, hu⟩ : ∃ u, Hid (y.cells = u) := ⟨_, hide rfl⟩
  rw [hu.out] at hw1 ⊢
  clear hu hR1
  have HN : Hid (Next2 A w w1 t r M) := hide ⟨t, r, rfl, rfl, h.below hB1, Off.of_below hB1⟩
  have k0 : (y.kind == 0) = false := by simp; omega
  have k1 : (y.kind == 1) = false := by simp; omega
  have k2 : (y.kind == 2) = false := by simp; omega
  have k3 : (y.kind == 3) = false := by simp; omega
  have k4 : (y.kind == 4) = false := by simp; omega
  have k5 : (y.kind == 5) = false := by simp; omega
  clear hk h y1 y2
  unfold tptr rptr
  go_enter Try.func12, Try.ntmps12
  go_wp2_with fail
  go_ret
  exact ⟨rfl, HN.out⟩
set_option maxRecDepth 100000 in
set_option maxHeartbeats 4000000 in
theorem both_5 (t : Tv) (r : Rv) (M : Mt) (y : Ac) (A : Nat → Prop) (w : World) (h : Two A w t r M) (hA : ∀ b, A b → b < w.heap.size) (hk : y.kind = 5) :
    Calls Try.prog 12 #[tptr t, rptr r, .agg y.cells.toArray] w fun e w' => e = .returned (.bool true) ∧ Next2 A w w' t r { M with on := true } := by
  have hB1 : Below w.heap.size w (w.alloc (.cells y.cells.toArray 31)) := (Below.refl _ _).alloc (Nat.le_refl _) _
  have hR1 : (w.alloc (.cells y.cells.toArray 31)).rangeAt w.heap.size 0 y.cells := by simpa using range_new w y.cells.toArray 31
  obtain ⟨w1, hw1⟩ : ∃ w1, w.alloc (.cells y.cells.toArray 31) = w1 := ⟨_, rfl⟩
  have hX1 : w.heap.size < w1.heap.size := by rw [← hw1]; simp
  rw [hw1] at hB1 hR1
  have y0 := (act_cells hR1).1
  have y1 := (act_cells hR1).2.1
  have y2 := (act_cells hR1).2.2.1
  simp only [Nat.zero_add] at y1 y2
  obtain ⟨u, hu⟩ : ∃ u, Hid (y.cells = u) := ⟨_, hide rfl⟩
  rw [hu.out] at hw1 ⊢
  clear hu hR1
  rw [hk] at y0
  have h1 := h.below hB1
  have q5 := h1.rf.cell 5 rfl
  have f5 := h1.rf.fz 5 (by omega)
  have hRT : RTurned w1 (w1.setCell ⟨r.r, 5, none⟩ (.bool false)) r { M with on := true } := RTurned.of_cells (t := r) (t' := r) (Below.refl _ _) ((CellsR.start h1.rf).set 5 _) rfl h1.rf.ra h1.rf.rb (fun x hx => .inl (.inr (.inl ⟨x, hx, rfl⟩))) (fun x hx => .inl (.inr (.inr ⟨x, hx, rfl⟩))) h1.rf.px h1.rf.ok.power
  have hTW : TapeAt (w1.setCell ⟨r.r, 5, none⟩ (.bool false)) t M := h1.tp.off (Off.of_setCell (F := fun b => b = r.r) w1 ⟨r.r, 5, none⟩ (.bool false) rfl) (fun b q q1 => h.d b q (by rw [q1]; exact .inl rfl))
  have cP := power_any t M _ hTW
  have HN : Hid (∀ w', Turned (w1.setCell ⟨r.r, 5, none⟩ (.bool false)) w' t { M with on := true } → Next2 A w w' t r { M with on := true }) := hide (fun w' hT => by
    obtain ⟨r1, e1, e2, e3, e4⟩ := hRT
    obtain ⟨t1, g1, g2, g3, g4⟩ := hT
    have hd : ∀ b, t.own b → ¬ r1.own b := fun b q q1 => by
      rcases e4 b q1 with q2 | q2
      · exact h.d b q q2
      · have := h1.tp.own_lt q; omega
    have hs := hB1.size
    have hs2 := e3.size
    refine ⟨t1, r1, g1, e1, ⟨g2, e2.off g3 (fun b q q1 => hd b q1 q), fun b q q1 => ?_, fun b q q1 => ?_, fun b q q1 => ?_⟩, ((Off.of_below hB1).trans e3 (fun b _ q => by rw [q]; exact h.ra _ (.inl rfl))).trans g3 (fun b _ q => h.ta b q)⟩
    · rcases g4 b q with q2 | q2
      · exact hd b q2 q1
      · have := e2.own_lt q1; omega
    · rcases g4 b q with q2 | q2
      · exact h.ta b q2 q1
      · have := hA b q1; omega
    · rcases e4 b q with q2 | q2
      · exact h.ra b q2 q1
      · have := hA b q1; omega)
  clear hk h h1 hTW hRT y1 y2
  unfold tptr rptr at *
  go_enter Try.func12, Try.ntmps12
  go_wp2_with fail
  refine cP.mono ?_
  rintro e w' ⟨rfl, hw⟩
  clear cP
  go_wp2_with fail
  go_ret
  exact ⟨rfl, HN.out w' hw⟩
end Go.Proofs.Ytfkchnjbbbhmjaa
