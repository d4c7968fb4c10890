/- the walk of EpochParts -/
import Derived.Test.YtnndlgdlligjbabWTurn
namespace Go.Proofs.Ytnndlgdlligjbab
open Go.RowKit Go.Shelf
/-- the places of a leader's slots -/
def idxU (zs : List Int) (y : Int) (k : Nat) : List Nat := (List.range k).filter fun i => decide (ledE zs i = y)
theorem slotsU_map (s : Int) (zs : List Int) (y : Int) (k : Nat) : slotsU s zs y k = (idxU zs y k).map fun (i : Nat) => s + (i : Int) := rfl
theorem ledE_inj {N : Int} {zs : List Int} (hr : risingB N zs = true) {i j : Nat} (h0 : 0 < zs.length) (h : ledE zs i = ledE zs j) : i % zs.length = j % zs.length := by
  have key : ∀ p q (hp : p < zs.length) (hq : q < zs.length), zs[p] = zs[q] → p = q := by
    intro p q hp hq e
    rcases Nat.lt_trichotomy p q with hlt | e' | hlt
    · have := risingF_lt hr p q hlt hq; omega
    · exact e'
    · have := risingF_lt hr q p hlt hp; omega
  rw [ledE_eq h0, ledE_eq h0] at h
  exact key _ _ _ _ h
theorem ledE_at {zs : List Int} {i : Nat} (h : i < zs.length) : ledE zs i = zs[i] := by
  rw [ledE_eq (by omega)]; simp [Nat.mod_eq_of_lt h]
/-- so many of a leader's slots lie among the first rounds -/
theorem idx_rounds {N : Int} {zs : List Int} (hr : risingB N zs = true) {j : Nat} (hj : j < zs.length) : ∀ S, (idxU zs zs[j] (zs.length * S)).length = S
  | 0 => by simp [idxU]
  | S + 1 => by
    have ih := idx_rounds hr hj S
    have key : ∀ k, k ≤ zs.length → (idxU zs zs[j] (zs.length * S + k)).length = S + if j < k then 1 else 0 := by
      intro k
      induction k with
      | zero => intro _; simpa using ih
      | succ k ihk =>
        intro hk
        have ihk := ihk (by omega)
        have hmod : (zs.length * S + k) % zs.length = k := by rw [Nat.mul_add_mod, Nat.mod_eq_of_lt (by omega)]
        by_cases e : ledE zs (zs.length * S + k) = zs[j]
        · have h1 : k = j := by
            have := ledE_inj hr (i := zs.length * S + k) (j := j) (by omega) (by rw [e, ledE_at hj])
            rw [hmod, Nat.mod_eq_of_lt hj] at this
            exact this
          subst h1
          have : idxU zs zs[k] (zs.length * S + k + 1) = idxU zs zs[k] (zs.length * S + k) ++ [zs.length * S + k] := filter_yes _ _ (decide_eq_true e)
          rw [show zs.length * S + (k + 1) = zs.length * S + k + 1 from rfl, this, List.length_append, ihk]
          simp
        · have h1 : k ≠ j := by
            rintro rfl
            apply e
            rw [ledE_eq (by omega)]
            congr 1
          have : idxU zs zs[j] (zs.length * S + k + 1) = idxU zs zs[j] (zs.length * S + k) := filter_no _ _ (decide_eq_false e)
          rw [show zs.length * S + (k + 1) = zs.length * S + k + 1 from rfl, this, ihk]
          by_cases h2 : j < k
          · rw [if_pos h2, if_pos (by omega)]
          · rw [if_neg h2, if_neg (by omega)]
    have := key zs.length (Nat.le_refl _)
    rw [if_pos hj] at this
    rw [Nat.mul_succ]
    exact this
theorem count_rangeF (p : Nat → Bool) (m : Nat) : ∀ N, ((List.range N).filter p).count m = if m < N ∧ p m = true then 1 else 0
  | 0 => by simp
  | N + 1 => by
    rw [List.range_succ, List.filter_append, List.count_append, count_rangeF p m N]
    by_cases hm : m = N
    · subst hm
      cases hp : p m <;> simp [hp]
    · have : (List.filter p [N]).count m = 0 := by
        cases hp : p N
        · simp [hp]
        · simp [hp, List.count_singleton]; omega
      rw [this, Nat.add_zero]
      have : (m < N + 1 ∧ p m = true) ↔ (m < N ∧ p m = true) := ⟨fun h => ⟨by omega, h.2⟩, fun h => ⟨by omega, h.2⟩⟩
      simp only [this]
theorem idx_count {zs : List Int} {y : Int} {k i : Nat} (h : i < k) : (idxU zs y k).count i = if ledE zs i = y then 1 else 0 := by
  unfold idxU
  rw [count_rangeF]
  by_cases e : ledE zs i = y <;> simp [h, e]
theorem idx_mem {zs : List Int} {y : Int} {k i : Nat} (h : i ∈ idxU zs y k) : i < k ∧ ledE zs i = y := by
  simpa [idxU] using h
theorem idx_up (zs : List Int) (y : Int) (k : Nat) : List.Pairwise (· < ·) (idxU zs y k) := List.Pairwise.filter _ List.pairwise_lt_range
theorem idx_lt {zs : List Int} {y : Int} {k j : Nat} (hj : j + 1 < (idxU zs y k).length) : (idxU zs y k)[j] < (idxU zs y k)[j + 1] := List.pairwise_iff_getElem.1 (idx_up zs y k) j (j + 1) _ hj (by omega)
/-- how often a slot was met with these leaders -/
def pcount (zs : List Int) (pre : List Int) (i : Nat) : Nat := pre.countP fun y => decide (ledE zs i = y)
theorem pcount_snoc {zs pre : List Int} {y : Int} {i : Nat} : pcount zs (pre ++ [y]) i = pcount zs pre i + if ledE zs i = y then 1 else 0 := by
  unfold pcount
  rw [List.countP_append]
  congr 1
  by_cases h : ledE zs i = y <;> simp [h]
theorem pcount_le (zs pre : List Int) (i : Nat) : pcount zs pre i ≤ pre.length := List.countP_le_length
theorem count_rising {N : Int} : ∀ {zs : List Int} {ahead : Int}, risingF N ahead zs = true → ∀ y ∈ zs, zs.countP (fun x => decide (y = x)) = 1
  | [], _, _, y, h => absurd h (by simp)
  | x :: xs, ahead, hr, y, h => by
    have hr' := hr
    simp only [risingF, Bool.and_eq_true, decide_eq_true_eq] at hr
    rw [List.countP_cons]
    by_cases e : y = x
    · subst e
      have : xs.countP (fun z => decide (y = z)) = 0 := by
        rw [List.countP_eq_zero]
        intro z hz
        obtain ⟨i, hi, rfl⟩ := List.getElem_of_mem hz
        have := (risingF_all hr.2 i hi).1
        simp; omega
      rw [this]; simp
    · have h2 : y ∈ xs := by
        rcases List.mem_cons.1 h with h | h
        · exact absurd h e
        · exact h
      rw [count_rising hr.2 y h2]; simp [e]
theorem pcount_all {N : Int} {zs : List Int} (hr : risingB N zs = true) (h0 : 0 < zs.length) (i : Nat) : pcount zs zs i = 1 := by
  unfold pcount
  refine count_rising hr (ledE zs i) ?_
  rw [ledE_eq h0]
  exact List.getElem_mem _
theorem row_congr {w : World} {b t m : Nat} {f g : Nat → Nat} (h : w.rowIs b t m fun j => .int .i64 (f j : Int)) (hg : ∀ j, j < m → f j = g j) : w.rowIs b t m fun j => .int .i64 (g j : Int) :=
  h.congr (fun j hj => by show Value.int .i64 (f j : Int) = Value.int .i64 (g j : Int); rw [hg j hj])
theorem row_inc {w : World} {b t m : Nat} {f g : Nat → Nat} (h : w.rowIs b t m fun j => .int .i64 (f j : Int)) (p : Nat) (hg : ∀ j, j < m → g j = if j = p then f p + 1 else f j) : (w.setCell ⟨b, p, none⟩ (.int .i64 ((f p : Int) + 1))).rowIs b t m fun j => .int .i64 (g j : Int) := by
  refine (h.set p (.int .i64 ((f p : Int) + 1))).congr ?_
  intro j hj
  show (if j = p then _ else _) = _
  rw [hg j hj]
  split
  · congr 1
  · rfl
theorem count_take_succ {l : List Nat} {j b : Nat} (h : j < l.length) : (l.take (j + 1)).count b = (l.take j).count b + if b = l[j] then 1 else 0 := by
  rw [List.take_succ_eq_append_getElem h, List.count_append]
  congr 1
  by_cases e : b = l[j]
  · simp [e]
  · have : l[j] ≠ b := fun h => e h.symm
    simp [e, this]
theorem RowI.setCell {w : World} {a : Option Addr} {zs : List Int} (h : RowI w a zs) {p : Addr} {v : Value} (hp : ∀ x, a = some x → x.block ≠ p.block) : RowI (w.setCell p v) a zs := by
  refine ⟨h.1, ?_⟩
  rcases h.2 with h | ⟨b, off, rfl, h1, h2⟩
  · exact Or.inl h
  · refine Or.inr ⟨b, off, rfl, by simpa using h1, fun j hj => ?_⟩
    exact (World.cell?_of_block (w := w) (w' := w.setCell p v) (a := ⟨b, off + j, none⟩) (Go.Deep.blk_setCell_other _ _ _ _ (hp ⟨b, off, none⟩ rfl))).trans (h2 j hj)
theorem own_set5 {w : World} {base : Nat} {v : Value} {l : List Int} (h : w.ownsRow base 3 1 v l.length (ivals l)) (hl : l.length ≤ 100000) :
    ∃ a cap, v = .slice a l.length cap ∧ RowI w a l ∧ ∀ x, a = some x → base ≤ x.block := by
  obtain ⟨a, cap, rfl, hr⟩ := own_rowI h (by unfold maxLen; omega)
  refine ⟨a, cap, rfl, hr, fun x hx => ?_⟩
  subst hx
  rcases h.2 with ⟨h0, _⟩ | ⟨g, cap', cur, h0, hb, _⟩
  · cases h0
  · cases h0; exact hb
set_option maxRecDepth 100000 in
set_option maxHeartbeats 4000000 in
theorem parts_walk (c : Cfg) (n s : Int) (a : Option Addr) (cap : Nat) (zs : List Int) (w : World) (hr : RowI w a zs) :
    Calls Try.prog 3 #[(.agg #[.int .i64 c.n, .int .i64 c.cl, .int .i64 c.wi, .int .i64 c.bu, .int .i64 c.ca, .int .i64 c.sl, .int .i64 c.rq, .int .i64 c.ti, .int .i64 c.pe, .int .i64 c.la, .int .i64 n, .int .i64 s, .slice a zs.length cap])] w fun e w' => e = .returned (.bool true) ∧ Below w.heap.size w w' := by
  have hB1 : Below w.heap.size w (w.alloc (.cells #[.int .i64 c.n, .int .i64 c.cl, .int .i64 c.wi, .int .i64 c.bu, .int .i64 c.ca, .int .i64 c.sl, .int .i64 c.rq, .int .i64 c.ti, .int .i64 c.pe, .int .i64 c.la, .int .i64 n, .int .i64 s, .slice a zs.length cap] 26)) := (Below.refl _ w).alloc (Nat.le_refl _) _
  have k0 := EpAt.new w c n s a cap zs
  have fin : ∀ {W W' : World}, Below w.heap.size w W → Below W.heap.size W W' → Below w.heap.size w W' := fun h k => h.trans (k.mono h.size)
  by_cases hl : 100 < zs.length
  · have hl' : (100 : Int) < (zs.length : Int) := by omega
    clear hr k0
    go_enter Try.func3, Try.ntmps3
    go_wp2_with fail
    refine (lives12_any _).mono ?_
    rintro e w9 ⟨rfl, hb9⟩
    go_wp2_with fail
    go_ret
    exact ⟨rfl, fin hB1 hb9⟩
  have d0 : decide ((100 : Int) < (zs.length : Int)) = false := decide_eq_false (by omega)
  have d00 : decide (100 < zs.length) = false := decide_eq_false (by omega)
  have c1 := fun w h => egood_any c n s a cap zs w h (by omega)
  go_enter Try.func3, Try.ntmps3
  go_wp2_with fail
  obtain ⟨w1, hw1⟩ : ∃ w1, w.alloc (.cells #[.int .i64 c.n, .int .i64 c.cl, .int .i64 c.wi, .int .i64 c.bu, .int .i64 c.ca, .int .i64 c.sl, .int .i64 c.rq, .int .i64 c.ti, .int .i64 c.pe, .int .i64 c.la, .int .i64 n, .int .i64 s, .slice a zs.length cap] 26) = w1 := ⟨_, rfl⟩
  rw [hw1] at hB1 k0 ⊢
  clear hw1
  cases hm : goodE c n s zs
  · simp only [hm] at c1
    refine (c1 w1 (hr.below hB1)).mono ?_
    rintro e w4 ⟨rfl, hb4⟩
    have hB4 := fin hB1 hb4
    clear hm c1 k0 hB1 hb4 hr
    go_wp2_with fail
    refine (lives12_any _).mono ?_
    rintro e w9 ⟨rfl, hb9⟩
    go_wp2_with fail
    go_ret
    exact ⟨rfl, fin hB4 hb9⟩
  · simp only [hm] at c1
    obtain ⟨N, B, S, M, ok, hMe⟩ := epOk hm
    have HG := hide hm
    have HOK := hide ok
    have HMe := hide hMe
    have h0 := ok.len
    have h64 := ok.len64
    have hM := ok.many_le
    have hst := ok.start
    have hS4 := ok.s1
    have hsl := hide ok.sl
    refine (c1 w1 (hr.below hB1)).mono ?_
    rintro e w4 ⟨rfl, hb4⟩
    have hB4 := fin hB1 hb4
    have k4 := k0.below hb4
    have hEE : endE c n s zs = s + (M : Int) := by simp [endE, HG.out, ok.many]
    have cE0 := fun w h => eend_any c n s a cap zs w h (show zs.length ≤ 100000 by omega)
    simp only [hEE] at cE0
    clear hm c1 ok hMe k0 hB1 hb4 hEE
    go_wp2_with fail
    obtain ⟨w8, hw8⟩ : ∃ w8, w4.drew = w8 := ⟨_, rfl⟩
    refine hs_begin (S := (Below w8.heap.size w8)) 7 rfl (by kernel_rfl) ?_
    have k8 : EpAt w8 w.heap.size c n s a cap zs := by rw [← hw8]; exact k4
    have hB8 : Below w.heap.size w w8 := by rw [← hw8]; exact hB4.drew
    rw [hw8]
    clear hw8 k4 hB4
    have hS : (Below w8.heap.size w8) w8 := Below.refl _ _
    have cE := fun (w9 : World) => cE0 w8 (hr.below hB8)
    refine hs_take (i := 0) (d := some 21) (v := .agg #[.int .i64 c.n, .int .i64 c.cl, .int .i64 c.wi, .int .i64 c.bu, .int .i64 c.ca, .int .i64 c.sl, .int .i64 c.rq, .int .i64 c.ti, .int .i64 c.pe, .int .i64 c.la, .int .i64 n, .int .i64 s, .slice a zs.length cap]) rfl (by kernel_rfl) (by kernel_rfl) (by kernel_rfl) (by rfl) (fun w' hw => exec_load rfl rfl (k8.below hw).load) hS rfl ?_
    simp only [Act.put, List.setIfInBounds_toArray, List.set_cons_zero, List.set_cons_succ]
    refine hs_take (i := 2) (d := some 23) (v := ?_) rfl (by kernel_rfl) (by kernel_rfl) (by kernel_rfl) (by rfl) ?_ hS rfl ?_
    rotate_left
    · intro w' hw
      go_simp
      try with_reducible rfl
    simp only [Act.put, List.setIfInBounds_toArray, List.set_cons_zero, List.set_cons_succ]
    refine hs_take (i := 3) (d := some 24) (v := .int .i64 s) rfl (by kernel_rfl) (by kernel_rfl) (by kernel_rfl) (by rfl) (fun w' hw => by have q := (k8.below hw).cells; obtain ⟨-, -, -, -, -, -, -, -, -, -, -, q, -⟩ := q; go_simp) hS rfl ?_
    simp only [Act.put, List.setIfInBounds_toArray, List.set_cons_zero, List.set_cons_succ]
    refine hs_call (i := 1) (d := some 22) rfl (by kernel_rfl) (by rfl) (by go_simp; first | done | exact ⟨rfl, rfl⟩ | with_reducible rfl) rfl ?_
    refine (cE w8).mono ?_
    rintro e' w9 ⟨rfl, hw9⟩
    have hS : (Below w8.heap.size w8) w9 := hS.trans (hw9.mono hS.size)
    refine ⟨_, rfl, hS, ?_⟩
    simp only [Act.put, List.setIfInBounds_toArray, List.set_cons_zero, List.set_cons_succ]
    refine hs_take (i := 4) (d := some 25) (v := .int .i64 (M : Int)) rfl (by kernel_rfl) (by kernel_rfl) (by kernel_rfl) (by rfl) (fun w' hw => by go_simp; try (rw [IntKind.wrap_i64]; omega); try (rw [show s + (M : Int) - s = (M : Int) by omega]; exact IntKind.wrap_i64 (by omega) (by omega))) hS rfl ?_
    simp only [Act.put, List.setIfInBounds_toArray, List.set_cons_zero, List.set_cons_succ]
    have hmk := run_make_row' (P := Try.prog) 24 3 (.int .i64 0) 8 Try.underlying24 info3 rfl .i64 .i64 M (by omega) (by omega) w9
    have hSm : (Below w8.heap.size w8) (w9.alloc (.cells (madeCells #[.int .i64 0] M) 3)) := hS.trans (((Below.refl _ w9).alloc (Nat.le_refl _) _).mono hS.size)
    refine hs_run (i := 5) (d := some 26) (v := .slice (some ⟨w9.heap.size, 0, none⟩) M M) (w' := w9.alloc (.cells (madeCells #[.int .i64 0] M) 3)) rfl (by kernel_rfl) (by rfl) (by go_simp) rfl hSm ?_
    simp only [Act.put, List.setIfInBounds_toArray, List.set_cons_zero, List.set_cons_succ]
    have hS9 := hS
    have hS := hSm
    refine hs_take (i := 6) (d := some 3) (v := ?_) rfl (by kernel_rfl) (by kernel_rfl) (by kernel_rfl) (by rfl) ?_ hS rfl ?_
    rotate_left
    · intro w' hw
      go_simp
      try with_reducible rfl
    simp only [Act.put, List.setIfInBounds_toArray, List.set_cons_zero, List.set_cons_succ]
    refine hs_done (by kernel_rfl) ?_
    have k9 := k8.below hS9
    have hB9 := fin hB8 hS9
    have r0 := World.rowIs_made w9 (.int .i64 0) M 3
    have hb7 : Below w9.heap.size w9 (w9.alloc (.cells (madeCells #[.int .i64 0] M) 3)) := (Below.refl _ _).alloc (Nat.le_refl _) _
    have r1 : (w9.alloc (.cells (madeCells #[.int .i64 0] M) 3)).rowIs w9.heap.size 3 M (fun j => .int .i64 ((pcount zs [] j : Nat) : Int)) := r0.congr (fun j _ => by simp [pcount])
    obtain ⟨w7, hw7⟩ : ∃ w7, w9.alloc (.cells (madeCells #[.int .i64 0] M) 3) = w7 := ⟨_, rfl⟩
    rw [hw7] at r1 hb7 ⊢
    clear hw7 hmk r0 hS hSm hS9 k8 hw9 cE
    obtain ⟨-, -, -, -, -, -, -, -, -, -, -, -, pl⟩ := (k9.below hb7).cells
    go_wp2_with fail
    clear pl
    go_loopw [30] (fun iv wr => ∃ k : Nat, k ≤ zs.length ∧ iv = .int .i64 (k : Int) ∧ wr.rowIs w9.heap.size 3 M (fun j => .int .i64 ((pcount zs (zs.take k) j : Nat) : Int)) ∧ Below w9.heap.size w9 wr) (fun iv _ => zs.length - (intOf iv).toNat)
    case atStart => exact ⟨0, by omega, rfl, r1, hb7⟩
    case round =>
      obtain ⟨k, hk, rfl, R, hb⟩ := hrel
      have hBr := fin hB9 hb
      by_cases hkl : k < zs.length
      · have hkI : (k : Int) < (zs.length : Int) := by omega
        obtain ⟨bb, off, rfl, hcx⟩ := rowI_cell hr hBr hkl
        have cS := slots_any c n s (some ⟨bb, off, none⟩) cap zs zs[k] wr (hr.below hBr) (by omega)
        have hse : slotsE c n s zs zs[k] = (idxU zs zs[k] M).map fun (i : Nat) => s + (i : Int) := by
          unfold slotsE; rw [if_pos HG.out, HOK.out.many]; exact slotsU_map s zs zs[k] M
        rw [hse] at cS
        have hil : (idxU zs zs[k] M).length = S := by rw [HMe.out]; exact idx_rounds HOK.out.up hkl S
        have hic : Hid (∀ i, i < M → (idxU zs zs[k] M).count i = if ledE zs i = zs[k] then 1 else 0) := hide (fun i h => idx_count h)
        have him : Hid (∀ i ∈ idxU zs zs[k] M, i < M ∧ ledE zs i = zs[k]) := hide (fun i h => idx_mem h)
        have hiu : Hid (List.Pairwise (· < ·) (idxU zs zs[k] M)) := hide (idx_up zs zs[k] M)
        have hstep : Hid (zs.take (k + 1) = zs.take k ++ [zs[k]]) := hide (List.take_succ_eq_append_getElem hkl)
        have hpl : (zs.take k).length ≤ 64 := by rw [List.length_take]; omega
        generalize idxU zs zs[k] M = L at *
        generalize zs[k] = y at *
        generalize zs.take k = pre at *
        have hll : (L.map fun (i : Nat) => s + (i : Int)).length = L.length := List.length_map _
        have HIL := hide hil
        obtain ⟨p0, p1, p2, p3, p4, p5, p6, p7, p8, p9, pn, ps, pl⟩ := (k9.below hb).cells
        clear hse hil
        go_wp2_with fail
        refine cS.mono ?_
        rintro e w10 ⟨v, rfl, hrow10, hb10⟩
        obtain ⟨v8, c8, rfl, hr8, hap⟩ := own_set5 hrow10 (by rw [hll, HIL.out]; omega)
        have hb10' : Below w9.heap.size w9 w10 := hb.trans (hb10.mono hb.size)
        have R10 : w10.rowIs w9.heap.size 3 M (fun j => .int .i64 ((pcount zs pre j + (L.take 0).count j : Nat) : Int)) := (R.of_block (hb10.block _ R.lt)).congr (fun j _ => by simp)
        have hMl : w9.heap.size < wr.heap.size := R.lt
        clear p0 p1 p2 p3 p4 p5 p6 p7 p8 p9 pn ps pl
        clear cS hcx hrow10
        obtain ⟨p0, p1, p2, p3, p4, p5, p6, p7, p8, p9, pn, ps, pl⟩ := (k9.below hb10').cells
        rw [hsl.out] at p5
        rw [hll] at *
        have hne : ((L.length : Int) != (S : Int)) = false := by rw [HIL.out]; simp
        have hL4 : L.length ≤ 4 := by have := HIL.out; omega
        go_wp2_with fail
        clear p0 p1 p2 p3 p4 p5 p6 p7 p8 p9 pn ps pl
        go_loopw [45] (fun jv wr => ∃ j : Nat, j ≤ L.length ∧ jv = .int .i64 (j : Int) ∧ wr.rowIs w9.heap.size 3 M (fun b => .int .i64 ((pcount zs pre b + (L.take j).count b : Nat) : Int)) ∧ RowI wr v8 (L.map fun (i : Nat) => s + (i : Int)) ∧ Below w9.heap.size w9 wr) (fun jv _ => L.length - (intOf jv).toNat)
        case atStart => exact ⟨0, by omega, rfl, R10, hr8, hb10'⟩
        case round =>
          obtain ⟨j, hj, rfl, Rq, hrq, hbq⟩ := hrel
          have hBq := fin hB9 hbq
          by_cases hjl : j < L.length
          · obtain ⟨X, hX⟩ : ∃ X : Int, Hid (s + ((L[j] : Nat) : Int) = X) := ⟨_, hide rfl⟩
            have hjl' : j < (L.map fun (i : Nat) => s + (i : Int)).length := by rw [List.length_map]; exact hjl
            have hjI : (j : Int) < (L.length : Int) := by omega
            obtain ⟨b8, off8, rfl, hcy⟩ := rowI_cell hrq (Below.refl _ _) hjl'
            have hge : (L.map fun (i : Nat) => s + (i : Int))[j] = X := by rw [← hX.out]; simp
            rw [hge] at hcy
            obtain ⟨hqM, hqo⟩ := him.out _ (List.getElem_mem hjl)
            have hcs : Hid (∀ b, (L.take (j + 1)).count b = (L.take j).count b + if b = L[j] then 1 else 0) := hide (fun b => count_take_succ hjl)
            have hct : ∀ b, (L.take j).count b ≤ 4 := fun b => Nat.le_trans List.count_le_length (by rw [List.length_take]; omega)
            have hprev : Hid (∀ i, (hi : j = i + 1) → ∃ Y : Int, Y < X ∧ ∃ h : i < (L.map fun (i : Nat) => s + (i : Int)).length, (L.map fun (i : Nat) => s + (i : Int))[i] = Y) := hide (fun i hi => by
              subst hi
              refine ⟨_, ?_, by rw [List.length_map]; omega, rfl⟩
              have := List.pairwise_iff_getElem.1 hiu.out i (i + 1) (by omega) hjl (by omega)
              rw [← hX.out]; simp; omega)
            generalize L[j] = q at *
            have hmb : pcount zs pre q + (L.take j).count q ≤ 1000 := by have := pcount_le zs pre q; have := hct q; omega
            have hcell := Rq.cell hqM
            have hfr := Rq.frozen q
            obtain ⟨EE, hEE⟩ : ∃ EE : Int, Hid (s + (M : Int) = EE) := ⟨_, hide rfl⟩
            have cE := cE0 wr (hr.below hBq)
            rw [hEE.out] at cE
            have cO := fun w h => eowner_any c n s (some ⟨bb, off, none⟩) cap zs X w h (show zs.length ≤ 100000 by omega)
            have hoy : ownE c n s zs X = y := by rw [ownE_in (q := q) HG.out hX.out.symm (by rw [HOK.out.many]; omega)]; exact hqo
            simp only [hoy] at cO
            have hg2 : Hid (∀ i, i < M → (pcount zs pre i + (L.take (j + 1)).count i) = if i = q then (pcount zs pre q + (L.take j).count q) + 1 else pcount zs pre i + (L.take j).count i) := hide (fun i _ => by
              rw [hcs.out i]
              by_cases e : i = q
              · subst e; simp; omega
              · simp [e])
            have hRq := hide Rq
            obtain ⟨qq, hqq⟩ : ∃ qq, Hid (pcount zs pre q + (L.take j).count q = qq) := ⟨_, hide rfl⟩
            rw [hqq.out] at hcell hmb
            have d1 : decide (X < s) = false := decide_eq_false (by have := hX.out; omega)
            have d2 : decide (EE ≤ X) = false := decide_eq_false (by have := hX.out; have := hEE.out; omega)
            have e2 : X - s = (q : Int) := by have := hX.out; omega
            obtain ⟨p0, p1, p2, p3, p4, p5, p6, p7, p8, p9, pn, ps, pl⟩ := (k9.below hbq).cells
            clear hge hjl' hct hqo hcs Rq hoy
            go_wp2_with fail
            refine cE.mono ?_
            rintro e w11 ⟨rfl, hb11⟩
            have hb11' : Below w9.heap.size w9 w11 := hbq.trans (hb11.mono hbq.size)
            clear p0 p1 p2 p3 p4 p5 p6 p7 p8 p9 pn ps pl
            obtain ⟨p0, p1, p2, p3, p4, p5, p6, p7, p8, p9, pn, ps, pl⟩ := (k9.below hb11').cells
            go_wp2_with fail
            refine (cO w11 (hr.below (fin hB9 hb11'))).mono ?_
            rintro e w12 ⟨rfl, hb12⟩
            have hb12' : Below w9.heap.size w9 w12 := hb11'.trans (hb12.mono hb11'.size)
            clear p0 p1 p2 p3 p4 p5 p6 p7 p8 p9 pn ps pl
            obtain ⟨p0, p1, p2, p3, p4, p5, p6, p7, p8, p9, pn, ps, pl⟩ := (k9.below hb12').cells
            have hbx : Below wr.heap.size wr w12 := hb11.trans (hb12.mono hb11.size)
            have R12 := hRq.out.of_block (hbx.block _ hRq.out.lt)
            have hcell12 := (hbx.cell (p := ⟨w9.heap.size, q, none⟩) hRq.out.lt).trans hcell
            have hfr12 := R12.frozen q
            have R13 := row_inc R12 q hg2.out
            rw [hqq.out] at R13
            have hr13 : RowI (w12.setCell ⟨w9.heap.size, q, none⟩ (.int .i64 ((qq : Int) + 1))) (some ⟨b8, off8, none⟩) (L.map fun (i : Nat) => s + (i : Int)) := (hrq.below hbx).setCell (fun x hx => by cases hx; have := hap _ rfl; show b8 ≠ w9.heap.size; simp at this; omega)
            have hb13 : Below w9.heap.size w9 (w12.setCell ⟨w9.heap.size, q, none⟩ (.int .i64 ((qq : Int) + 1))) := hb12'.setCell (p := ⟨w9.heap.size, q, none⟩) (Nat.le_refl _) _
            have hrq12 := hide (hrq.below hbx)
            clear cE cO hcell hfr hRq R12 hb12 hb11 hb11' hrq hcy hb12' d1 d2
            rcases j with _ | i
            · clear hprev
              go_wp2_with fail
              go_roundw
              case rel => exact ⟨1, by omega, by go_num, R13, hr13, hb13⟩
              case measure => simp [intOf]; omega
            · obtain ⟨Y, hYX, hyl, hy⟩ := hprev.out i rfl
              obtain ⟨b9, off9, hx9, hcz⟩ := rowI_cell hrq12.out (Below.refl _ _) hyl
              rw [hy] at hcz
              cases hx9
              have d3 : decide (X ≤ Y) = false := decide_eq_false (by omega)
              have d4 : decide ((0 : Int) < ((i + 1 : Nat) : Int)) = true := decide_eq_true (by omega)
              have d5 : decide ((0 : Int) < (i : Int) + 1) = true := decide_eq_true (by omega)
              clear hy hyl hprev
              go_wp2_with fail
              go_roundw
              case rel => exact ⟨i + 2, by omega, by go_num, R13, hr13, hb13⟩
              case measure => simp [intOf]; omega
          · obtain rfl : j = L.length := by omega
            have R11 : wr.rowIs w9.heap.size 3 M (fun i => .int .i64 ((pcount zs (zs.take (k + 1)) i : Nat) : Int)) := row_congr Rq (fun i hi => by rw [hstep.out, pcount_snoc, List.take_length, hic.out i hi])
            clear Rq hrq
            go_wp2_with fail
            go_roundw
            case rel => first | exact ⟨k + 1, by omega, by go_num, R11, hbq⟩ | ((repeat apply Exists.intro); exact ⟨⟨k + 1, by omega, by go_num, R11, hbq⟩, rfl⟩)
            case measure => simp [intOf]; omega
      · obtain rfl : k = zs.length := by omega
        have R2 : wr.rowIs w9.heap.size 3 M (fun _ => .int .i64 1) := R.congr (fun i hi => by
          show Value.int .i64 ((pcount zs (zs.take zs.length) i : Nat) : Int) = _
          rw [List.take_length, pcount_all HOK.out.up h0]; rfl)
        clear R
        go_wp2_with fail
        go_loopw [93] (fun jv wr => ∃ j : Nat, j ≤ M ∧ jv = .int .i64 (j : Int) ∧ wr.rowIs w9.heap.size 3 M (fun _ => .int .i64 1) ∧ Below w9.heap.size w9 wr) (fun jv _ => M - (intOf jv).toNat)
        case atStart => exact ⟨0, by omega, rfl, R2, hb⟩
        case round =>
          clear R2
          obtain ⟨j, hj, rfl, R2, hbq⟩ := hrel
          by_cases hjB : j < M
          · have hjI : (j : Int) < (M : Int) := by omega
            have hcj := R2.cell hjB
            go_wp2_with fail
            go_roundw
            case rel => exact ⟨j + 1, by omega, by go_num, R2, hbq⟩
            case measure => simp [intOf]; omega
          · obtain rfl : j = M := by omega
            go_wp2_with fail
            refine (lives12_any _).mono ?_
            rintro e w9 ⟨rfl, hb9⟩
            go_wp2_with fail
            go_ret
            exact ⟨rfl, fin (fin hB9 hbq) hb9⟩
end Go.Proofs.Ytnndlgdlligjbab
