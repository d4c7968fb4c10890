/- epoch: End, Owner, Slots, Primary: contracts. -/
import Derived.Test.YtnndlgdlligjbabDoorLEp1
namespace Go.Proofs.YtnndlgdlligjbabDoor.Ld
open Go.RowKit Go.Shelf
def ledE (zs : List Int) (i : Nat) : Int := zs[i % zs.length]?.getD 0
theorem ledE_eq {zs : List Int} {i : Nat} (h : 0 < zs.length) : ledE zs i = zs[i % zs.length]'(Nat.mod_lt _ h) := by
  unfold ledE; rw [List.getElem?_eq_getElem (Nat.mod_lt _ h)]; rfl
def endE (c : Cfg) (n s : Int) (zs : List Int) : Int := if goodE c n s zs then s + (zs.length : Int) * c.sl else 0
def ownE (c : Cfg) (n s : Int) (zs : List Int) (x : Int) : Int := if goodE c n s zs = true ∧ s ≤ x ∧ x < s + (zs.length : Int) * c.sl then ledE zs (x - s).toNat else -1
def slotsU (s : Int) (zs : List Int) (y : Int) (k : Nat) : List Int := ((List.range k).filter fun i => decide (ledE zs i = y)).map fun (i : Nat) => s + (i : Int)
def slotsE (c : Cfg) (n s : Int) (zs : List Int) (y : Int) : List Int := if goodE c n s zs then slotsU s zs y ((zs.length : Int) * c.sl).toNat else []
def primE (c : Cfg) (n s : Int) (zs : List Int) (y v : Int) : Int := if goodE c n s zs = true ∧ y ∈ zs ∧ 0 ≤ v ∧ v ≤ 1099511627776 then (y + v) % c.n else -1
theorem slotsU_yes {s y : Int} {zs : List Int} {k : Nat} (h : ledE zs k = y) : slotsU s zs y (k + 1) = slotsU s zs y k ++ [s + (k : Int)] := by
  unfold slotsU; rw [filter_yes _ _ (decide_eq_true h), List.map_append]; rfl
theorem slotsU_no {s y : Int} {zs : List Int} {k : Nat} (h : ¬ ledE zs k = y) : slotsU s zs y (k + 1) = slotsU s zs y k := by
  unfold slotsU; rw [filter_no _ _ (decide_eq_false h)]
theorem slotsU_len (s : Int) (zs : List Int) (y : Int) (k : Nat) : (slotsU s zs y k).length ≤ k := by
  unfold slotsU; rw [List.length_map]; exact filter_le _ _
theorem EpOk.len64 {c : Cfg} {n s : Int} {zs : List Int} {N B S M : Nat} (h : EpOk c n s zs N B S M) : zs.length ≤ 64 := by
  have key : ∀ (zs : List Int) (ahead : Int), risingF c.n ahead zs = true → -1 ≤ ahead → (zs.length : Int) ≤ c.n - ahead - 1 ∨ zs = [] := by
    intro zs
    induction zs with
    | nil => intro _ _ _; exact .inr rfl
    | cons x xs ih =>
      intro ahead hr ha
      simp only [risingF, Bool.and_eq_true, decide_eq_true_eq] at hr
      left
      rcases ih x hr.2 (by omega) with h | rfl
      · simp; omega
      · simp; omega
  have h1 := h.cfg.n
  have h2 := h.cfg.n64
  rcases key zs (-1) h.up (by omega) with h3 | rfl
  · omega
  · simp
theorem EpOk.many_le {c : Cfg} {n s : Int} {zs : List Int} {N B S M : Nat} (h : EpOk c n s zs N B S M) : M ≤ 256 := by
  have h1 := h.many
  rw [h.sl, mul_cast] at h1
  have h2 : zs.length * S = M := by omega
  rw [← h2]
  exact Nat.le_trans (Nat.mul_le_mul h.len64 h.s1.2) (by decide)
set_option maxRecDepth 100000 in
set_option maxHeartbeats 4000000 in
theorem eend_any (c : Cfg) (n s : Int) (a : Option Addr) (cap : Nat) (zs : List Int) (w : World) (hr : RowI w a zs) (hl : zs.length ≤ 100000) :
    Calls Tryd.prog 11 #[(.agg #[.int .i64 c.n, .int .i64 c.cl, .int .i64 c.wi, .int .i64 c.bu, .int .i64 c.ca, .int .i64 c.sl, .int .i64 c.rq, .int .i64 c.ti, .int .i64 c.pe, .int .i64 c.la, .int .i64 n, .int .i64 s, .slice a zs.length cap])] w fun e w' => e = .returned (.int .i64 (endE c n s zs)) ∧ Below w.heap.size w w' := by
  have hB1 : Below w.heap.size w (w.alloc (.cells #[.int .i64 c.n, .int .i64 c.cl, .int .i64 c.wi, .int .i64 c.bu, .int .i64 c.ca, .int .i64 c.sl, .int .i64 c.rq, .int .i64 c.ti, .int .i64 c.pe, .int .i64 c.la, .int .i64 n, .int .i64 s, .slice a zs.length cap] 26)) := (Below.refl _ w).alloc (Nat.le_refl _) _
  have k0 := EpAt.new w c n s a cap zs
  have fin : ∀ {W W' : World}, Below w.heap.size w W → Below W.heap.size W W' → Below w.heap.size w W' := fun h k => h.trans (k.mono h.size)
  have c1 := fun w h => egood_any c n s a cap zs w h hl
  go_enter Tryd.func11, Tryd.ntmps11
  go_wp2_with fail
  obtain ⟨w1, hw1⟩ : ∃ w1, w.alloc (.cells #[.int .i64 c.n, .int .i64 c.cl, .int .i64 c.wi, .int .i64 c.bu, .int .i64 c.ca, .int .i64 c.sl, .int .i64 c.rq, .int .i64 c.ti, .int .i64 c.pe, .int .i64 c.la, .int .i64 n, .int .i64 s, .slice a zs.length cap] 26) = w1 := ⟨_, rfl⟩
  rw [hw1] at hB1 k0 ⊢
  clear hw1
  cases hm : goodE c n s zs
  · simp only [hm] at c1
    have HE : Hid (endE c n s zs = 0) := hide (by simp [endE, hm])
    refine (c1 w1 (hr.below hB1)).mono ?_
    rintro e w4 ⟨rfl, hb4⟩
    clear hm c1
    go_wp2_with fail
    go_ret
    exact ⟨ret_int (by rw [HE.out]), fin hB1 hb4⟩
  · simp only [hm] at c1
    obtain ⟨N, B, S, M, ok, hMe⟩ := epOk hm
    have HE : Hid (endE c n s zs = s + (M : Int)) := hide (by simp [endE, hm, ok.many])
    have hM := ok.many_le
    have hst := ok.start
    have cM := fun w => many_any c n s a cap zs M ok.many (by omega) w
    refine (c1 w1 (hr.below hB1)).mono ?_
    rintro e w4 ⟨rfl, hb4⟩
    have k4 := k0.below hb4
    have hB4 := fin hB1 hb4
    clear hm c1 ok hMe k0 hB1 hb4
    go_wp2_with fail
    obtain ⟨w8, hw8⟩ : ∃ w8, w4.drew = w8 := ⟨_, rfl⟩
    refine hs_begin (S := (Below w8.heap.size w8)) 6 rfl (by kernel_rfl) ?_
    have k8 : EpAt w8 w.heap.size c n s a cap zs := by rw [← hw8]; exact k4
    have hB8 : Below w.heap.size w w8 := by rw [← hw8]; exact hB4.drew
    rw [hw8]
    clear hw8 k4 hB4
    have hS : (Below w8.heap.size w8) w8 := Below.refl _ _
    refine hs_take (i := 0) (d := some 6) (v := ?_) rfl (by kernel_rfl) (by kernel_rfl) (by kernel_rfl) (by rfl) ?_ hS rfl ?_
    rotate_left
    · intro w' hw
      go_simp
      try with_reducible rfl
    simp only [Act.put, List.setIfInBounds_toArray, List.set_cons_zero, List.set_cons_succ]
    refine hs_take (i := 1) (d := some 7) (v := .int .i64 s) rfl (by kernel_rfl) (by kernel_rfl) (by kernel_rfl) (by rfl) (fun w' hw => by have q := (k8.below hw).cells; obtain ⟨-, -, -, -, -, -, -, -, -, -, -, q, -⟩ := q; go_simp) hS rfl ?_
    simp only [Act.put, List.setIfInBounds_toArray, List.set_cons_zero, List.set_cons_succ]
    refine hs_take (i := 2) (d := some 8) (v := .agg #[.int .i64 c.n, .int .i64 c.cl, .int .i64 c.wi, .int .i64 c.bu, .int .i64 c.ca, .int .i64 c.sl, .int .i64 c.rq, .int .i64 c.ti, .int .i64 c.pe, .int .i64 c.la, .int .i64 n, .int .i64 s, .slice a zs.length cap]) rfl (by kernel_rfl) (by kernel_rfl) (by kernel_rfl) (by rfl) (fun w' hw => exec_load rfl rfl (k8.below hw).load) hS rfl ?_
    simp only [Act.put, List.setIfInBounds_toArray, List.set_cons_zero, List.set_cons_succ]
    refine hs_call (i := 3) (d := some 9) rfl (by kernel_rfl) (by rfl) (by go_simp; first | done | exact ⟨rfl, rfl⟩ | with_reducible rfl) rfl ?_
    refine (cM w8).mono ?_
    rintro e' w9 ⟨rfl, hw9⟩
    have hS : (Below w8.heap.size w8) w9 := hS.trans (hw9.mono hS.size)
    refine ⟨_, rfl, hS, ?_⟩
    simp only [Act.put, List.setIfInBounds_toArray, List.set_cons_zero, List.set_cons_succ]
    refine hs_take (i := 4) (d := some 10) (v := .int .i64 (s + (M : Int))) rfl (by kernel_rfl) (by kernel_rfl) (by kernel_rfl) (by rfl) (fun w' hw => by go_simp; try (rw [IntKind.wrap_i64]; omega)) hS rfl ?_
    simp only [Act.put, List.setIfInBounds_toArray, List.set_cons_zero, List.set_cons_succ]
    refine hs_take (i := 5) (d := some 2) (v := ?_) rfl (by kernel_rfl) (by kernel_rfl) (by kernel_rfl) (by rfl) ?_ hS rfl ?_
    rotate_left
    · intro w' hw
      go_simp
      try with_reducible rfl
    simp only [Act.put, List.setIfInBounds_toArray, List.set_cons_zero, List.set_cons_succ]
    refine hs_done (by kernel_rfl) ?_
    go_wp2_with fail
    go_ret
    exact ⟨ret_int (by rw [HE.out]), fin hB8 hS⟩
set_option maxRecDepth 100000 in
set_option maxHeartbeats 4000000 in
theorem leaderOf_any (c : Cfg) (n s : Int) (a : Option Addr) (cap : Nat) (zs : List Int) (x : Int) (q : Nat) (w : World) (hr : RowI w a zs) (hl : zs.length ≤ 100000) (h0 : 0 < zs.length) (hq : x = s + (q : Int)) (hs : 1 ≤ s ∧ s ≤ 1099511627776) (hq2 : q ≤ 1000000) :
    Calls Tryd.prog 30 #[(.agg #[.int .i64 c.n, .int .i64 c.cl, .int .i64 c.wi, .int .i64 c.bu, .int .i64 c.ca, .int .i64 c.sl, .int .i64 c.rq, .int .i64 c.ti, .int .i64 c.pe, .int .i64 c.la, .int .i64 n, .int .i64 s, .slice a zs.length cap]), .int .i64 x] w fun e w' => e = .returned (.int .i64 (ledE zs q)) ∧ Below w.heap.size w w' := by
  have hB1 : Below w.heap.size w (w.alloc (.cells #[.int .i64 c.n, .int .i64 c.cl, .int .i64 c.wi, .int .i64 c.bu, .int .i64 c.ca, .int .i64 c.sl, .int .i64 c.rq, .int .i64 c.ti, .int .i64 c.pe, .int .i64 c.la, .int .i64 n, .int .i64 s, .slice a zs.length cap] 26)) := (Below.refl _ w).alloc (Nat.le_refl _) _
  have k0 := EpAt.new w c n s a cap zs
  have fin : ∀ {W W' : World}, Below w.heap.size w W → Below W.heap.size W W' → Below w.heap.size w W' := fun h k => h.trans (k.mono h.size)
  have hm := Nat.mod_lt q h0
  obtain ⟨b, off, rfl, hc⟩ := rowI_cell hr hB1 hm
  rw [ledE_eq h0]
  generalize zs[q % zs.length]'hm = y at *
  have e1 : x - s = (q : Int) := by omega
  have e2 : (q : Int) % (zs.length : Int) = ((q % zs.length : Nat) : Int) := by simp
  obtain ⟨r, hrr⟩ : ∃ r, q % zs.length = r := ⟨_, rfl⟩
  rw [hrr] at e2 hm hc
  have hmI : (r : Int) < (zs.length : Int) := by omega
  have hx : x ≤ 2000000000000 ∧ 1 ≤ x := by omega
  have hlp : (0 : Int) < (zs.length : Int) := by omega
  have hne : ¬ (zs.length : Int) = 0 := by omega
  clear hrr hq
  obtain ⟨p0, p1, p2, p3, p4, p5, p6, p7, p8, p9, pn, ps, pl⟩ := k0.cells
  go_enter Tryd.func30, Tryd.ntmps30
  go_wp2_with fail
  obtain ⟨w1, hw1⟩ : ∃ w1, w.alloc (.cells #[.int .i64 c.n, .int .i64 c.cl, .int .i64 c.wi, .int .i64 c.bu, .int .i64 c.ca, .int .i64 c.sl, .int .i64 c.rq, .int .i64 c.ti, .int .i64 c.pe, .int .i64 c.la, .int .i64 n, .int .i64 s, .slice (some ⟨b, off, none⟩) zs.length cap] 26) = w1 := ⟨_, rfl⟩
  rw [hw1] at hB1 hc ps pl ⊢
  clear hw1 k0 p0 p1 p2 p3 p4 p5 p6 p7 p8 p9 pn
  go_quiet (fail)
  go_wp2_with fail
  go_ret
  exact ⟨rfl, fin hB1 (below_drewN (Below.refl _ w1) _)⟩
theorem ownE_no {c : Cfg} {n s x : Int} {zs : List Int} (h : goodE c n s zs = false) : ownE c n s zs x = -1 := by simp [ownE, h]
theorem ownE_out {c : Cfg} {n s x : Int} {zs : List Int} (h : ¬ (s ≤ x ∧ x < s + (zs.length : Int) * c.sl)) : ownE c n s zs x = -1 := by
  unfold ownE; rw [if_neg (fun hh => h hh.2)]
theorem ownE_in {c : Cfg} {n s x : Int} {zs : List Int} {q : Nat} (h : goodE c n s zs = true) (hx : x = s + (q : Int)) (hq : (q : Int) < (zs.length : Int) * c.sl) : ownE c n s zs x = ledE zs q := by
  unfold ownE; rw [if_pos ⟨h, by omega, by omega⟩]; congr 1; omega
set_option maxRecDepth 100000 in
set_option maxHeartbeats 4000000 in
theorem ask_any (c : Cfg) (n s : Int) (a : Option Addr) (cap : Nat) (zs : List Int) (x : Int) (w : World) (hr : RowI w a zs) (hl : zs.length ≤ 100000) :
    Calls Tryd.prog 29 #[(.agg #[.int .i64 c.n, .int .i64 c.cl, .int .i64 c.wi, .int .i64 c.bu, .int .i64 c.ca, .int .i64 c.sl, .int .i64 c.rq, .int .i64 c.ti, .int .i64 c.pe, .int .i64 c.la, .int .i64 n, .int .i64 s, .slice a zs.length cap]), .func (.func 30) #[] #[], .int .i64 x] w fun e w' => e = .returned (.int .i64 (ownE c n s zs x)) ∧ Below w.heap.size w w' := by
  have hB1 : Below w.heap.size w (w.alloc (.cells #[.int .i64 c.n, .int .i64 c.cl, .int .i64 c.wi, .int .i64 c.bu, .int .i64 c.ca, .int .i64 c.sl, .int .i64 c.rq, .int .i64 c.ti, .int .i64 c.pe, .int .i64 c.la, .int .i64 n, .int .i64 s, .slice a zs.length cap] 26)) := (Below.refl _ w).alloc (Nat.le_refl _) _
  have k0 := EpAt.new w c n s a cap zs
  have fin : ∀ {W W' : World}, Below w.heap.size w W → Below W.heap.size W W' → Below w.heap.size w W' := fun h k => h.trans (k.mono h.size)
  have c1 := fun w h => egood_any c n s a cap zs w h hl
  go_enter Tryd.func29, Tryd.ntmps29
  go_wp2_with fail
  obtain ⟨w1, hw1⟩ : ∃ w1, w.alloc (.cells #[.int .i64 c.n, .int .i64 c.cl, .int .i64 c.wi, .int .i64 c.bu, .int .i64 c.ca, .int .i64 c.sl, .int .i64 c.rq, .int .i64 c.ti, .int .i64 c.pe, .int .i64 c.la, .int .i64 n, .int .i64 s, .slice a zs.length cap] 26) = w1 := ⟨_, rfl⟩
  rw [hw1] at hB1 k0 ⊢
  clear hw1
  cases hm : goodE c n s zs
  · simp only [hm] at c1
    have HE := hide (ownE_no (x := x) hm)
    refine (c1 w1 (hr.below hB1)).mono ?_
    rintro e w4 ⟨rfl, hb4⟩
    clear hm c1
    go_wp2_with fail
    go_ret
    exact ⟨ret_int (by rw [HE.out]), fin hB1 hb4⟩
  · simp only [hm] at c1
    obtain ⟨N, B, S, M, ok, hMe⟩ := epOk hm
    have hM := ok.many_le
    have hst := ok.start
    have h0 := ok.len
    have HMN := hide ok.many
    have cE := fun w h => eend_any c n s a cap zs w h hl
    have hEE : endE c n s zs = s + (M : Int) := by simp [endE, hm, ok.many]
    simp only [hEE] at cE
    refine (c1 w1 (hr.below hB1)).mono ?_
    rintro e w4 ⟨rfl, hb4⟩
    have k4 := k0.below hb4
    have hB4 := fin hB1 hb4
    have HG := hide hm
    obtain ⟨p0, p1, p2, p3, p4, p5, p6, p7, p8, p9, pn, ps, pl⟩ := k4.cells
    clear hm c1 ok hMe k0 hB1 hb4 hEE
    by_cases h1 : x < s
    · have HE := hide (ownE_out (c := c) (n := n) (s := s) (x := x) (zs := zs) (fun hh => by omega))
      have d1 : decide (x < s) = true := decide_eq_true h1
      go_wp2_with fail
      go_ret
      exact ⟨ret_int (by rw [HE.out]), hB4⟩
    · have d1 : decide (x < s) = false := decide_eq_false h1
      go_wp2_with fail
      refine (cE w4 (hr.below hB4)).mono ?_
      rintro e w5 ⟨rfl, hb5⟩
      have k5 := k4.below hb5
      have hB5 := fin hB4 hb5
      clear p0 p1 p2 p3 p4 p5 p6 p7 p8 p9 pn ps pl
      by_cases h2 : x < s + (M : Int)
      · have d2 : decide (s + (M : Int) ≤ x) = false := decide_eq_false (by omega)
        obtain ⟨q, hq⟩ := Int.eq_ofNat_of_zero_le (show 0 ≤ x - s by omega)
        have HE := hide (ownE_in (q := q) HG.out (show x = s + (q : Int) by omega) (by rw [HMN.out]; omega))
        have cL := fun w h => leaderOf_any c n s a cap zs x q w h hl h0 (by omega) (by omega) (by omega)
        obtain ⟨p0, p1, p2, p3, p4, p5, p6, p7, p8, p9, pn, ps, pl⟩ := k5.cells
        clear hq d1
        go_wp2_with fail
        refine (cL w5 (hr.below hB5)).mono ?_
        rintro e w6 ⟨rfl, hb6⟩
        go_wp2_with fail
        go_ret
        exact ⟨ret_int (by rw [HE.out]), fin hB5 hb6⟩
      · have HE := hide (ownE_out (c := c) (n := n) (s := s) (x := x) (zs := zs) (fun hh => by rw [HMN.out] at hh; omega))
        have d2 : decide (s + (M : Int) ≤ x) = true := decide_eq_true (by omega)
        go_wp2_with fail
        go_ret
        exact ⟨ret_int (by rw [HE.out]), hB5⟩
set_option maxRecDepth 100000 in
set_option maxHeartbeats 4000000 in
theorem eowner_any (c : Cfg) (n s : Int) (a : Option Addr) (cap : Nat) (zs : List Int) (x : Int) (w : World) (hr : RowI w a zs) (hl : zs.length ≤ 100000) :
    Calls Tryd.prog 13 #[(.agg #[.int .i64 c.n, .int .i64 c.cl, .int .i64 c.wi, .int .i64 c.bu, .int .i64 c.ca, .int .i64 c.sl, .int .i64 c.rq, .int .i64 c.ti, .int .i64 c.pe, .int .i64 c.la, .int .i64 n, .int .i64 s, .slice a zs.length cap]), .int .i64 x] w fun e w' => e = .returned (.int .i64 (ownE c n s zs x)) ∧ Below w.heap.size w w' := by
  have hB1 : Below w.heap.size w (w.alloc (.cells #[.int .i64 c.n, .int .i64 c.cl, .int .i64 c.wi, .int .i64 c.bu, .int .i64 c.ca, .int .i64 c.sl, .int .i64 c.rq, .int .i64 c.ti, .int .i64 c.pe, .int .i64 c.la, .int .i64 n, .int .i64 s, .slice a zs.length cap] 26)) := (Below.refl _ w).alloc (Nat.le_refl _) _
  have k0 := EpAt.new w c n s a cap zs
  have fin : ∀ {W W' : World}, Below w.heap.size w W → Below W.heap.size W W' → Below w.heap.size w W' := fun h k => h.trans (k.mono h.size)
  have c1 := fun w h => ask_any c n s a cap zs x w h hl
  go_enter Tryd.func13, Tryd.ntmps13
  go_wp2_with fail
  refine (c1 _ (hr.below hB1)).mono ?_
  rintro e w4 ⟨rfl, hb4⟩
  go_wp2_with fail
  go_ret
  exact ⟨rfl, fin hB1 hb4⟩
end Go.Proofs.YtnndlgdlligjbabDoor.Ld
