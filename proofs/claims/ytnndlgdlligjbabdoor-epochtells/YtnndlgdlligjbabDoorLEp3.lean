/- epoch: Slots, Primary: contracts. -/
import Derived.Test.YtnndlgdlligjbabDoorLEp2
namespace Go.Proofs.YtnndlgdlligjbabDoor.Ld
open Go.RowKit Go.Shelf
set_option maxRecDepth 100000 in
set_option maxHeartbeats 4000000 in
theorem slotsThat_any (c : Cfg) (n s : Int) (a : Option Addr) (cap : Nat) (zs : List Int) (y : Int) (w : World) (hr : RowI w a zs) (hl : zs.length ≤ 100000) :
    Calls Tryd.prog 31 #[(.agg #[.int .i64 c.n, .int .i64 c.cl, .int .i64 c.wi, .int .i64 c.bu, .int .i64 c.ca, .int .i64 c.sl, .int .i64 c.rq, .int .i64 c.ti, .int .i64 c.pe, .int .i64 c.la, .int .i64 n, .int .i64 s, .slice a zs.length cap]), .func (.func 30) #[] #[], .int .i64 y] w fun e w' => ∃ v, e = .returned v ∧ w'.ownsRow w.heap.size 3 1 v (slotsE c n s zs y).length (ivals (slotsE c n s zs y)) ∧ Below w.heap.size w w' := by
  obtain ⟨i0, hi, hz0, hz1, hz2⟩ := info_parts info3
  have hB1 : Below w.heap.size w (w.alloc (.cells #[.int .i64 c.n, .int .i64 c.cl, .int .i64 c.wi, .int .i64 c.bu, .int .i64 c.ca, .int .i64 c.sl, .int .i64 c.rq, .int .i64 c.ti, .int .i64 c.pe, .int .i64 c.la, .int .i64 n, .int .i64 s, .slice a zs.length cap] 26)) := (Below.refl _ w).alloc (Nat.le_refl _) _
  have k0 := EpAt.new w c n s a cap zs
  have fin : ∀ {W W' : World}, Below w.heap.size w W → Below W.heap.size W W' → Below w.heap.size w W' := fun h k => h.trans (k.mono h.size)
  have c1 := fun w h => egood_any c n s a cap zs w h hl
  go_enter Tryd.func31, Tryd.ntmps31
  go_wp2_with fail
  obtain ⟨w1, hw1⟩ : ∃ w1, w.alloc (.cells #[.int .i64 c.n, .int .i64 c.cl, .int .i64 c.wi, .int .i64 c.bu, .int .i64 c.ca, .int .i64 c.sl, .int .i64 c.rq, .int .i64 c.ti, .int .i64 c.pe, .int .i64 c.la, .int .i64 n, .int .i64 s, .slice a zs.length cap] 26) = w1 := ⟨_, rfl⟩
  rw [hw1] at hB1 k0 ⊢
  clear hw1
  cases hm : goodE c n s zs
  · simp only [hm] at c1
    have HE : Hid (slotsE c n s zs y = []) := hide (by simp [slotsE, hm])
    refine (c1 w1 (hr.below hB1)).mono ?_
    rintro e w4 ⟨rfl, hb4⟩
    clear hm c1
    go_wp2_with fail
    go_ret
    exact ⟨_, rfl, by rw [HE.out]; exact World.ownsRow_nil _ _ _ _, fin hB1 hb4⟩
  · simp only [hm] at c1
    obtain ⟨N, B, S, M, ok, hMe⟩ := epOk hm
    have hM := ok.many_le
    have hst := ok.start
    have h0 := ok.len
    have HE : Hid (slotsE c n s zs y = slotsU s zs y M) := hide (by simp [slotsE, hm, ok.many])
    have cM := fun w => many_any c n s a cap zs M ok.many (by omega) w
    refine (c1 w1 (hr.below hB1)).mono ?_
    rintro e w4 ⟨rfl, hb4⟩
    have k4 := k0.below hb4
    have hB4 := fin hB1 hb4
    obtain ⟨p0, p1, p2, p3, p4, p5, p6, p7, p8, p9, pn, ps, pl⟩ := k4.cells
    clear hm c1 ok hMe k0 hB1 hb4
    go_wp2_with fail
    refine (cM w4).mono ?_
    rintro e w5 ⟨rfl, hb5⟩
    have k5 := k4.below hb5
    have hB5 := fin hB4 hb5
    clear p0 p1 p2 p3 p4 p5 p6 p7 p8 p9 pn ps pl
    clear cM
    go_wp2_with fail
    go_loopw [7, 15] (fun v1 iv wr => ∃ k : Nat, k ≤ M ∧ iv = .int .i64 (k : Int) ∧ wr.ownsRow w5.heap.size 3 1 v1 (slotsU s zs y k).length (ivals (slotsU s zs y k)) ∧ Below w5.heap.size w5 wr) (fun _ iv _ => M - (intOf iv).toNat)
    case atStart => exact ⟨0, by omega, rfl, World.ownsRow_nil _ _ _ _, Below.refl _ _⟩
    case round =>
      obtain ⟨k, hk, rfl, R, hb⟩ := hrel
      have hl1 := slotsU_len s zs y k
      have hBr := fin hB5 hb
      by_cases hlt : k < M
      · obtain ⟨p0, p1, p2, p3, p4, p5, p6, p7, p8, p9, pn, ps, pl⟩ := (k5.below hb).cells
        have cL := leaderOf_any c n s a cap zs (s + (k : Int)) k wr (hr.below hBr) hl h0 rfl (by omega) (by omega)
        have H1 := fun h => slotsU_yes (s := s) (y := y) (zs := zs) (k := k) h
        have H2 := fun h => slotsU_no (s := s) (y := y) (zs := zs) (k := k) h
        generalize ledE zs k = ld at *
        generalize slotsU s zs y k = L1 at *
        obtain ⟨va, vcap, rfl⟩ := ownsRow_slice R
        by_cases hy : ld = y
        · have H3 := hide (H1 hy)
          subst hy
          clear H1 H2
          go_wp2_with fail
          refine cL.mono ?_
          rintro e w6 ⟨rfl, hb6⟩
          have R6 := ownsRow_below R hb6
          have hb6' : Below w5.heap.size w5 w6 := hb.trans (hb6.mono hb.size)
          clear p0 p1 p2 p3 p4 p5 p6 p7 p8 p9 pn ps pl
          go_wp2_with (at_builtin; refine wpList_append_own_src2 _ rfl _ _ 24 24 rfl w5.heap.size 3 i0 (.int .i64 0) 1 8 Tryd.underlying24 hi hz0 hz1 hz2 rfl _ L1.length (ivals L1) rfl (R6.alloc _) (.slice (some ⟨w6.heap.size, 0, none⟩) 1 1) 1 [.int .i64 (s + (k : Int))] rfl (src_one _ _) ?c1 ?c2 ?c3 ?_)
          case c1 => unfold maxLen; omega
          case c2 => omega
          case c3 => have := hb6'.size; simp; omega
          intro v' w7 hown hgr hnew
          have hb7 := first_below R6 hb6' hb6'.size hgr
          obtain ⟨va7, vcap7, rfl⟩ := ownsRow_slice hown
          go_wp2_with fail
          go_roundw
          case rel => exact ⟨k + 1, by omega, by go_num, by rw [H3.out, ivals_snoc]; simpa using hown, hb7⟩
          case measure => simp [intOf]; omega
        · have H3 := hide (H2 hy)
          clear H1 H2
          go_wp2_with fail
          refine cL.mono ?_
          rintro e w6 ⟨rfl, hb6⟩
          have R6 := ownsRow_below R hb6
          have hb6' : Below w5.heap.size w5 w6 := hb.trans (hb6.mono hb.size)
          clear p0 p1 p2 p3 p4 p5 p6 p7 p8 p9 pn ps pl
          go_wp2_with fail
          go_roundw
          case rel => exact ⟨k + 1, by omega, by go_num, by rw [H3.out]; exact R6, hb6'⟩
          case measure => simp [intOf]; omega
      · obtain rfl : k = M := by omega
        generalize slotsU s zs y k = L1 at *
        obtain ⟨va, vcap, rfl⟩ := ownsRow_slice R
        go_wp2_with fail
        go_ret
        exact ⟨_, rfl, by rw [HE.out]; exact ownsRow_low hB5.size R, hBr⟩
set_option maxRecDepth 100000 in
set_option maxHeartbeats 4000000 in
theorem slots_any (c : Cfg) (n s : Int) (a : Option Addr) (cap : Nat) (zs : List Int) (y : Int) (w : World) (hr : RowI w a zs) (hl : zs.length ≤ 100000) :
    Calls Tryd.prog 16 #[(.agg #[.int .i64 c.n, .int .i64 c.cl, .int .i64 c.wi, .int .i64 c.bu, .int .i64 c.ca, .int .i64 c.sl, .int .i64 c.rq, .int .i64 c.ti, .int .i64 c.pe, .int .i64 c.la, .int .i64 n, .int .i64 s, .slice a zs.length cap]), .int .i64 y] w fun e w' => ∃ v, e = .returned v ∧ w'.ownsRow w.heap.size 3 1 v (slotsE c n s zs y).length (ivals (slotsE c n s zs y)) ∧ Below w.heap.size w w' := by
  have hB1 : Below w.heap.size w (w.alloc (.cells #[.int .i64 c.n, .int .i64 c.cl, .int .i64 c.wi, .int .i64 c.bu, .int .i64 c.ca, .int .i64 c.sl, .int .i64 c.rq, .int .i64 c.ti, .int .i64 c.pe, .int .i64 c.la, .int .i64 n, .int .i64 s, .slice a zs.length cap] 26)) := (Below.refl _ w).alloc (Nat.le_refl _) _
  have k0 := EpAt.new w c n s a cap zs
  have fin : ∀ {W W' : World}, Below w.heap.size w W → Below W.heap.size W W' → Below w.heap.size w W' := fun h k => h.trans (k.mono h.size)
  have c1 := fun w h => slotsThat_any c n s a cap zs y w h hl
  go_enter Tryd.func16, Tryd.ntmps16
  go_wp2_with fail
  refine (c1 _ (hr.below hB1)).mono ?_
  rintro e w4 ⟨v, rfl, hrow, hb4⟩
  obtain ⟨va, vcap, rfl⟩ := ownsRow_slice hrow
  go_wp2_with fail
  go_ret
  exact ⟨_, rfl, ownsRow_low hB1.size hrow, fin hB1 hb4⟩
set_option maxHeartbeats 1000000 in
theorem index_any (a : Option Addr) (cap : Nat) (zs : List Int) (x : Int) (w : World) (hr : RowI w a zs) (hl : zs.length ≤ 100000) :
    Calls Tryd.prog 43 #[.slice a zs.length cap, .int .i64 x] w fun e w' => ∃ i : Int, e = .returned (.int .i64 i) ∧ Hid (0 ≤ i ↔ x ∈ zs) ∧ w' = w := by
  go_enter Tryd.func43, Tryd.ntmps43
  go_wp2
  go_loop [8] (fun kv => ∃ k : Nat, k ≤ zs.length ∧ kv = .int .i64 (k : Int) ∧ Hid (x ∉ zs.take k)) (fun kv => zs.length - (intOf kv).toNat)
  case atStart => exact ⟨0, by omega, rfl, hide (by simp)⟩
  case round =>
    obtain ⟨k, hk, rfl, HN⟩ := hrel
    by_cases hlt : k < zs.length
    · obtain ⟨b, off, rfl, hc⟩ := rowI_cell hr (Below.refl _ _) hlt
      have k1 : (k : Int) < zs.length := by omega
      have HM := hide (List.getElem_mem hlt)
      have HT := hide (List.take_succ_eq_append_getElem hlt)
      generalize zs[k] = y at *
      by_cases hxy : x = y
      · subst hxy
        go_wp2
        go_ret
        exact ⟨(k : Int), rfl, hide ⟨fun _ => HM.out, fun _ => by omega⟩, rfl⟩
      · go_wp2
        go_round
        case rel => exact ⟨k + 1, by omega, by go_num, hide (by rw [HT.out]; simp; exact ⟨HN.out, hxy⟩)⟩
        case measure => simp [intOf]; omega
    · obtain rfl : k = zs.length := by omega
      go_wp2
      go_ret
      exact ⟨-1, rfl, hide ⟨fun h => by omega, fun h => absurd h (by have := HN.out; rwa [List.take_length] at this)⟩, rfl⟩
theorem contains_any (a : Option Addr) (cap : Nat) (zs : List Int) (x : Int) (w : World) (hr : RowI w a zs) (hl : zs.length ≤ 100000) :
    Calls Tryd.prog 32 #[.slice a zs.length cap, .int .i64 x] w fun e w' => e = .returned (.bool (decide (x ∈ zs))) ∧ w' = w := by
  have c1 := index_any a cap zs x w hr hl
  go_enter Tryd.func32, Tryd.ntmps32
  go_wp2_with fail
  refine c1.mono ?_
  rintro e w1 ⟨i, rfl, hx, hw⟩
  obtain rfl := hw.symm
  clear hw c1
  go_wp2_with fail
  go_ret
  exact ⟨ret_bool (decide_eq_decide.2 hx.out), rfl⟩
theorem primE_no {c : Cfg} {n s y v : Int} {zs : List Int} (h : ¬ (goodE c n s zs = true ∧ y ∈ zs ∧ 0 ≤ v ∧ v ≤ 1099511627776)) : primE c n s zs y v = -1 := by
  unfold primE; rw [if_neg h]
theorem primE_yes {c : Cfg} {n s y v : Int} {zs : List Int} (h : goodE c n s zs = true ∧ y ∈ zs ∧ 0 ≤ v ∧ v ≤ 1099511627776) : primE c n s zs y v = (y + v) % c.n := by
  unfold primE; rw [if_pos h]
theorem EpOk.mem {c : Cfg} {n s : Int} {zs : List Int} {N B S M : Nat} (h : EpOk c n s zs N B S M) {y : Int} (hy : y ∈ zs) : 0 ≤ y ∧ y < (N : Int) := by
  obtain ⟨i, hi, rfl⟩ := List.getElem_of_mem hy
  have := risingF_all h.up i hi
  have := h.cfg.n
  omega
set_option maxRecDepth 100000 in
set_option maxHeartbeats 4000000 in
theorem primary_any (c : Cfg) (n s : Int) (a : Option Addr) (cap : Nat) (zs : List Int) (y v : Int) (w : World) (hr : RowI w a zs) (hl : zs.length ≤ 100000) :
    Calls Tryd.prog 18 #[(.agg #[.int .i64 c.n, .int .i64 c.cl, .int .i64 c.wi, .int .i64 c.bu, .int .i64 c.ca, .int .i64 c.sl, .int .i64 c.rq, .int .i64 c.ti, .int .i64 c.pe, .int .i64 c.la, .int .i64 n, .int .i64 s, .slice a zs.length cap]), .int .i64 y, .int .i64 v] w fun e w' => e = .returned (.int .i64 (primE c n s zs y v)) ∧ Below w.heap.size w w' := by
  have hB1 : Below w.heap.size w (w.alloc (.cells #[.int .i64 c.n, .int .i64 c.cl, .int .i64 c.wi, .int .i64 c.bu, .int .i64 c.ca, .int .i64 c.sl, .int .i64 c.rq, .int .i64 c.ti, .int .i64 c.pe, .int .i64 c.la, .int .i64 n, .int .i64 s, .slice a zs.length cap] 26)) := (Below.refl _ w).alloc (Nat.le_refl _) _
  have k0 := EpAt.new w c n s a cap zs
  have fin : ∀ {W W' : World}, Below w.heap.size w W → Below W.heap.size W W' → Below w.heap.size w W' := fun h k => h.trans (k.mono h.size)
  have c1 := fun w h => egood_any c n s a cap zs w h hl
  go_enter Tryd.func18, Tryd.ntmps18
  go_wp2_with fail
  obtain ⟨w1, hw1⟩ : ∃ w1, w.alloc (.cells #[.int .i64 c.n, .int .i64 c.cl, .int .i64 c.wi, .int .i64 c.bu, .int .i64 c.ca, .int .i64 c.sl, .int .i64 c.rq, .int .i64 c.ti, .int .i64 c.pe, .int .i64 c.la, .int .i64 n, .int .i64 s, .slice a zs.length cap] 26) = w1 := ⟨_, rfl⟩
  rw [hw1] at hB1 k0 ⊢
  clear hw1
  cases hm : goodE c n s zs
  · simp only [hm] at c1
    have HE := hide (primE_no (c := c) (n := n) (s := s) (y := y) (v := v) (zs := zs) (fun hh => by rw [hm] at hh; cases hh.1))
    refine (c1 w1 (hr.below hB1)).mono ?_
    rintro e w4 ⟨rfl, hb4⟩
    clear hm c1
    go_wp2_with fail
    go_ret
    exact ⟨ret_int (by rw [HE.out]), fin hB1 hb4⟩
  · simp only [hm] at c1
    obtain ⟨N, B, S, M, ok, hMe⟩ := epOk hm
    refine (c1 w1 (hr.below hB1)).mono ?_
    rintro e w4 ⟨rfl, hb4⟩
    have k4 := k0.below hb4
    have hB4 := fin hB1 hb4
    have HG := hide hm
    have HOK := hide ok
    have hN1 : 1 ≤ N := by have := ok.cfg.n4; omega
    have hN64 := ok.cfg.n64
    have cC := contains_any a cap zs y w4 (hr.below hB4) hl
    obtain ⟨p0, p1, p2, p3, p4, p5, p6, p7, p8, p9, pn, ps, pl⟩ := k4.cells
    have p0N := p0
    rw [ok.cfg.n] at p0N
    clear hm c1 ok hMe k0 hB1 hb4 p0
    by_cases hy : y ∈ zs
    · rw [decide_eq_true hy] at cC
      have hyb := HOK.out.mem hy
      by_cases hv0 : v < 0
      · have HE := hide (primE_no (c := c) (n := n) (s := s) (y := y) (v := v) (zs := zs) (fun hh => by omega))
        have d1 : decide (v < 0) = true := decide_eq_true hv0
        go_wp2_with (go_at_call 32; refine cC.mono ?_; rintro e w5 ⟨rfl, hx⟩; obtain rfl := hx.symm; clear hx)
        go_ret
        exact ⟨ret_int (by rw [HE.out]), hB4⟩
      · have d1 : decide (v < 0) = false := decide_eq_false hv0
        by_cases hv1 : 1099511627776 < v
        · have HE := hide (primE_no (c := c) (n := n) (s := s) (y := y) (v := v) (zs := zs) (fun hh => by omega))
          have d2 : decide (1099511627776 < v) = true := decide_eq_true hv1
          go_wp2_with (go_at_call 32; refine cC.mono ?_; rintro e w5 ⟨rfl, hx⟩; obtain rfl := hx.symm; clear hx)
          go_ret
          exact ⟨ret_int (by rw [HE.out]), hB4⟩
        · have HE := hide (primE_yes (c := c) (n := n) (s := s) (y := y) (v := v) (zs := zs) ⟨HG.out, hy, by omega, by omega⟩)
          have d2 : decide (1099511627776 < v) = false := decide_eq_false hv1
          have hNe : ¬ (N : Int) = 0 := by omega
          go_wp2_with (go_at_call 32; refine cC.mono ?_; rintro e w5 ⟨rfl, hx⟩; obtain rfl := hx.symm; clear hx)
          go_ret
          exact ⟨ret_int (by rw [HE.out, HOK.out.cfg.n]), hB4⟩
    · rw [decide_eq_false hy] at cC
      have HE := hide (primE_no (c := c) (n := n) (s := s) (y := y) (v := v) (zs := zs) (fun hh => hy hh.2.1))
      go_wp2_with (go_at_call 32; refine cC.mono ?_; rintro e w5 ⟨rfl, hx⟩; obtain rfl := hx.symm; clear hx)
      go_ret
      exact ⟨ret_int (by rw [HE.out]), hB4⟩
end Go.Proofs.YtnndlgdlligjbabDoor.Ld
