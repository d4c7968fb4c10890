/- the document's Good of an epoch: a contract. -/
import Derived.Test.YtnndlgdlligjbaaLEp5
namespace Go.Proofs.Ytnndlgdlligjbaa
open Go.RowKit Go.Shelf
set_option maxRecDepth 100000 in
set_option maxHeartbeats 16000000 in
theorem regood_any (c : Cfg) (n s : Int) (a : Option Addr) (cap : Nat) (zs : List Int) (w : World) (hr : RowI w a zs) (hl : zs.length ≤ 100000) :
    Calls Try.prog 51 #[(.agg #[.int .i64 c.n, .int .i64 c.cl, .int .i64 c.wi, .int .i64 c.bu, .int .i64 c.ca, .int .i64 c.sl, .int .i64 c.rq, .int .i64 c.ti, .int .i64 c.pe, .int .i64 c.la, .int .i64 n, .int .i64 s, .slice a zs.length cap])] w fun e w' => e = .returned (.bool (goodE c n s zs)) ∧ Below w.heap.size w w' := by
  have hB1 : Below w.heap.size w (w.alloc (.cells #[.int .i64 c.n, .int .i64 c.cl, .int .i64 c.wi, .int .i64 c.bu, .int .i64 c.ca, .int .i64 c.sl, .int .i64 c.rq, .int .i64 c.ti, .int .i64 c.pe, .int .i64 c.la, .int .i64 n, .int .i64 s, .slice a zs.length cap] 45)) := (Below.refl _ w).alloc (Nat.le_refl _) _
  have k0 := REpAt.new w c n s a cap zs
  have fin : ∀ {W W' : World}, Below w.heap.size w W → Below W.heap.size W W' → Below w.heap.size w W' := fun h k => h.trans (k.mono h.size)
  have c1 := fun w => rlgood_any c w
  have HG : Hid (goodE c n s zs = (goodC c && decide (1 ≤ n ∧ n ≤ c.la) && decide (0 < zs.length) && risingB c.n zs && decide (1 ≤ s ∧ s ≤ 1099511627776 - (zs.length : Int) * c.sl))) := hide rfl
  go_enter Try.func51, Try.ntmps51
  go_wp2_with fail
  obtain ⟨w1, hw1⟩ : ∃ w1, w.alloc (.cells #[.int .i64 c.n, .int .i64 c.cl, .int .i64 c.wi, .int .i64 c.bu, .int .i64 c.ca, .int .i64 c.sl, .int .i64 c.rq, .int .i64 c.ti, .int .i64 c.pe, .int .i64 c.la, .int .i64 n, .int .i64 s, .slice a zs.length cap] 45) = w1 := ⟨_, rfl⟩
  rw [hw1] at hB1 k0 ⊢
  clear hw1
  cases hm : goodC c
  · simp only [errC_no hm] at c1
    rw [hm] at HG
    refine (c1 w1).mono ?_
    rintro e w4 ⟨rfl, hb4⟩
    clear hm c1
    go_wp2_with fail
    go_ret
    exact ⟨ret_bool (by rw [HG.out]; simp), fin hB1 hb4⟩
  · simp only [errC_yes hm] at c1
    rw [hm] at HG
    obtain ⟨N, B, ok⟩ := cfgOk hm
    have hsl := ok.sl
    refine (c1 w1).mono ?_
    rintro e w4 ⟨rfl, hb4⟩
    have hB4 := fin hB1 hb4
    have k4 := k0.below hb4
    obtain ⟨p0, p1, p2, p3, p4, p5, p6, p7, p8, p9, pn, ps, pl⟩ := k4.cells
    clear hm c1 ok hb4 k0 hB1
    by_cases hn1 : 1 ≤ n
    · have d1 : decide (n < 1) = false := decide_eq_false (by omega)
      by_cases hn2 : n ≤ c.la
      · have d2 : decide (c.la < n) = false := decide_eq_false (by omega)
        rw [decide_eq_true (show 1 ≤ n ∧ n ≤ c.la from ⟨hn1, hn2⟩)] at HG
        by_cases hz : 0 < zs.length
        · have d3 : ((zs.length : Int) == 0) = false := by rw [beq_eq_false_iff_ne]; omega
          rw [decide_eq_true hz] at HG
          go_wp2_with fail
          clear p0 p1 p2 p3 p4 p5 p6 p7 p8 p9 pn ps pl
          clear d1 d2 d3
          go_loopw [3] (fun iv wr => ∃ (k : Nat) (h : Int), k ≤ zs.length ∧ iv = .int .i64 (k : Int) ∧ -1 ≤ h ∧ (k = 0 → h = -1) ∧ (∀ i (hi : i < zs.length), k = i + 1 → zs[i] = h) ∧ Hid (risingB c.n zs = risingF c.n h (zs.drop k)) ∧ Below w4.heap.size w4 wr) (fun iv _ => zs.length - (intOf iv).toNat)
          case atStart => exact ⟨0, -1, by omega, rfl, by omega, fun _ => rfl, fun i hi h => absurd h (by omega), hide rfl, Below.refl _ _⟩
          case round =>
            obtain ⟨k, h, hk, rfl, hh, hh0, hhk, HR, hb⟩ := hrel
            obtain ⟨p0, p1, p2, p3, p4, p5, p6, p7, p8, p9, pn, ps, pl⟩ := (k4.below hb).cells
            clear p1 p2 p3 p4 p6 p7 p8 p9 pn
            by_cases hlt : k < zs.length
            · obtain ⟨bb, off, rfl, hc⟩ := rowI_cell hr (fin hB4 hb) hlt
              have k1 : (k : Int) < zs.length := by omega
              have HS := hide (risingF_step (N := c.n) (ahead := h) hlt)
              obtain ⟨x, hx⟩ : ∃ x, zs[k] = x := ⟨_, rfl⟩
              have HX : Hid (zs[k] = x) := hide hx
              rw [hx] at hc
              simp only [hx] at HS
              clear hx
              clear p5 ps
              by_cases h1 : x < 0
              · have e1 : decide (x < 0) = true := decide_eq_true h1
                clear hhk hh0
                go_wp2
                go_quiet (fail)
                go_wp2
                go_ret
                exact ⟨ret_bool (by rw [HG.out, HR.out, HS.out, decide_eq_false (by omega)]; simp), fin hB4 (below_drewN hb _)⟩
              · have e1 : decide (x < 0) = false := decide_eq_false h1
                by_cases h2 : x < c.n
                · have e2 : decide (c.n ≤ x) = false := decide_eq_false (by omega)
                  by_cases hk0 : k = 0
                  · subst hk0
                    have hh0 := hh0 rfl
                    simp only [Nat.add_zero] at hc
                    clear hhk
                    go_wp2
                    go_quiet (fail)
                    go_wp2
                    go_roundw
                    case rel => exact ⟨1, x, by omega, by go_num, by omega, fun h => absurd h (by omega), fun j hj he => by obtain rfl : j = 0 := (by omega); exact HX.out, hide (by rw [HR.out, HS.out, decide_eq_true ⟨by omega, by omega⟩, Bool.true_and]), below_drewN hb _⟩
                    case measure => simp [intOf]; omega
                  · obtain ⟨i, rfl⟩ : ∃ i, k = i + 1 := ⟨k - 1, by omega⟩
                    have hy := hhk i (by omega) rfl
                    obtain ⟨bb', off', hbb, hc2⟩ := rowI_cell hr (fin hB4 hb) (show i < zs.length by omega)
                    cases hbb
                    rw [hy] at hc2
                    clear hhk hh0 hy
                    have e4 : decide ((0 : Int) < (i : Int) + 1) = true := decide_eq_true (by omega)
                    by_cases h3 : h < x
                    · have e3 : decide (x ≤ h) = false := decide_eq_false (by omega)
                      go_wp2
                      go_quiet (fail)
                      go_wp2
                      go_roundw
                      case rel => exact ⟨i + 2, x, by omega, by go_num, by omega, fun h => absurd h (by omega), fun j hj he => by obtain rfl : j = i + 1 := (by omega); exact HX.out, hide (by rw [HR.out, HS.out, decide_eq_true ⟨by omega, by omega⟩, Bool.true_and]), below_drewN hb _⟩
                      case measure => simp [intOf]; omega
                    · have e3 : decide (x ≤ h) = true := decide_eq_true (by omega)
                      go_wp2
                      go_quiet (fail)
                      go_wp2
                      go_ret
                      exact ⟨ret_bool (by rw [HG.out, HR.out, HS.out, decide_eq_false (by omega)]; simp), fin hB4 (below_drewN hb _)⟩
                · have e2 : decide (c.n ≤ x) = true := decide_eq_true (by omega)
                  clear hhk hh0
                  go_wp2
                  go_quiet (fail)
                  go_wp2
                  go_ret
                  exact ⟨ret_bool (by rw [HG.out, HR.out, HS.out, decide_eq_false (by omega)]; simp), fin hB4 (below_drewN hb _)⟩
            · obtain rfl : k = zs.length := by omega
              obtain ⟨S, hS⟩ := Int.eq_ofNat_of_zero_le (show 0 ≤ c.sl by omega)
              have hmul : (zs.length : Int) * c.sl = ((zs.length * S : Nat) : Int) := by rw [show c.sl = (S : Int) from hS]; exact mul_cast _ _
              have hM2 : zs.length * S ≤ 400000 := by
                have : S ≤ 4 := by omega
                exact Nat.le_trans (Nat.mul_le_mul hl this) (by decide)
              obtain ⟨M, hM⟩ : ∃ M, zs.length * S = M := ⟨_, rfl⟩
              rw [hM] at hmul hM2
              rw [hmul, HR.out, risingF_end] at HG
              clear hM hS hhk hh0 HR p0
              by_cases hs : 1 ≤ s
              · have d5 : decide (1 ≤ s) = true := decide_eq_true hs
                by_cases hs2 : s ≤ 1099511627776 - (M : Int)
                · have d6 : decide (s ≤ 1099511627776 - (M : Int)) = true := decide_eq_true hs2
                  go_wp2
                  go_ret
                  exact ⟨ret_bool (by rw [HG.out]; simp [hs, hs2]), fin hB4 hb⟩
                · have d6 : decide (s ≤ 1099511627776 - (M : Int)) = false := decide_eq_false hs2
                  go_wp2
                  go_ret
                  exact ⟨ret_bool (by rw [HG.out]; simp [hs2]), fin hB4 hb⟩
              · have d5 : decide (1 ≤ s) = false := decide_eq_false hs
                go_wp2
                go_ret
                exact ⟨ret_bool (by rw [HG.out]; simp; intros; omega), fin hB4 hb⟩
        · have hz0 : zs.length = 0 := by omega
          have d3 : ((zs.length : Int) == 0) = true := by simp [hz0]
          clear hz0
          go_wp2_with fail
          go_ret
          exact ⟨ret_bool (by rw [HG.out]; simp [hz]), hB4⟩
      · have d2 : decide (c.la < n) = true := decide_eq_true (by omega)
        go_wp2_with fail
        go_ret
        exact ⟨ret_bool (by rw [HG.out]; simp; intros; omega), hB4⟩
    · have d1 : decide (n < 1) = true := decide_eq_true (by omega)
      go_wp2_with fail
      go_ret
      exact ⟨ret_bool (by rw [HG.out]; simp; intros; omega), hB4⟩
end Go.Proofs.Ytnndlgdlligjbaa
