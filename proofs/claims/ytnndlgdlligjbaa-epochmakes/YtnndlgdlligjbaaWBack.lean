/- the walk of LeadersBack -/
import Derived.Test.YtnndlgdlligjbaaWOne
namespace Go.Proofs.Ytnndlgdlligjbaa
open Go.RowKit Go.Shelf Go.Deep
theorem umodc (z : Int) (c : Int) (hc : 0 < c) (hm : c ≤ 65) : ∃ p : Nat, (p : Int) < c ∧ wrap64 ((IntKind.u64.wrap z).tmod c) = (p : Int) := by
  rw [IntKind.wrap_u64]
  have h0' : 0 ≤ z % 18446744073709551616 := Int.emod_nonneg _ (by decide)
  generalize z % 18446744073709551616 = q at h0'
  rw [Int.tmod_eq_emod_of_nonneg h0']
  have h1 := Int.emod_nonneg q (b := c) (by omega)
  have h2 := Int.emod_lt_of_pos q (b := c) (by omega)
  refine ⟨(q % c).toNat, by omega, ?_⟩
  generalize q % c = r at h1 h2
  simp only [wrap64]
  omega
theorem penalN_at {x : Int} {zs bad : List Int} {N k : Nat} (h : k < N) : (penalN x zs bad N)[k]'(by rw [penalN_len]; exact h) = if (k : Int) ∈ bad then x else penI zs k := by simp [penalN]
theorem back_in {N k : Nat} {x e : Int} {zs bad : List Int} (hk : k < N) (hb : (k : Int) ∈ bad) (he : x ≤ e) : k ∈ listN N e (penalN x zs bad N) := by
  have hp : penI (penalN x zs bad N) k ≤ e := by
    rw [penI_in (by rw [penalN_len]; exact hk), penalN_at hk, if_pos hb]; exact he
  unfold listN
  split
  · exact List.mem_range.2 hk
  · simp only [freeU, List.mem_filter, List.mem_range, decide_eq_true_eq]
    exact ⟨hk, hp⟩
theorem own_set3 {w : World} {base : Nat} {v : Value} {l : List Int} (h : w.ownsRow base 3 1 v l.length (ivals l)) (hl : l.length ≤ 100000) :
    ∃ a cap, v = .slice a l.length cap ∧ RowI w a l := own_rowI h (by unfold maxLen; omega)
set_option maxRecDepth 100000 in
set_option maxHeartbeats 4000000 in
theorem back_walk (c : Cfg) (x : Int) (a : Option Addr) (cap : Nat) (zs : List Int) (a2 : Option Addr) (cap2 : Nat) (bad : List Int) (z : Int) (w : World) (hr : RowI w a zs) (hr2 : RowI w a2 bad) :
    Calls Try.prog 6 #[(.agg #[.int .i64 c.n, .int .i64 c.cl, .int .i64 c.wi, .int .i64 c.bu, .int .i64 c.ca, .int .i64 c.sl, .int .i64 c.rq, .int .i64 c.ti, .int .i64 c.pe, .int .i64 c.la]), .int .i64 x, .slice a zs.length cap, .slice a2 bad.length cap2, .int .i64 z] w fun e w' => e = .returned (.bool true) ∧ Below w.heap.size w w' := by
  have hB1 : Below w.heap.size w (w.alloc (.cells #[.int .i64 c.n, .int .i64 c.cl, .int .i64 c.wi, .int .i64 c.bu, .int .i64 c.ca, .int .i64 c.sl, .int .i64 c.rq, .int .i64 c.ti, .int .i64 c.pe, .int .i64 c.la] 23)) := (Below.refl _ w).alloc (Nat.le_refl _) _
  have k0 := CfgAt.new w c
  have hs1 : (w.alloc (.cells #[.int .i64 c.n, .int .i64 c.cl, .int .i64 c.wi, .int .i64 c.bu, .int .i64 c.ca, .int .i64 c.sl, .int .i64 c.rq, .int .i64 c.ti, .int .i64 c.pe, .int .i64 c.la] 23)).heap.size = w.heap.size + 1 := by simp only [World.size_alloc]
  have c1 := fun w => lgood_any c w
  have fin : ∀ {W W' : World}, Below w.heap.size w W → Below W.heap.size W W' → Below w.heap.size w W' := fun h k => h.trans (k.mono h.size)
  go_enter Try.func6, Try.ntmps6
  go_wp2_with fail
  obtain ⟨w1, hw1⟩ : ∃ w1, w.alloc (.cells #[.int .i64 c.n, .int .i64 c.cl, .int .i64 c.wi, .int .i64 c.bu, .int .i64 c.ca, .int .i64 c.sl, .int .i64 c.rq, .int .i64 c.ti, .int .i64 c.pe, .int .i64 c.la] 23) = w1 := ⟨_, rfl⟩
  rw [hw1] at hB1 k0 hs1 ⊢
  clear hw1
  cases hm : goodC c
  · simp only [errC_no hm] at c1
    clear hm
    refine (c1 w1).mono ?_
    rintro e w4 ⟨rfl, hb4⟩
    have hB4 := fin hB1 hb4
    clear hB1 hb4 k0 hs1 c1 hr hr2
    go_wp2_with fail
    refine (lives11_any _).mono ?_
    rintro e w9 ⟨rfl, hb9⟩
    go_wp2_with fail
    go_ret
    exact ⟨rfl, fin hB4 hb9⟩
  · simp only [errC_yes hm] at c1
    refine (c1 w1).mono ?_
    rintro e w4 ⟨rfl, hb4⟩
    have hB4 := fin hB1 hb4
    have k4 := k0.below hb4
    have HM := hide hm
    clear hB1 hb4 k0 hs1 c1 hm
    by_cases hx1 : x < 1
    · clear k4
      go_wp2_with fail
      refine (lives11_any _).mono ?_
      rintro e w9 ⟨rfl, hb9⟩
      go_wp2_with fail
      go_ret
      exact ⟨rfl, fin hB4 hb9⟩
    · by_cases hx2 : 1048512 < x
      · clear k4
        go_wp2_with fail
        refine (lives11_any _).mono ?_
        rintro e w9 ⟨rfl, hb9⟩
        go_wp2_with fail
        go_ret
        exact ⟨rfl, fin hB4 hb9⟩
      · by_cases hl : 200 < zs.length
        · have hl' : (200 : Int) < (zs.length : Int) := by omega
          clear k4
          go_wp2_with fail
          refine (lives11_any _).mono ?_
          rintro e w9 ⟨rfl, hb9⟩
          go_wp2_with fail
          go_ret
          exact ⟨rfl, fin hB4 hb9⟩
        · by_cases hl2 : 200 < bad.length
          · have hl' : ¬ (200 : Int) < (zs.length : Int) := by omega
            have hl2' : (200 : Int) < (bad.length : Int) := by omega
            clear k4
            go_wp2_with fail
            refine (lives11_any _).mono ?_
            rintro e w9 ⟨rfl, hb9⟩
            go_wp2_with fail
            go_ret
            exact ⟨rfl, fin hB4 hb9⟩
          · obtain ⟨E, rfl⟩ := Int.eq_ofNat_of_zero_le (show 0 ≤ x by omega)
            have hE1 : 1 ≤ E := by omega
            have hE2 : E ≤ 1048512 := by omega
            obtain ⟨N, B, ok⟩ := cfgOk HM.out
            have HOK := hide ok
            have hN1 : 1 ≤ N := by have := ok.n4; omega
            have hN64 := ok.n64
            have hpe := ok.pe
            have HMAY := hide (mayC_mk HM.out hE1 (show E ≤ 1048576 by omega))
            obtain ⟨la, hla, ela⟩ := umodc z 20 (by decide) (by decide)
            have HMAY2 : Hid (mayC c ((E : Int) + 1 + c.pe + (la : Int)) = true) := hide (by
              simp only [mayC, HM.out, Bool.true_and]; exact inB_mk (by omega))
            have d1 : decide ((E : Int) < 1) = false := decide_eq_false (by omega)
            have d2 : decide ((1048512 : Int) < (E : Int)) = false := decide_eq_false (by omega)
            have d3 : decide ((200 : Int) < (zs.length : Int)) = false := decide_eq_false (by omega)
            have d4 : decide ((200 : Int) < (bad.length : Int)) = false := decide_eq_false (by omega)
            obtain ⟨p0, p1, p2, p3, p4, p5, p6, p7, p8, p9⟩ := k4.cells
            have cP := penalize_any c (E : Int) a cap zs a2 cap2 bad w4 (hr.below hB4) (hr2.below hB4) (by omega)
            rw [penalL_yes HMAY.out HOK.out.n] at cP
            have hxl : (penalN ((E : Int) + 1 + c.pe) zs bad N).length = N := penalN_len _ _ _ _
            have hxa : Hid (∀ k (h : k < (penalN ((E : Int) + 1 + c.pe) zs bad N).length), (penalN ((E : Int) + 1 + c.pe) zs bad N)[k] = if (k : Int) ∈ bad then (E : Int) + 1 + c.pe else penI zs k) := hide (fun k h => penalN_at (by rw [penalN_len] at h; exact h))
            have hin : Hid (∀ k : Nat, k < N → (k : Int) ∈ bad → k ∈ listN N ((E : Int) + 1 + c.pe + (la : Int)) (penalN ((E : Int) + 1 + c.pe) zs bad N)) := hide (fun k h1 h2 => back_in h1 h2 (by omega))
            obtain ⟨xs, hxs⟩ : ∃ xs, Hid (penalN ((E : Int) + 1 + c.pe) zs bad N = xs) := ⟨_, hide rfl⟩
            simp only [hxs.out] at cP hxl hxa hin
            have HXL := hide hxl
            have hbl : bad.length ≤ 200 := by omega
            clear ok hx1 hx2 hl hl2 hxl
            go_wp2_with fail
            refine cP.mono ?_
            rintro e w6 ⟨v, rfl, hrow, hb6⟩
            obtain ⟨va, vcap, rfl, hri⟩ := own_set3 hrow (by rw [HXL.out]; omega)
            have hB6 := fin hB4 hb6
            have k6 := k4.below hb6
            clear p0 p1 p2 p3 p4 p5 p6 p7 p8 p9 d1 d2 d3 d4 cP hrow
            obtain ⟨p0, p1, p2, p3, p4, p5, p6, p7, p8, p9⟩ := k6.cells
            have cL := list_any c ((E : Int) + 1 + c.pe + (la : Int)) va vcap xs w6 hri
            rw [listL_yes HMAY2.out HOK.out.n] at cL
            have hle : (listN N ((E : Int) + 1 + c.pe + (la : Int)) xs).length ≤ 64 := Nat.le_trans (listN_le _ _ _) hN64
            obtain ⟨L, hL⟩ : ∃ L, Hid (listN N ((E : Int) + 1 + c.pe + (la : Int)) xs = L) := ⟨_, hide rfl⟩
            rw [hL.out] at cL hin hle
            go_wp2_with fail
            refine cL.mono ?_
            rintro e w7 ⟨v, rfl, hrow, hb7⟩
            obtain ⟨vl, lcap, rfl, hrl⟩ := own_set hrow (by omega)
            have hB7 := fin hB6 hb7
            have k7 := k6.below hb7
            have hri7 := hri.below hb7
            clear p0 p1 p2 p3 p4 p5 p6 p7 p8 p9 cL hrow ela
            go_wp2_with fail
            go_loopw [60] (fun iv wr => ∃ k : Nat, k ≤ bad.length ∧ iv = .int .i64 (k : Int) ∧ Below w7.heap.size w7 wr) (fun iv _ => bad.length - (intOf iv).toNat)
            case atStart => exact ⟨0, by omega, rfl, Below.refl _ _⟩
            case round =>
              obtain ⟨k, hk, rfl, hb⟩ := hrel
              have hBr := fin hB7 hb
              by_cases hkl : k < bad.length
              · have hkI : (k : Int) < (bad.length : Int) := by omega
                obtain ⟨bb, off, rfl, hcx⟩ := rowI_cell hr2 hBr hkl
                have hmem : Hid (bad[k] ∈ bad) := hide (List.getElem_mem hkl)
                generalize bad[k] = n at *
                obtain ⟨p0, -, -, -, -, -, -, -, -, -⟩ := (k7.below hb).cells
                rw [HOK.out.n] at p0
                by_cases hn0 : n < 0
                · have d1 : decide (0 ≤ n) = false := decide_eq_false (by omega)
                  go_wp2_with fail
                  go_roundw
                  case rel => exact ⟨k + 1, by omega, by go_num, hb⟩
                  case measure => simp [intOf]; omega
                · have d1 : decide (0 ≤ n) = true := decide_eq_true (by omega)
                  by_cases hnN : n < (N : Int)
                  · have d2 : decide (n < (N : Int)) = true := decide_eq_true hnN
                    obtain ⟨m, rfl⟩ := Int.eq_ofNat_of_zero_le (show 0 ≤ n by omega)
                    have cI := rIn_any vl lcap (ints L) (m : Int) wr (hrl.below hb) (by rw [ints_length]; omega)
                    rw [decide_eq_true (mem_ints.2 (hin.out m (by omega) hmem.out)), ints_length] at cI
                    have d3 : decide (m < N) = true := decide_eq_true (by omega)
                    go_wp2_with (go_at_call 22; refine cI.mono ?_; rintro e w8 ⟨rfl, hx⟩; obtain rfl := hx.symm; clear hx)
                    go_roundw
                    case rel => exact ⟨k + 1, by omega, by go_num, hb⟩
                    case measure => simp [intOf]; omega
                  · have d2 : decide (n < (N : Int)) = false := decide_eq_false hnN
                    go_wp2_with fail
                    go_roundw
                    case rel => exact ⟨k + 1, by omega, by go_num, hb⟩
                    case measure => simp [intOf]; omega
              · obtain rfl : k = bad.length := by omega
                obtain ⟨p0, -, -, -, -, -, -, -, -, -⟩ := (k7.below hb).cells
                rw [HOK.out.n] at p0
                have hne : ((xs.length : Int) != (N : Int)) = false := by rw [HXL.out]; simp
                have hrx := hri7.below hb
                go_wp2_with fail
                go_loopw [86] (fun jv wr => ∃ j : Nat, j ≤ xs.length ∧ jv = .int .i64 (j : Int) ∧ Below w7.heap.size w7 wr) (fun jv _ => xs.length - (intOf jv).toNat)
                case atStart => exact ⟨0, by omega, rfl, hb⟩
                case round =>
                  obtain ⟨j, hj, rfl, hbq⟩ := hrel
                  have hBq := fin hB7 hbq
                  have hx64 : xs.length ≤ 64 := by have := HXL.out; omega
                  by_cases hjl : j < xs.length
                  · have hjI : (j : Int) < (xs.length : Int) := by omega
                    obtain ⟨b3, off3, rfl, hc3⟩ := rowI_cell hri7 hbq hjl
                    have hxj := hide (hxa.out j hjl)
                    have cI := fun n => rIn_any a2 cap2 bad (j : Int) (wr.drewN n) ((hr2.below hBq).below (below_drewN (Below.refl _ wr) n)) (by omega)
                    generalize xs[j] = y at *
                    by_cases hjb : (j : Int) ∈ bad
                    · simp only [decide_eq_true hjb] at cI
                      go_wp2_with fail
                      go_quiet (exact Calls.quiet_of_same (cI _))
                      go_wp2_with fail
                      go_roundw
                      case rel => exact ⟨j + 1, by omega, by go_num, below_drewN hbq _⟩
                      case measure => simp [intOf]; omega
                    · simp only [decide_eq_false hjb] at cI
                      have hxj2 : y = penI zs j := by rw [hxj.out, if_neg hjb]
                      by_cases hjz : j < zs.length
                      · have hjZ : (j : Int) < (zs.length : Int) := by omega
                        obtain ⟨b4, off4, rfl, hc4⟩ := rowI_cell hr hBq hjz
                        rw [penI_in hjz] at hxj2
                        generalize zs[j] = y2 at *
                        subst hxj2
                        have d1 : decide ((j : Int) < (zs.length : Int)) = true := decide_eq_true hjZ
                        have d2 : decide ((zs.length : Int) ≤ (j : Int)) = false := decide_eq_false (by omega)
                        have d3 : decide (j < zs.length) = true := decide_eq_true hjz
                        have d4 : decide (zs.length ≤ j) = false := decide_eq_false (by omega)
                        go_wp2_with fail
                        go_quiet (exact Calls.quiet_of_same (cI _))
                        go_wp2_with fail
                        go_roundw
                        case rel => exact ⟨j + 1, by omega, by go_num, below_drewN hbq _⟩
                        case measure => simp [intOf]; omega
                      · have hjZ : ¬ (j : Int) < (zs.length : Int) := by omega
                        rw [penI_out hjz] at hxj2
                        subst hxj2
                        have d1 : decide ((j : Int) < (zs.length : Int)) = false := decide_eq_false hjZ
                        have d2 : decide ((zs.length : Int) ≤ (j : Int)) = true := decide_eq_true (by omega)
                        have d3 : decide (j < zs.length) = false := decide_eq_false hjz
                        have d4 : decide (zs.length ≤ j) = true := decide_eq_true (by omega)
                        go_wp2_with fail
                        go_quiet (exact Calls.quiet_of_same (cI _))
                        go_wp2_with fail
                        go_roundw
                        case rel => exact ⟨j + 1, by omega, by go_num, below_drewN hbq _⟩
                        case measure => simp [intOf]; omega
                  · obtain rfl : j = xs.length := by omega
                    go_wp2_with fail
                    refine (lives11_any _).mono ?_
                    rintro e w9 ⟨rfl, hb9⟩
                    go_wp2_with fail
                    go_ret
                    exact ⟨rfl, fin hBq hb9⟩
end Go.Proofs.Ytnndlgdlligjbaa
