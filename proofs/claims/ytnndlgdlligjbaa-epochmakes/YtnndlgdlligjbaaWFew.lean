/- the walk of LeadersFew -/
import Derived.Test.YtnndlgdlligjbaaLLives
namespace Go.Proofs.Ytnndlgdlligjbaa
open Go.RowKit Go.Shelf
theorem mayC_mk {c : Cfg} {E : Nat} (h : goodC c = true) (h1 : 1 ≤ E) (h2 : E ≤ 1048576) : mayC c (E : Int) = true := by
  simp only [mayC, h, Bool.true_and]; exact inB_mk (by omega)
theorem freeU_mem {zs : List Int} {E : Int} {N k : Nat} (h : k ∈ freeU zs E N) : penI zs k ≤ E := by
  simp only [freeU, List.mem_filter, decide_eq_true_eq] at h
  exact h.2
set_option maxRecDepth 100000 in
set_option maxHeartbeats 4000000 in
theorem few_walk (c : Cfg) (x : Int) (a : Option Addr) (cap : Nat) (zs : List Int) (w : World) (hr : RowI w a zs) :
    Calls Try.prog 7 #[(.agg #[.int .i64 c.n, .int .i64 c.cl, .int .i64 c.wi, .int .i64 c.bu, .int .i64 c.ca, .int .i64 c.sl, .int .i64 c.rq, .int .i64 c.ti, .int .i64 c.pe, .int .i64 c.la]), .int .i64 x, .slice a zs.length cap] w fun e w' => e = .returned (.bool true) ∧ Below w.heap.size w w' := by
  have hB1 : Below w.heap.size w (w.alloc (.cells #[.int .i64 c.n, .int .i64 c.cl, .int .i64 c.wi, .int .i64 c.bu, .int .i64 c.ca, .int .i64 c.sl, .int .i64 c.rq, .int .i64 c.ti, .int .i64 c.pe, .int .i64 c.la] 23)) := (Below.refl _ w).alloc (Nat.le_refl _) _
  have k0 := CfgAt.new w c
  have hs1 : (w.alloc (.cells #[.int .i64 c.n, .int .i64 c.cl, .int .i64 c.wi, .int .i64 c.bu, .int .i64 c.ca, .int .i64 c.sl, .int .i64 c.rq, .int .i64 c.ti, .int .i64 c.pe, .int .i64 c.la] 23)).heap.size = w.heap.size + 1 := by simp only [World.size_alloc]
  have c1 := fun w => lgood_any c w
  go_enter Try.func7, Try.ntmps7
  go_wp2_with fail
  obtain ⟨w1, hw1⟩ : ∃ w1, w.alloc (.cells #[.int .i64 c.n, .int .i64 c.cl, .int .i64 c.wi, .int .i64 c.bu, .int .i64 c.ca, .int .i64 c.sl, .int .i64 c.rq, .int .i64 c.ti, .int .i64 c.pe, .int .i64 c.la] 23) = w1 := ⟨_, rfl⟩
  rw [hw1] at hB1 k0 hs1 ⊢
  clear hw1
  have fin : ∀ {W W' : World}, Below w.heap.size w W → Below W.heap.size W W' → Below w.heap.size w W' := fun h k => h.trans (k.mono h.size)
  cases hm : goodC c
  · simp only [errC_no hm] at c1
    clear hm
    refine (c1 w1).mono ?_
    rintro e w4 ⟨rfl, hb4⟩
    have hB4 := fin hB1 hb4
    clear hB1 hb4 k0 hs1 c1 hr
    go_wp2_with fail
    refine (lives11_any _).mono ?_
    rintro e w9 ⟨rfl, hb9⟩
    go_wp2_with fail
    go_ret
    exact ⟨rfl, fin hB4 hb9⟩
  · simp only [errC_yes hm] at c1
    refine (c1 w1).mono ?_
    rintro e w4 ⟨rfl, hb4⟩
    have hB4 := fin hB1 hb4
    have k4 := k0.below hb4
    have HM := hide hm
    clear hB1 hb4 k0 hs1 c1 hm
    by_cases hx1 : x < 1
    · clear k4
      go_wp2_with fail
      refine (lives11_any _).mono ?_
      rintro e w9 ⟨rfl, hb9⟩
      go_wp2_with fail
      go_ret
      exact ⟨rfl, fin hB4 hb9⟩
    · by_cases hx2 : 1048576 < x
      · clear k4
        go_wp2_with fail
        refine (lives11_any _).mono ?_
        rintro e w9 ⟨rfl, hb9⟩
        go_wp2_with fail
        go_ret
        exact ⟨rfl, fin hB4 hb9⟩
      · by_cases hl : 200 < zs.length
        · have hl' : (200 : Int) < (zs.length : Int) := by omega
          clear k4
          go_wp2_with fail
          refine (lives11_any _).mono ?_
          rintro e w9 ⟨rfl, hb9⟩
          go_wp2_with fail
          go_ret
          exact ⟨rfl, fin hB4 hb9⟩
        · obtain ⟨E, rfl⟩ := Int.eq_ofNat_of_zero_le (show 0 ≤ x by omega)
          have hE1 : 1 ≤ E := by omega
          have hE2 : E ≤ 1048576 := by omega
          obtain ⟨N, B, ok⟩ := cfgOk HM.out
          have HOK := hide ok
          have hN1 : 1 ≤ N := by have := ok.n4; omega
          have hN64 := ok.n64
          have HMAY := hide (mayC_mk HM.out hE1 hE2)
          have d1 : decide ((E : Int) < 1) = false := decide_eq_false (by omega)
          have d2 : decide ((1048576 : Int) < (E : Int)) = false := decide_eq_false (by omega)
          have d3 : decide (200 < zs.length) = false := decide_eq_false (by omega)
          have d5 : decide (1048576 < E) = false := decide_eq_false (by omega)
          obtain ⟨q0, -, -, -, -, -, -, -, -, -⟩ := k4.cells
          rw [ok.n] at q0
          clear ok
          go_wp2_with fail
          clear d1 d2 d3 d5
          go_loopw [7, 31] (fun fv iv wr => ∃ k f : Nat, k ≤ N ∧ iv = .int .i64 (k : Int) ∧ fv = .int .i64 (f : Int) ∧ f ≤ 64 ∧ Hid (f = (freeU zs (E : Int) k).length) ∧ Below w4.heap.size w4 wr) (fun _ iv _ => N - (intOf iv).toNat)
          case atStart => exact ⟨0, 0, by omega, rfl, rfl, by omega, hide rfl, Below.refl _ _⟩
          case round =>
            obtain ⟨k, f, hk, rfl, rfl, hf, HF, hb⟩ := hrel
            have hBr := fin hB4 hb
            by_cases hlt : k < N
            · have hf2 : f ≤ k := by rw [HF.out]; exact filter_le _ _
              by_cases hkz : k < zs.length
              · obtain ⟨b, off, rfl, hcx⟩ := rowI_cell hr hBr hkz
                have k1 : (k : Int) < zs.length := by omega
                have HP := hide (penI_in hkz)
                have d4 : decide (zs.length ≤ k) = false := decide_eq_false (by omega)
                generalize zs[k] = y at *
                by_cases hy : y ≤ (E : Int)
                · have H3 : Hid (f + 1 = (freeU zs (E : Int) (k + 1)).length) := hide (by rw [freeU_yes (by rw [HP.out]; exact hy), List.length_append, ← HF.out]; rfl)
                  go_wp2_with fail
                  go_roundw
                  case rel => exact ⟨k + 1, f + 1, by omega, by go_num, by go_num, by omega, H3, hb⟩
                  case measure => simp [intOf]; omega
                · have H3 : Hid (f = (freeU zs (E : Int) (k + 1)).length) := hide (by rw [freeU_no (by rw [HP.out]; exact hy), ← HF.out])
                  go_wp2_with fail
                  go_roundw
                  case rel => exact ⟨k + 1, f, by omega, by go_num, by go_num, by omega, H3, hb⟩
                  case measure => simp [intOf]; omega
              · have k1 : ¬ (k : Int) < zs.length := by omega
                have d4 : decide (zs.length ≤ k) = true := decide_eq_true (by omega)
                have H3 : Hid (f + 1 = (freeU zs (E : Int) (k + 1)).length) := hide (by rw [freeU_yes (by rw [penI_out hkz]; omega), List.length_append, ← HF.out]; rfl)
                go_wp2_with fail
                go_roundw
                case rel => exact ⟨k + 1, f + 1, by omega, by go_num, by go_num, by omega, H3, hb⟩
                case measure => simp [intOf]; omega
            · obtain rfl : k = N := by omega
              have cL := list_any c (E : Int) a cap zs wr (hr.below hBr)
              rw [listL_yes HMAY.out HOK.out.n] at cL
              have cS := fun w => some_any (k : Int) w
              simp only [someI_nat HOK.out.n4 HOK.out.n64 HOK.out.n3] at cS
              have HF2 := fun h => listN_few (N := k) (x := (E : Int)) (zs := zs) h
              have HM2 := fun h => listN_many (N := k) (x := (E : Int)) (zs := zs) h
              rw [← HF.out] at HF2 HM2
              obtain ⟨so, hso⟩ : ∃ so, Hid (k / 3 + 1 = so) := ⟨_, hide rfl⟩
              rw [hso.out] at HF2 HM2
              simp only [hso.out] at cS
              obtain ⟨p0, p1, p2, p3, p4, p5, p6, p7, p8, p9⟩ := (k4.below hb).cells
              have kr := k4.below hb
              by_cases hfew : f < so
              · rw [HF2 hfew] at cL
                have hfew' : (f : Int) < (so : Int) := by omega
                obtain ⟨rn, hrn⟩ : ∃ rn, Hid (List.range k = rn) := ⟨_, hide rfl⟩
                rw [hrn.out] at cL
                have hrl : rn.length = k := by rw [← hrn.out, List.length_range]
                have hrl' : ((rn.length : Int) == (k : Int)) = true := by rw [hrl]; simp
                have HRL := hide hrl
                clear HF2 HM2 hrl
                go_wp2_with fail
                refine cL.mono ?_
                rintro e w6 ⟨v, rfl, hrow, hb6⟩
                obtain ⟨va, vcap, rfl⟩ := ownsRow_slice hrow
                have hB6 := fin hBr hb6
                clear p0 p1 p2 p3 p4 p5 p6 p7 p8 p9
                obtain ⟨p0, -, -, -, -, -, -, -, -, -⟩ := (kr.below hb6).cells
                rw [HOK.out.n] at p0
                go_wp2_with (go_at_call 21; refine (cS _).mono ?_; rintro e w8 ⟨rfl, hx⟩; obtain rfl := hx.symm; clear hx)
                refine (lives11_any _).mono ?_
                rintro e w9 ⟨rfl, hb9⟩
                go_wp2_with fail
                go_ret
                exact ⟨rfl, fin hB6 hb9⟩
              · rw [HM2 hfew] at cL
                have hfew' : ¬ (f : Int) < (so : Int) := by omega
                have hmem : Hid (∀ y ∈ freeU zs (E : Int) k, penI zs y ≤ (E : Int)) := hide (fun y hy => freeU_mem hy)
                obtain ⟨fl, hfl⟩ : ∃ fl, Hid (freeU zs (E : Int) k = fl) := ⟨_, hide rfl⟩
                rw [hfl.out] at cL hmem HF
                have hle : fl.length = f := HF.out.symm
                have hne : ((fl.length : Int) != (f : Int)) = false := by rw [hle]; simp
                have hfl64 : fl.length ≤ 64 := by omega
                clear HF2 HM2 hle
                go_wp2_with fail
                refine cL.mono ?_
                rintro e w6 ⟨v, rfl, hrow, hb6⟩
                obtain ⟨va, vcap, rfl, hri⟩ := own_set hrow (by omega)
                have hB6 := fin hBr hb6
                clear p0 p1 p2 p3 p4 p5 p6 p7 p8 p9
                obtain ⟨p0, -, -, -, -, -, -, -, -, -⟩ := (kr.below hb6).cells
                rw [HOK.out.n] at p0
                go_wp2_with (go_at_call 21; refine (cS _).mono ?_; rintro e w8 ⟨rfl, hx⟩; obtain rfl := hx.symm; clear hx)
                go_loopw [72] (fun iv wr => ∃ k : Nat, k ≤ fl.length ∧ iv = .int .i64 (k : Int) ∧ Below w6.heap.size w6 wr) (fun iv _ => fl.length - (intOf iv).toNat)
                case atStart => exact ⟨0, by omega, rfl, Below.refl _ _⟩
                case round =>
                  obtain ⟨j, hj, rfl, hb7⟩ := hrel
                  have hB7 := fin hB6 hb7
                  by_cases hjl : j < fl.length
                  · have hjl' : j < (ints fl).length := by rw [ints_length]; exact hjl
                    have hjI : (j : Int) < (fl.length : Int) := by omega
                    obtain ⟨b, off, rfl, hcx⟩ := rowI_cell hri hb7 hjl'
                    have hge : (ints fl)[j] = ((fl[j] : Nat) : Int) := by simp [ints]
                    rw [hge] at hcx
                    have hpl := hmem.out fl[j] (List.getElem_mem hjl)
                    generalize fl[j] = y at *
                    clear hge hjl'
                    by_cases hyz : y < zs.length
                    · obtain ⟨b2, off2, rfl, hcz⟩ := rowI_cell hr hB7 hyz
                      have y1 : (y : Int) < zs.length := by omega
                      rw [penI_in hyz] at hpl
                      generalize zs[y] = z at *
                      have dz : decide ((E : Int) < z) = false := decide_eq_false (by omega)
                      go_wp2_with fail
                      go_roundw
                      case rel => exact ⟨j + 1, by omega, by go_num, hb7⟩
                      case measure => simp [intOf]; omega
                    · have y1 : ¬ (y : Int) < zs.length := by omega
                      have dy : decide (y < zs.length) = false := decide_eq_false hyz
                      clear hpl
                      go_wp2_with fail
                      go_roundw
                      case rel => exact ⟨j + 1, by omega, by go_num, hb7⟩
                      case measure => simp [intOf]; omega
                  · obtain rfl : j = fl.length := by omega
                    go_wp2_with fail
                    refine (lives11_any _).mono ?_
                    rintro e w9 ⟨rfl, hb9⟩
                    go_wp2_with fail
                    go_ret
                    exact ⟨rfl, fin hB7 hb9⟩
end Go.Proofs.Ytnndlgdlligjbaa
