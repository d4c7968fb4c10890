/- the document's List, Penalize: contracts. -/
import Derived.Test.YtnndlgdlligjbaaLPen
namespace Go.Proofs.Ytnndlgdlligjbaa
open Go.RowKit Go.Shelf
theorem freeU_yes {zs : List Int} {E : Int} {k : Nat} (h : penI zs k ≤ E) : freeU zs E (k + 1) = freeU zs E k ++ [k] := filter_yes _ _ (decide_eq_true h)
theorem freeU_no {zs : List Int} {E : Int} {k : Nat} (h : ¬ penI zs k ≤ E) : freeU zs E (k + 1) = freeU zs E k := filter_no _ _ (decide_eq_false h)
set_option maxRecDepth 100000 in
set_option maxHeartbeats 4000000 in
theorem rlist_any (c : Cfg) (x : Int) (a : Option Addr) (cap : Nat) (zs : List Int) (w : World) (hr : RowI w a zs) :
    Calls Try.prog 14 #[(.agg #[.int .i64 c.n, .int .i64 c.cl, .int .i64 c.wi, .int .i64 c.bu, .int .i64 c.ca, .int .i64 c.sl, .int .i64 c.rq, .int .i64 c.ti, .int .i64 c.pe, .int .i64 c.la]), .int .i64 x, .slice a zs.length cap] w fun e w' => ∃ v, e = .returned v ∧ w'.ownsRow w.heap.size 3 1 v (listL c x zs).length (vals (listL c x zs)) ∧ Below w.heap.size w w' := by
  obtain ⟨i0, hi, hz0, hz1, hz2⟩ := info_parts info3
  have hB1 : Below w.heap.size w (w.alloc (.cells #[.int .i64 c.n, .int .i64 c.cl, .int .i64 c.wi, .int .i64 c.bu, .int .i64 c.ca, .int .i64 c.sl, .int .i64 c.rq, .int .i64 c.ti, .int .i64 c.pe, .int .i64 c.la] 23)) := (Below.refl _ w).alloc (Nat.le_refl _) _
  have k0 := CfgAt.new w c
  have hs1 : (w.alloc (.cells #[.int .i64 c.n, .int .i64 c.cl, .int .i64 c.wi, .int .i64 c.bu, .int .i64 c.ca, .int .i64 c.sl, .int .i64 c.rq, .int .i64 c.ti, .int .i64 c.pe, .int .i64 c.la] 23)).heap.size = w.heap.size + 1 := by simp only [World.size_alloc]
  have c1 := fun w => rmay_any c x w
  go_enter Try.func14, Try.ntmps14
  go_wp2_with fail
  obtain ⟨w1, hw1⟩ : ∃ w1, w.alloc (.cells #[.int .i64 c.n, .int .i64 c.cl, .int .i64 c.wi, .int .i64 c.bu, .int .i64 c.ca, .int .i64 c.sl, .int .i64 c.rq, .int .i64 c.ti, .int .i64 c.pe, .int .i64 c.la] 23) = w1 := ⟨_, rfl⟩
  rw [hw1] at hB1 k0 hs1 ⊢
  clear hw1
  cases hm : mayC c x
  · have HL := hide (listL_no (zs := zs) hm)
    simp only [hm] at c1
    clear hm
    refine (c1 w1).mono ?_
    rintro e w4 ⟨rfl, hb4⟩
    go_wp2_with fail
    go_ret
    exact ⟨_, rfl, by rw [HL.out]; exact World.ownsRow_nil _ _ _ _, hB1.trans (hb4.mono (by omega))⟩
  · simp only [hm] at c1
    obtain ⟨hg, N, B, E, ok, rfl, hE1, hE2⟩ := mayC_ok hm
    have hN1 : 1 ≤ N := by have := ok.n4; omega
    have hN64 := ok.n64
    have hBN : B ≤ N := ok.bn
    have hpe := ok.pe
    refine (c1 w1).mono ?_
    rintro e w4 ⟨rfl, hb4⟩
    have k4 := k0.below hb4
    have hB4 : Below w.heap.size w w4 := hB1.trans (hb4.mono (by omega))
    have HM := hide hm
    have HOK := hide ok
    have hs4 : w.heap.size < w4.heap.size := k4.lt
    clear hm ok hg c1 hb4 k0 hs1 hB1
    have HL := hide (listL_yes (zs := zs) HM.out HOK.out.n)
    have cS := fun w => refSome_any (N : Int) w
    simp only [someI_nat HOK.out.n4 HOK.out.n64 HOK.out.n3] at cS
    go_wp2_with fail
    go_loopw [7, 8, 9] (fun v1 v2 iv wr => ∃ k : Nat, k ≤ N ∧ iv = .int .i64 (k : Int) ∧ Rows2 w4.heap.size v1 (freeU zs (E : Int) k) v2 (List.range k) wr ∧ Below w4.heap.size w4 wr) (fun _ _ iv _ => N - (intOf iv).toNat)
    case atStart => exact ⟨0, by omega, rfl, Rows2.nil _ _, Below.refl _ _⟩
    case round =>
      obtain ⟨k, hk, rfl, R, hb⟩ := hrel
      have hl1 : (freeU zs (E : Int) k).length ≤ 64 := Nat.le_trans (filter_le _ _) (by omega)
      have hl2 : (List.range k).length ≤ 64 := by rw [List.length_range]; omega
      obtain ⟨q0, -, -, -, -, -, -, -, -, -⟩ := (k4.below hb).cells
      rw [HOK.out.n] at q0
      by_cases hlt : k < N
      · have hrr := hr.below (hB4.trans (hb.mono (by omega)))
        have HR := hide (range_snoc k)
        obtain ⟨r, hrk⟩ : ∃ r, Hid (List.range k = r) := ⟨_, hide rfl⟩
        rw [hrk.out] at R hl2 HR
        have cP := fun W h => rpenalty_any a cap zs k W h
        have H1 := fun h => freeU_yes (zs := zs) (E := (E : Int)) (k := k) h
        have H2 := fun h => freeU_no (zs := zs) (E := (E : Int)) (k := k) h
        generalize penI zs k = y at *
        generalize freeU zs (E : Int) k = L1 at *
        obtain ⟨va, vcap, rfl⟩ := ownsRow_slice R.own1
        obtain ⟨vb, vcap2, rfl⟩ := ownsRow_slice R.own2
        by_cases hy : y ≤ (E : Int)
        · have H3 := hide (H1 hy)
          clear H1 H2
          go_wp2_with (at_builtin; refine wpList_append_own_src2 _ rfl _ _ 24 24 rfl w4.heap.size 3 i0 (.int .i64 0) 1 8 Try.underlying24 hi hz0 hz1 hz2 rfl _ r.length (vals r) rfl (R.swap.own1.alloc _) (.slice (some ⟨wr.heap.size, 0, none⟩) 1 1) 1 [.int .i64 (k : Int)] rfl (src_one _ _) ?c1 ?c2 ?c3 ?_)
          case c1 => unfold maxLen; omega
          case c2 => omega
          case c3 => have := hb.size; simp; omega
          intro v' w7 hown hgr hnew
          have R7 := (R.swap.first hown hgr hnew).swap
          have hb7 := first_below R.own2 hb hb.size hgr
          obtain ⟨va7, vcap7, rfl⟩ := ownsRow_slice R7.own2
          have cP7 := cP w7 (hr.below (hB4.trans (hb7.mono (by omega))))
          clear cP q0 R hown hgr hnew
          go_wp2_with (first | (go_at_call 40; refine cP7.mono ?_; rintro e w8 ⟨rfl, hx⟩; obtain rfl := hx.symm; clear hx) | (at_builtin; refine wpList_append_own_src2 _ rfl _ _ 24 24 rfl w4.heap.size 3 i0 (.int .i64 0) 1 8 Try.underlying24 hi hz0 hz1 hz2 rfl _ L1.length (vals L1) rfl (R7.own1.alloc _) (.slice (some ⟨w7.heap.size, 0, none⟩) 1 1) 1 [.int .i64 (k : Int)] rfl (src_one _ _) ?c4 ?c5 ?c6 ?_))
          case c4 => unfold maxLen; omega
          case c5 => omega
          case c6 => have := hb7.size; simp; omega
          intro v' w8 hown hgr hnew
          have R8 := R7.first hown hgr hnew
          have hb8 := first_below R7.own1 hb7 hb7.size hgr
          obtain ⟨va8, vcap8, rfl⟩ := ownsRow_slice R8.own1
          go_wp2_with fail
          go_roundw
          case rel => exact ⟨k + 1, by omega, by go_num, by rw [H3.out, HR.out]; simpa using R8, hb8⟩
          case measure => simp [intOf]; omega
        · have H3 := hide (H2 hy)
          clear H1 H2
          go_wp2_with (at_builtin; refine wpList_append_own_src2 _ rfl _ _ 24 24 rfl w4.heap.size 3 i0 (.int .i64 0) 1 8 Try.underlying24 hi hz0 hz1 hz2 rfl _ r.length (vals r) rfl (R.swap.own1.alloc _) (.slice (some ⟨wr.heap.size, 0, none⟩) 1 1) 1 [.int .i64 (k : Int)] rfl (src_one _ _) ?c1 ?c2 ?c3 ?_)
          case c1 => unfold maxLen; omega
          case c2 => omega
          case c3 => have := hb.size; simp; omega
          intro v' w7 hown hgr hnew
          have R7 := (R.swap.first hown hgr hnew).swap
          have hb7 := first_below R.own2 hb hb.size hgr
          obtain ⟨va7, vcap7, rfl⟩ := ownsRow_slice R7.own2
          have cP7 := cP w7 (hr.below (hB4.trans (hb7.mono (by omega))))
          clear cP q0 R hown hgr hnew
          go_wp2_with (go_at_call 40; refine cP7.mono ?_; rintro e w8 ⟨rfl, hx⟩; obtain rfl := hx.symm; clear hx)
          go_roundw
          case rel => exact ⟨k + 1, by omega, by go_num, by rw [H3.out, HR.out]; simpa using R7, hb7⟩
          case measure => simp [intOf]; omega
      · obtain rfl : k = N := by omega
        have hF : Hid (∀ h : (freeU zs (E : Int) k).length < k / 3 + 1, listN k (E : Int) zs = List.range k) := hide (fun h => listN_few h)
        have hM : Hid (∀ h : ¬ (freeU zs (E : Int) k).length < k / 3 + 1, listN k (E : Int) zs = freeU zs (E : Int) k) := hide (fun h => listN_many h)
        obtain ⟨r, hrk⟩ : ∃ r, Hid (List.range k = r) := ⟨_, hide rfl⟩
        rw [hrk.out] at R hl2 hF
        obtain ⟨so, hso⟩ : ∃ so, Hid (k / 3 + 1 = so) := ⟨_, hide rfl⟩
        rw [hso.out] at hF hM
        simp only [hso.out] at cS
        generalize freeU zs (E : Int) k = L1 at *
        obtain ⟨va, vcap, rfl⟩ := ownsRow_slice R.own1
        obtain ⟨vb, vcap2, rfl⟩ := ownsRow_slice R.own2
        by_cases hy : L1.length < so
        · have hy' : (L1.length : Int) < (so : Int) := by omega
          go_wp2_with (go_at_call 41; refine (cS _).mono ?_; rintro e w8 ⟨rfl, hx⟩; obtain rfl := hx.symm; clear hx)
          go_ret
          exact ⟨_, rfl, by rw [HL.out, hF.out hy]; exact ownsRow_low (by omega) R.own2, hB4.trans (hb.mono (by omega))⟩
        · have hy' : ¬ (L1.length : Int) < (so : Int) := by omega
          go_wp2_with (go_at_call 41; refine (cS _).mono ?_; rintro e w8 ⟨rfl, hx⟩; obtain rfl := hx.symm; clear hx)
          go_ret
          exact ⟨_, rfl, by rw [HL.out, hM.out hy]; exact ownsRow_low (by omega) R.own1, hB4.trans (hb.mono (by omega))⟩
set_option maxRecDepth 100000 in
set_option maxHeartbeats 4000000 in
theorem rpenalize_any (c : Cfg) (x : Int) (a : Option Addr) (cap : Nat) (zs : List Int) (a2 : Option Addr) (cap2 : Nat) (bad : List Int) (w : World) (hr : RowI w a zs) (hr2 : RowI w a2 bad) (hl2 : bad.length ≤ 100000) :
    Calls Try.prog 20 #[(.agg #[.int .i64 c.n, .int .i64 c.cl, .int .i64 c.wi, .int .i64 c.bu, .int .i64 c.ca, .int .i64 c.sl, .int .i64 c.rq, .int .i64 c.ti, .int .i64 c.pe, .int .i64 c.la]), .int .i64 x, .slice a zs.length cap, .slice a2 bad.length cap2] w fun e w' => ∃ v, e = .returned v ∧ w'.ownsRow w.heap.size 3 1 v (penalL c x zs bad).length (ivals (penalL c x zs bad)) ∧ Below w.heap.size w w' := by
  obtain ⟨i0, hi, hz0, hz1, hz2⟩ := info_parts info3
  have hB1 : Below w.heap.size w (w.alloc (.cells #[.int .i64 c.n, .int .i64 c.cl, .int .i64 c.wi, .int .i64 c.bu, .int .i64 c.ca, .int .i64 c.sl, .int .i64 c.rq, .int .i64 c.ti, .int .i64 c.pe, .int .i64 c.la] 23)) := (Below.refl _ w).alloc (Nat.le_refl _) _
  have k0 := CfgAt.new w c
  have hs1 : (w.alloc (.cells #[.int .i64 c.n, .int .i64 c.cl, .int .i64 c.wi, .int .i64 c.bu, .int .i64 c.ca, .int .i64 c.sl, .int .i64 c.rq, .int .i64 c.ti, .int .i64 c.pe, .int .i64 c.la] 23)).heap.size = w.heap.size + 1 := by simp only [World.size_alloc]
  have c1 := fun w => rmay_any c x w
  go_enter Try.func20, Try.ntmps20
  go_wp2_with fail
  obtain ⟨w1, hw1⟩ : ∃ w1, w.alloc (.cells #[.int .i64 c.n, .int .i64 c.cl, .int .i64 c.wi, .int .i64 c.bu, .int .i64 c.ca, .int .i64 c.sl, .int .i64 c.rq, .int .i64 c.ti, .int .i64 c.pe, .int .i64 c.la] 23) = w1 := ⟨_, rfl⟩
  rw [hw1] at hB1 k0 hs1 ⊢
  clear hw1
  cases hm : mayC c x
  · have HL := hide (penalL_no (zs := zs) (bad := bad) hm)
    simp only [hm] at c1
    clear hm
    refine (c1 w1).mono ?_
    rintro e w4 ⟨rfl, hb4⟩
    go_wp2_with fail
    go_ret
    exact ⟨_, rfl, by rw [HL.out]; exact World.ownsRow_nil _ _ _ _, hB1.trans (hb4.mono (by omega))⟩
  · simp only [hm] at c1
    obtain ⟨hg, N, B, E, ok, rfl, hE1, hE2⟩ := mayC_ok hm
    have hN1 : 1 ≤ N := by have := ok.n4; omega
    have hN64 := ok.n64
    have hBN : B ≤ N := ok.bn
    have hpe := ok.pe
    refine (c1 w1).mono ?_
    rintro e w4 ⟨rfl, hb4⟩
    have k4 := k0.below hb4
    have hB4 : Below w.heap.size w w4 := hB1.trans (hb4.mono (by omega))
    have HM := hide hm
    have HOK := hide ok
    have hs4 : w.heap.size < w4.heap.size := k4.lt
    clear hm ok hg c1 hb4 k0 hs1 hB1
    have HL := hide (penalL_yes (zs := zs) (bad := bad) HM.out HOK.out.n)
    go_wp2_with fail
    go_loopw [9, 10] (fun v1 iv wr => ∃ k : Nat, k ≤ N ∧ iv = .int .i64 (k : Int) ∧ wr.ownsRow w4.heap.size 3 1 v1 (penalN ((E : Int) + 1 + c.pe) zs bad k).length (ivals (penalN ((E : Int) + 1 + c.pe) zs bad k)) ∧ Below w4.heap.size w4 wr) (fun _ iv _ => N - (intOf iv).toNat)
    case atStart => exact ⟨0, by omega, rfl, World.ownsRow_nil _ _ _ _, Below.refl _ _⟩
    case round =>
      obtain ⟨k, hk, rfl, R, hb⟩ := hrel
      have hl1 : (penalN ((E : Int) + 1 + c.pe) zs bad k).length ≤ 64 := by rw [penalN_len]; omega
      obtain ⟨q0, -, -, -, -, -, -, -, q8, -⟩ := (k4.below hb).cells
      rw [HOK.out.n] at q0
      by_cases hlt : k < N
      · have hrr := hr.below (hB4.trans (hb.mono (by omega)))
        have hrr2 := hr2.below (hB4.trans (hb.mono (by omega)))
        have cP := rpenalty_any a cap zs k wr hrr
        have cI := rIn_any a2 cap2 bad (k : Int) wr hrr2 hl2
        have HS := hide (penalN_snoc ((E : Int) + 1 + c.pe) zs bad k)
        generalize penI zs k = y at *
        generalize penalN ((E : Int) + 1 + c.pe) zs bad k = L1 at *
        obtain ⟨va, vcap, rfl⟩ := ownsRow_slice R
        by_cases hin : (k : Int) ∈ bad
        · have HS2 : Hid (penalN ((E : Int) + 1 + c.pe) zs bad (k + 1) = L1 ++ [(E : Int) + 1 + c.pe]) := hide (by rw [HS.out, if_pos hin])
          rw [decide_eq_true hin] at cI
          clear HS hin hrr hrr2 hr hr2
          go_wp2_with (first | (go_at_call 22; refine cI.mono ?_; rintro e w8 ⟨rfl, hx⟩; obtain rfl := hx.symm; clear hx) | (at_builtin; refine wpList_append_own_src2 _ rfl _ _ 24 24 rfl w4.heap.size 3 i0 (.int .i64 0) 1 8 Try.underlying24 hi hz0 hz1 hz2 rfl _ L1.length (ivals L1) rfl (R.alloc _) (.slice (some ⟨wr.heap.size, 0, none⟩) 1 1) 1 [.int .i64 ((E : Int) + 1 + c.pe)] rfl (src_one _ _) ?c1 ?c2 ?c3 ?_))
          case c1 => unfold maxLen; omega
          case c2 => omega
          case c3 => have := hb.size; simp; omega
          intro v' w7 hown hgr hnew
          have hb7 := first_below R hb hb.size hgr
          obtain ⟨va7, vcap7, rfl⟩ := ownsRow_slice hown
          go_wp2_with fail
          go_roundw
          case rel => exact ⟨k + 1, by omega, by go_num, by rw [HS2.out, ivals_snoc]; simpa using hown, hb7⟩
          case measure => simp [intOf]; omega
        · have HS2 : Hid (penalN ((E : Int) + 1 + c.pe) zs bad (k + 1) = L1 ++ [y]) := hide (by rw [HS.out, if_neg hin])
          rw [decide_eq_false hin] at cI
          clear HS hin hrr hrr2 hr hr2
          go_wp2_with (first | (go_at_call 22; refine cI.mono ?_; rintro e w8 ⟨rfl, hx⟩; obtain rfl := hx.symm; clear hx) | (go_at_call 40; refine cP.mono ?_; rintro e w8 ⟨rfl, hx⟩; obtain rfl := hx.symm; clear hx) | (at_builtin; refine wpList_append_own_src2 _ rfl _ _ 24 24 rfl w4.heap.size 3 i0 (.int .i64 0) 1 8 Try.underlying24 hi hz0 hz1 hz2 rfl _ L1.length (ivals L1) rfl (R.alloc _) (.slice (some ⟨wr.heap.size, 0, none⟩) 1 1) 1 [.int .i64 y] rfl (src_one _ _) ?c1 ?c2 ?c3 ?_))
          case c1 => unfold maxLen; omega
          case c2 => omega
          case c3 => have := hb.size; simp; omega
          intro v' w7 hown hgr hnew
          have hb7 := first_below R hb hb.size hgr
          obtain ⟨va7, vcap7, rfl⟩ := ownsRow_slice hown
          go_wp2_with fail
          go_roundw
          case rel => exact ⟨k + 1, by omega, by go_num, by rw [HS2.out, ivals_snoc]; simpa using hown, hb7⟩
          case measure => simp [intOf]; omega
      · obtain rfl : k = N := by omega
        generalize penalN ((E : Int) + 1 + c.pe) zs bad k = L1 at *
        obtain ⟨va, vcap, rfl⟩ := ownsRow_slice R
        go_wp2_with fail
        go_ret
        exact ⟨_, rfl, by rw [HL.out]; exact ownsRow_low (by omega) R, hB4.trans (hb.mono (by omega))⟩
end Go.Proofs.Ytnndlgdlligjbaa
