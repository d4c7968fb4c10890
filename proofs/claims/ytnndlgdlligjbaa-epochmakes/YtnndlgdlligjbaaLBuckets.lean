/- leaders.Buckets: a contract. -/
import Derived.Test.YtnndlgdlligjbaaLRows2
namespace Go.Proofs.Ytnndlgdlligjbaa
open Go.RowKit Go.Shelf
theorem bucketsL_no {c : Cfg} {x y : Int} {zs : List Int} (h : mayC c x = false) : bucketsL c x zs y = [] := by simp [bucketsL, h]
theorem bucketsL_out {c : Cfg} {x y : Int} {zs : List Int} (h : ¬ (0 ≤ y ∧ y < c.n ∧ y ∈ zs)) : bucketsL c x zs y = [] := by
  unfold bucketsL; rw [if_neg (fun hh => h hh.2)]
theorem bucketsL_yes {c : Cfg} {N B E y : Nat} {zs : List Int} (h : mayC c (E : Int) = true) (hn : c.n = (N : Int)) (hb : c.bu = (B : Int)) (hy : y < N) (hz : (y : Int) ∈ zs) : bucketsL c (E : Int) zs (y : Int) = bucketsN N B E zs y := by
  unfold bucketsL; rw [if_pos ⟨h, by omega, by omega, hz⟩, hn, hb]; simp
theorem firstU_yes {N E y k : Nat} (h : (k + E) % N = y) : firstU N E y (k + 1) = firstU N E y k ++ [k] := filter_yes _ _ (decide_eq_true h)
theorem firstU_no {N E y k : Nat} (h : ¬ (k + E) % N = y) : firstU N E y (k + 1) = firstU N E y k := filter_no _ _ (decide_eq_false h)
theorem otherU_yes {N E y k : Nat} {zs : List Int} (h : ¬ (k + E) % N = y) (h2 : ownI N E zs k = (y : Int)) : otherU N E zs y (k + 1) = otherU N E zs y k ++ [k] := filter_yes _ _ (decide_eq_true ⟨h, h2⟩)
theorem otherU_no1 {N E y k : Nat} {zs : List Int} (h : (k + E) % N = y) : otherU N E zs y (k + 1) = otherU N E zs y k := filter_no _ _ (decide_eq_false (fun hh => hh.1 h))
theorem otherU_no2 {N E y k : Nat} {zs : List Int} (h : ¬ ownI N E zs k = (y : Int)) : otherU N E zs y (k + 1) = otherU N E zs y k := filter_no _ _ (decide_eq_false (fun hh => h hh.2))
set_option maxRecDepth 100000 in
set_option maxHeartbeats 4000000 in
theorem buckets_any (c : Cfg) (x : Int) (a : Option Addr) (cap : Nat) (zs : List Int) (y : Int) (w : World) (hr : RowI w a zs) (hl : zs.length ≤ 100000) :
    Calls Try.prog 17 #[(.agg #[.int .i64 c.n, .int .i64 c.cl, .int .i64 c.wi, .int .i64 c.bu, .int .i64 c.ca, .int .i64 c.sl, .int .i64 c.rq, .int .i64 c.ti, .int .i64 c.pe, .int .i64 c.la]), .int .i64 x, .slice a zs.length cap, .int .i64 y] w fun e w' => ∃ v, e = .returned v ∧ w'.ownsRow w.heap.size 3 1 v (bucketsL c x zs y).length (vals (bucketsL c x zs y)) ∧ Below w.heap.size w w' := by
  obtain ⟨i0, hi, hz0, hz1, hz2⟩ := info_parts info3
  have hB1 : Below w.heap.size w (w.alloc (.cells #[.int .i64 c.n, .int .i64 c.cl, .int .i64 c.wi, .int .i64 c.bu, .int .i64 c.ca, .int .i64 c.sl, .int .i64 c.rq, .int .i64 c.ti, .int .i64 c.pe, .int .i64 c.la] 23)) := (Below.refl _ w).alloc (Nat.le_refl _) _
  have k0 := CfgAt.new w c
  have hs1 : (w.alloc (.cells #[.int .i64 c.n, .int .i64 c.cl, .int .i64 c.wi, .int .i64 c.bu, .int .i64 c.ca, .int .i64 c.sl, .int .i64 c.rq, .int .i64 c.ti, .int .i64 c.pe, .int .i64 c.la] 23)).heap.size = w.heap.size + 1 := by simp only [World.size_alloc]
  have c1 := fun w => mayBe_any c x w
  go_enter Try.func17, Try.ntmps17
  go_wp2_with fail
  obtain ⟨w1, hw1⟩ : ∃ w1, w.alloc (.cells #[.int .i64 c.n, .int .i64 c.cl, .int .i64 c.wi, .int .i64 c.bu, .int .i64 c.ca, .int .i64 c.sl, .int .i64 c.rq, .int .i64 c.ti, .int .i64 c.pe, .int .i64 c.la] 23) = w1 := ⟨_, rfl⟩
  rw [hw1] at hB1 k0 hs1 ⊢
  clear hw1
  cases hm : mayC c x
  · have HL := hide (bucketsL_no (zs := zs) (y := y) hm)
    simp only [hm] at c1
    clear hm
    refine (c1 w1).mono ?_
    rintro e w4 ⟨rfl, hb4⟩
    go_wp2_with fail
    go_ret
    exact ⟨_, rfl, by rw [HL.out]; exact World.ownsRow_nil _ _ _ _, hB1.trans (hb4.mono (by omega))⟩
  · simp only [hm] at c1
    obtain ⟨hg, N, B, E, ok, rfl, hE1, hE2⟩ := mayC_ok hm
    have hN1 : 1 ≤ N := by have := ok.n4; omega
    have hN64 := ok.n64
    have hBN : B ≤ N := ok.bn
    refine (c1 w1).mono ?_
    rintro e w4 ⟨rfl, hb4⟩
    have k4 := k0.below hb4
    obtain ⟨q0, -, -, -, -, -, -, -, -, -⟩ := k4.cells
    rw [ok.n] at q0
    have hB4 : Below w.heap.size w w4 := hB1.trans (hb4.mono (by omega))
    have HM := hide hm
    have HOK := hide ok
    have hs4 : w.heap.size < w4.heap.size := k4.lt
    clear hm ok hg c1 hb4 k0 hs1 hB1
    have cA := among_any N hN1 hN64 a cap zs w4 (hr.below hB4) hl
    go_wp2_with fail
    refine cA.mono ?_
    rintro e w5 ⟨rfl, hA, hb5⟩
    have k5 := k4.below hb5
    have hB5 : Below w.heap.size w w5 := hB4.trans (hb5.mono (by omega))
    have c1 := among1_any w4.heap.size N hN1 hN64 (memB zs) y w5 hA
    by_cases hy : (0 ≤ y ∧ y < N) ∧ y ∈ zs
    · obtain ⟨Y, rfl⟩ := Int.eq_ofNat_of_zero_le hy.1.1
      have hYN : Y < N := by omega
      have HL := hide (bucketsL_yes HM.out HOK.out.n HOK.out.b hYN hy.2)
      have hb : amB N (memB zs) (Y : Int) = true := by rw [amB_in hYN]; exact decide_eq_true hy.2
      rw [hb] at c1
      clear hb hy cA k4 q0
      obtain ⟨-, -, -, q3, -, -, -, -, -, -⟩ := k5.cells
      rw [HOK.out.b] at q3
      go_wp2_with (go_at_call 54; refine c1.mono ?_; rintro e w6 ⟨rfl, hx⟩; obtain rfl := hx.symm; clear hx)
      go_loopw [10, 11, 28] (fun v1 v2 iv wr => ∃ k : Nat, k ≤ B ∧ iv = .int .i64 (k : Int) ∧ Rows2 w5.heap.size v1 (firstU N E Y k) v2 (otherU N E zs Y k) wr ∧ Below w5.heap.size w5 wr) (fun _ _ iv _ => B - (intOf iv).toNat)
      case atStart => exact ⟨0, by omega, rfl, Rows2.nil _ _, Below.refl _ _⟩
      case round =>
        obtain ⟨k, hk, rfl, R, hb⟩ := hrel
        have hl1 : (firstU N E Y k).length ≤ 64 := Nat.le_trans (filter_le _ _) (by omega)
        have hl2 : (otherU N E zs Y k).length ≤ 64 := Nat.le_trans (filter_le _ _) (by omega)
        by_cases hlt : k < B
        · have kr := k5.below hb
          obtain ⟨p0, p1, p2, p3, p4, p5, p6, p7, p8, p9⟩ := kr.cells
          have cT := turn_any c N E k HOK.out.n hN1 (by omega) (by omega) wr
          by_cases ht : (k + E) % N = Y
          · rw [ht] at cT
            have H1 := hide (firstU_yes ht)
            have H2 := hide (otherU_no1 (zs := zs) ht)
            clear ht c1
            generalize firstU N E Y k = L1 at *
            generalize otherU N E zs Y k = L2 at *
            obtain ⟨va, vcap, rfl⟩ := ownsRow_slice R.own1
            obtain ⟨vb, vcap2, rfl⟩ := ownsRow_slice R.own2
            go_wp2_with fail
            refine cT.mono ?_
            rintro e w6 ⟨rfl, hb6⟩
            have R6 := R.grow hb6
            have hb6' : Below w5.heap.size w5 w6 := hb.trans (hb6.mono hb.size)
            clear p0 p1 p2 p3 p4 p5 p6 p7 p8 p9 cT
            go_wp2_with (at_builtin; refine wpList_append_own_src2 _ rfl _ _ 24 24 rfl w5.heap.size 3 i0 (.int .i64 0) 1 8 Try.underlying24 hi hz0 hz1 hz2 rfl _ L1.length (vals L1) rfl (R6.own1.alloc _) (.slice (some ⟨w6.heap.size, 0, none⟩) 1 1) 1 [.int .i64 (k : Int)] rfl (src_one _ _) ?c1 ?c2 ?c3 ?_)
            case c1 => unfold maxLen; omega
            case c2 => omega
            case c3 => have := hb6'.size; simp; omega
            intro v' w7 hown hgr hnew
            have R7 := R6.first hown hgr hnew
            have hb7 := first_below R6.own1 hb6' hb6'.size hgr
            obtain ⟨va7, vcap7, rfl⟩ := ownsRow_slice R7.own1
            go_wp2_with fail
            go_roundw
            case rel => exact ⟨k + 1, by omega, by go_num, by rw [H1.out, H2.out]; exact R7, hb7⟩
            case measure => simp [intOf]; omega
          · have H1 := hide (firstU_no (N := N) (E := E) ht)
            have ht' : ¬ (((k + E) % N : Nat) : Int) = (Y : Int) := by omega
            have hmod : (k + E) % N ≤ 2000000 := by have := Nat.mod_lt (k + E) (show 0 < N by omega); omega
            have cO := fun W h => owner_among c N HOK.out.n hN1 hN64 ((k + E) % N) hmod w4.heap.size (memB zs) W h
            have HO : Hid (ownI N E zs k = optI (ownO N (memB zs) ((k + E) % N))) := hide rfl
            obtain ⟨T, hT⟩ : ∃ T, Hid ((k + E) % N = T) := ⟨_, hide rfl⟩
            rw [hT.out] at cT HO ht'
            simp only [hT.out] at cO
            obtain ⟨O, hO⟩ : ∃ O, Hid (optI (ownO N (memB zs) T) = O) := ⟨_, hide rfl⟩
            rw [hO.out] at HO
            simp only [hO.out] at cO
            by_cases ho : O = (Y : Int)
            · have H2 := hide (otherU_yes (zs := zs) ht (HO.out.trans ho))
              clear ht hmod c1 HO hO hT
              subst ho
              generalize firstU N E Y k = L1 at *
              generalize otherU N E zs Y k = L2 at *
              obtain ⟨va, vcap, rfl⟩ := ownsRow_slice R.own1
              obtain ⟨vb, vcap2, rfl⟩ := ownsRow_slice R.own2
              go_wp2_with fail
              refine cT.mono ?_
              rintro e w6 ⟨rfl, hb6⟩
              have R6 := R.grow hb6
              have hb6' : Below w5.heap.size w5 w6 := hb.trans (hb6.mono hb.size)
              clear p0 p1 p2 p3 p4 p5 p6 p7 p8 p9 cT
              obtain ⟨p0, p1, p2, p3, p4, p5, p6, p7, p8, p9⟩ := (k5.below hb6').cells
              go_wp2_with fail
              refine (cO w6 (hA.below hb6')).mono ?_
              rintro e w7 ⟨rfl, hb7⟩
              have R7 := (R6.grow hb7).swap
              have hb7' : Below w5.heap.size w5 w7 := hb6'.trans (hb7.mono hb6'.size)
              clear p0 p1 p2 p3 p4 p5 p6 p7 p8 p9 cO
              go_wp2_with (at_builtin; refine wpList_append_own_src2 _ rfl _ _ 24 24 rfl w5.heap.size 3 i0 (.int .i64 0) 1 8 Try.underlying24 hi hz0 hz1 hz2 rfl _ L2.length (vals L2) rfl (R7.own1.alloc _) (.slice (some ⟨w7.heap.size, 0, none⟩) 1 1) 1 [.int .i64 (k : Int)] rfl (src_one _ _) ?c1 ?c2 ?c3 ?_)
              case c1 => unfold maxLen; omega
              case c2 => omega
              case c3 => have := hb7'.size; simp; omega
              intro v' w8 hown hgr hnew
              have R8 := R7.first hown hgr hnew
              have hb8 := first_below R7.own1 hb7' hb7'.size hgr
              obtain ⟨va7, vcap7, rfl⟩ := ownsRow_slice R8.own1
              go_wp2_with fail
              go_roundw
              case rel => exact ⟨k + 1, by omega, by go_num, by rw [H1.out, H2.out]; exact R8.swap, hb8⟩
              case measure => simp [intOf]; omega
            · have H2 := hide (otherU_no2 (zs := zs) (N := N) (E := E) (y := Y) (k := k) (fun h => ho (HO.out.symm.trans h)))
              clear ht hmod c1 HO hO hT
              generalize firstU N E Y k = L1 at *
              generalize otherU N E zs Y k = L2 at *
              obtain ⟨va, vcap, rfl⟩ := ownsRow_slice R.own1
              obtain ⟨vb, vcap2, rfl⟩ := ownsRow_slice R.own2
              go_wp2_with fail
              refine cT.mono ?_
              rintro e w6 ⟨rfl, hb6⟩
              have R6 := R.grow hb6
              have hb6' : Below w5.heap.size w5 w6 := hb.trans (hb6.mono hb.size)
              clear p0 p1 p2 p3 p4 p5 p6 p7 p8 p9 cT
              obtain ⟨p0, p1, p2, p3, p4, p5, p6, p7, p8, p9⟩ := (k5.below hb6').cells
              go_wp2_with fail
              refine (cO w6 (hA.below hb6')).mono ?_
              rintro e w7 ⟨rfl, hb7⟩
              have R7 := R6.grow hb7
              have hb7' : Below w5.heap.size w5 w7 := hb6'.trans (hb7.mono hb6'.size)
              clear p0 p1 p2 p3 p4 p5 p6 p7 p8 p9 cO
              go_wp2_with fail
              go_roundw
              case rel => exact ⟨k + 1, by omega, by go_num, by rw [H1.out, H2.out]; exact R7, hb7'⟩
              case measure => simp [intOf]; omega
        · obtain rfl : k = B := by omega
          have HBK : Hid (bucketsN N k E zs Y = firstU N E Y k ++ otherU N E zs Y k) := hide rfl
          generalize firstU N E Y k = L1 at *
          generalize otherU N E zs Y k = L2 at *
          obtain ⟨va, vcap, rfl⟩ := ownsRow_slice R.own1
          obtain ⟨vb, vcap2, hvb, hrI⟩ := own_set R.own2 (by omega)
          have hsrc := hrI.src vcap2
          rw [ints_length, ← vals_ints, ← hvb] at hsrc
          go_wp2_with (at_builtin; refine wpList_append_own_src _ rfl _ _ 24 24 rfl w5.heap.size 3 i0 (.int .i64 0) 1 8 Try.underlying24 hi hz0 hz1 hz2 rfl _ L1.length (vals L1) rfl R.own1 _ L2.length (vals L2) rfl hsrc ?c1 ?c2 ?c3 ?_)
          case c1 => unfold maxLen; omega
          case c2 => omega
          case c3 => exact hb.size
          intro v' w8 hown hgr
          have hb8 : Below w5.heap.size w5 w8 := hb.grown hgr hb.size (fun j hj => (R.own1.lt j hj).1)
          obtain ⟨va7, vcap7, rfl⟩ := ownsRow_slice hown
          go_wp2_with fail
          go_ret
          refine ⟨_, rfl, ?_, hB5.trans (hb8.mono hB5.size)⟩
          rw [HL.out, HBK.out]
          have : vals (L1 ++ L2) = vals L1 ++ vals L2 := by simp [vals]
          rw [this, List.length_append]
          exact ownsRow_low hB5.size hown
    · have HL := hide (bucketsL_out (c := c) (x := (E : Int)) (zs := zs) (y := y) (fun h => hy ⟨⟨h.1, by have := HOK.out.n; omega⟩, h.2.2⟩))
      have hb : amB N (memB zs) y = false := by
        by_cases h : 0 ≤ y ∧ y < N
        · obtain ⟨Y, rfl⟩ := Int.eq_ofNat_of_zero_le h.1
          rw [amB_in (by omega)]
          exact decide_eq_false (fun h2 => hy ⟨h, h2⟩)
        · exact amB_out h
      rw [hb] at c1
      clear hb hy
      go_wp2_with (go_at_call 54; refine c1.mono ?_; rintro e w6 ⟨rfl, hx⟩; obtain rfl := hx.symm; clear hx)
      go_ret
      exact ⟨_, rfl, by rw [HL.out]; exact World.ownsRow_nil _ _ _ _, hB5⟩
end Go.Proofs.Ytnndlgdlligjbaa
