/- leaders.Owner: a contract. -/
import Derived.Test.YtnndlgdlligjbabDoorLList
namespace Go.Proofs.YtnndlgdlligjbabDoor.Ld
open Go.RowKit Go.Shelf
theorem ownerI_no {c : Cfg} {x b : Int} {zs : List Int} (h : mayC c x = false) : ownerI c x zs b = -1 := by simp [ownerI, h]
theorem ownerI_out {c : Cfg} {x b : Int} {zs : List Int} (h : ¬ (0 ≤ b ∧ b < c.bu)) : ownerI c x zs b = -1 := by
  unfold ownerI; rw [if_neg (fun hh => h hh.2)]
theorem ownerI_yes {c : Cfg} {N E b : Nat} {zs : List Int} (h : mayC c (E : Int) = true) (hn : c.n = (N : Int)) (hb : (b : Int) < c.bu) : ownerI c (E : Int) zs (b : Int) = ownI N E zs b := by
  unfold ownerI; rw [if_pos ⟨h, by omega, hb⟩, hn]; simp
set_option maxRecDepth 100000 in
set_option maxHeartbeats 4000000 in
theorem lOwner_any (c : Cfg) (x : Int) (a : Option Addr) (cap : Nat) (zs : List Int) (y : Int) (w : World) (hr : RowI w a zs) (hl : zs.length ≤ 100000) :
    Calls Tryd.prog 34 #[(.agg #[.int .i64 c.n, .int .i64 c.cl, .int .i64 c.wi, .int .i64 c.bu, .int .i64 c.ca, .int .i64 c.sl, .int .i64 c.rq, .int .i64 c.ti, .int .i64 c.pe, .int .i64 c.la]), .int .i64 x, .slice a zs.length cap, .int .i64 y] w fun e w' => e = .returned (.int .i64 (ownerI c x zs y)) ∧ Below w.heap.size w w' := by
  have hB1 : Below w.heap.size w (w.alloc (.cells #[.int .i64 c.n, .int .i64 c.cl, .int .i64 c.wi, .int .i64 c.bu, .int .i64 c.ca, .int .i64 c.sl, .int .i64 c.rq, .int .i64 c.ti, .int .i64 c.pe, .int .i64 c.la] 23)) := (Below.refl _ w).alloc (Nat.le_refl _) _
  have k0 := CfgAt.new w c
  have hs1 : (w.alloc (.cells #[.int .i64 c.n, .int .i64 c.cl, .int .i64 c.wi, .int .i64 c.bu, .int .i64 c.ca, .int .i64 c.sl, .int .i64 c.rq, .int .i64 c.ti, .int .i64 c.pe, .int .i64 c.la] 23)).heap.size = w.heap.size + 1 := by simp only [World.size_alloc]
  have c1 := fun w => mayBe_any c x w
  have c2 := fun w => within_any y 0 (c.bu - 1) w
  go_enter Tryd.func34, Tryd.ntmps34
  go_wp2_with fail
  obtain ⟨w1, hw1⟩ : ∃ w1, w.alloc (.cells #[.int .i64 c.n, .int .i64 c.cl, .int .i64 c.wi, .int .i64 c.bu, .int .i64 c.ca, .int .i64 c.sl, .int .i64 c.rq, .int .i64 c.ti, .int .i64 c.pe, .int .i64 c.la] 23) = w1 := ⟨_, rfl⟩
  rw [hw1] at hB1 k0 hs1 ⊢
  clear hw1
  cases hm : mayC c x
  · have HL := hide (ownerI_no (zs := zs) (b := y) hm)
    simp only [hm] at c1
    clear hm
    refine (c1 w1).mono ?_
    rintro e w4 ⟨rfl, hb4⟩
    go_wp2_with fail
    go_ret
    exact ⟨ret_int (by rw [HL.out]), hB1.trans (hb4.mono (by omega))⟩
  · simp only [hm] at c1
    obtain ⟨hg, N, B, E, ok, rfl, hE1, hE2⟩ := mayC_ok hm
    have hbu := ok.b
    have hbN := ok.bn
    have hn := ok.n
    have hN1 : 1 ≤ N := by have := ok.n4; omega
    have hN64 := ok.n64
    refine (c1 w1).mono ?_
    rintro e w4 ⟨rfl, hb4⟩
    have k4 := k0.below hb4
    obtain ⟨-, -, -, q3, -, -, -, -, -, -⟩ := k4.cells
    have hB4 : Below w.heap.size w w4 := hB1.trans (hb4.mono (by omega))
    have HM := hide hm
    have HOK := hide ok
    have hs4 : w.heap.size < w4.heap.size := k4.lt
    have hbu0 : 1 ≤ c.bu ∧ c.bu ≤ 64 := by have := ok.b1; omega
    clear hm ok hg c1 hb4 k0 hs1 hB1
    by_cases hy : 0 ≤ y ∧ y < c.bu
    · obtain ⟨b, rfl⟩ := Int.eq_ofNat_of_zero_le hy.1
      have HL := hide (ownerI_yes (zs := zs) HM.out hn hy.2)
      simp only [inB_mk (show (0 : Int) ≤ (b : Int) ∧ (b : Int) ≤ c.bu - 1 from by omega)] at c2
      have hb64 : b ≤ 64 := by omega
      have HBU := hide hbu
      have hnn := hide hn
      clear hbu hn hy
      go_wp2_with (go_at_call 40; refine (c2 _).mono ?_; rintro e w6 ⟨rfl, hx⟩; obtain rfl := hx.symm; clear hx)
      clear c2
      obtain ⟨w8, hw8⟩ : ∃ w8, w4.drew = w8 := ⟨_, rfl⟩
      refine hs_begin (S := (Below w8.heap.size w8)) 11 rfl (by kernel_rfl) ?_
      have k8 : CfgAt w8 w.heap.size c := by rw [← hw8]; exact k4
      have hB8 : Below w.heap.size w w8 := by rw [← hw8]; exact hB4.drew
      have hr8 : RowI w8 a zs := hr.below hB8
      rw [hw8]
      clear hw8 k4 q3 hB4
      have cA := fun w => among_any N hN1 hN64 a cap zs w
      have cA := fun w h => cA w h hl
      have cT := fun w => turn_any c N E b hnn.out hN1 (by omega) hb64 w
      have cA := fun (w9 : World) => cA w8 hr8
      have hS : (Below w8.heap.size w8) w8 := Below.refl _ _
      refine hs_take (i := 0) (d := some 21) (v := .agg #[.int .i64 c.n, .int .i64 c.cl, .int .i64 c.wi, .int .i64 c.bu, .int .i64 c.ca, .int .i64 c.sl, .int .i64 c.rq, .int .i64 c.ti, .int .i64 c.pe, .int .i64 c.la]) rfl (by kernel_rfl) (by kernel_rfl) (by kernel_rfl) (by rfl) (fun w' hw => exec_load rfl rfl (k8.below hw).load) hS rfl ?_
      simp only [Act.put, List.setIfInBounds_toArray, List.set_cons_zero, List.set_cons_succ]
      refine hs_take (i := 1) (d := some 22) (v := ?_) rfl (by kernel_rfl) (by kernel_rfl) (by kernel_rfl) (by rfl) ?_ hS rfl ?_
      rotate_left
      · intro w' hw
        go_simp
        try with_reducible rfl
      simp only [Act.put, List.setIfInBounds_toArray, List.set_cons_zero, List.set_cons_succ]
      refine hs_take (i := 2) (d := some 23) (v := .int .i64 (N : Int)) rfl (by kernel_rfl) (by kernel_rfl) (by kernel_rfl) (by rfl) (fun w' hw => by have q := (k8.below hw).cells.1; rw [hnn.out] at q; go_simp) hS rfl ?_
      simp only [Act.put, List.setIfInBounds_toArray, List.set_cons_zero, List.set_cons_succ]
      refine hs_take (i := 3) (d := some 24) (v := ?_) rfl (by kernel_rfl) (by kernel_rfl) (by kernel_rfl) (by rfl) ?_ hS rfl ?_
      rotate_left
      · intro w' hw
        go_simp
        try with_reducible rfl
      simp only [Act.put, List.setIfInBounds_toArray, List.set_cons_zero, List.set_cons_succ]
      refine hs_take (i := 5) (d := some 26) (v := .agg #[.int .i64 c.n, .int .i64 c.cl, .int .i64 c.wi, .int .i64 c.bu, .int .i64 c.ca, .int .i64 c.sl, .int .i64 c.rq, .int .i64 c.ti, .int .i64 c.pe, .int .i64 c.la]) rfl (by kernel_rfl) (by kernel_rfl) (by kernel_rfl) (by rfl) (fun w' hw => exec_load rfl rfl (k8.below hw).load) hS rfl ?_
      simp only [Act.put, List.setIfInBounds_toArray, List.set_cons_zero, List.set_cons_succ]
      refine hs_take (i := 6) (d := some 27) (v := ?_) rfl (by kernel_rfl) (by kernel_rfl) (by kernel_rfl) (by rfl) ?_ hS rfl ?_
      rotate_left
      · intro w' hw
        go_simp
        try with_reducible rfl
      simp only [Act.put, List.setIfInBounds_toArray, List.set_cons_zero, List.set_cons_succ]
      refine hs_take (i := 7) (d := some 28) (v := ?_) rfl (by kernel_rfl) (by kernel_rfl) (by kernel_rfl) (by rfl) ?_ hS rfl ?_
      rotate_left
      · intro w' hw
        go_simp
        try with_reducible rfl
      simp only [Act.put, List.setIfInBounds_toArray, List.set_cons_zero, List.set_cons_succ]
      refine hs_call (i := 4) (d := some 25) rfl (by kernel_rfl) (by rfl) (by go_simp; first | done | exact ⟨rfl, rfl⟩ | with_reducible rfl) rfl ?_
      refine (cA w8).mono ?_
      rintro e' w9 ⟨rfl, hA9, hw9⟩
      have hS : (Below w8.heap.size w8) w9 := hS.trans (hw9.mono hS.size)
      refine ⟨_, rfl, hS, ?_⟩
      simp only [Act.put, List.setIfInBounds_toArray, List.set_cons_zero, List.set_cons_succ]
      refine hs_call (i := 8) (d := some 29) rfl (by kernel_rfl) (by rfl) (by go_simp; first | done | exact ⟨rfl, rfl⟩ | with_reducible rfl) rfl ?_
      refine (cT w9).mono ?_
      rintro e' w10 ⟨rfl, hw10⟩
      have hS : (Below w8.heap.size w8) w10 := hS.trans (hw10.mono hS.size)
      refine ⟨_, rfl, hS, ?_⟩
      simp only [Act.put, List.setIfInBounds_toArray, List.set_cons_zero, List.set_cons_succ]
      have cO := owner_among c N hnn.out hN1 hN64 ((b + E) % N) (by have := Nat.mod_lt (b + E) (show 0 < N by omega); omega) w8.heap.size (memB zs) w10 (hA9.below hw10)
      refine hs_call (i := 9) (d := some 30) rfl (by kernel_rfl) (by rfl) (by go_simp; first | done | exact ⟨rfl, rfl⟩ | with_reducible rfl) rfl ?_
      refine (cO).mono ?_
      rintro e' w11 ⟨rfl, hw11⟩
      have hS : (Below w8.heap.size w8) w11 := hS.trans (hw11.mono hS.size)
      refine ⟨_, rfl, hS, ?_⟩
      simp only [Act.put, List.setIfInBounds_toArray, List.set_cons_zero, List.set_cons_succ]
      refine hs_take (i := 10) (d := some 8) (v := ?_) rfl (by kernel_rfl) (by kernel_rfl) (by kernel_rfl) (by rfl) ?_ hS rfl ?_
      rotate_left
      · intro w' hw
        go_simp
        try with_reducible rfl
      simp only [Act.put, List.setIfInBounds_toArray, List.set_cons_zero, List.set_cons_succ]
      refine hs_done (by kernel_rfl) ?_
      go_wp2_with fail
      go_ret
      exact ⟨ret_int (by rw [HL.out]; rfl), hB8.trans (hS.mono hB8.size)⟩
    · have HL := hide (ownerI_out (x := (E : Int)) (zs := zs) hy)
      simp only [inB_no (show ¬ ((0 : Int) ≤ y ∧ y ≤ c.bu - 1) from by omega)] at c2
      have HBU := hide hbu
      have hnn := hide hn
      clear hbu hn hy
      go_wp2_with (go_at_call 40; refine (c2 _).mono ?_; rintro e w6 ⟨rfl, hx⟩; obtain rfl := hx.symm; clear hx)
      go_ret
      exact ⟨ret_int (by rw [HL.out]), hB4⟩
end Go.Proofs.YtnndlgdlligjbabDoor.Ld
