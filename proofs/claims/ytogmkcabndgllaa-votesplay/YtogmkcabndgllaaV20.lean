/- which of two votes is the better one -/
import Derived.Test.YtogmkcabndgllaaV19
import Derived.Test.YtogmkcabndgllaaV14
namespace Go.Proofs.Ytogmkcabndgllaa
open Go.RowKit
set_option maxRecDepth 100000 in
set_option maxHeartbeats 4000000 in
theorem ahead_any (x y : Vt) (hx : x.ok) (hy : y.ok) (w : World) : Calls Try.prog 29 #[.agg x.cells.toArray, .agg y.cells.toArray] w fun e w' => e = .returned (.bool (aheadB x y)) ∧ Below w.heap.size w w' := by
  have hb0 := two_box (w := w) x.cells y.cells 31 31
  have cl := fun w => less_any x.d y.d w hx.dl hy.dl hx.db hy.db
  have hnd0 := fun w => neqD x.d y.d hx.dl hy.dl w
  have ix : (Try.prog.info? 29).map (·.size) = some (v8 x.d).length := by rw [v8_length, hx.dl]; exact iszD
  have iy : (Try.prog.info? 29).map (·.size) = some (v8 y.d).length := by rw [v8_length, hy.dl]; exact iszD
  have pX := fun (w' : World) b (h : w'.rangeAt b 0 x.cells) => Vt.four h
  have pY := fun (w' : World) b (h : w'.rangeAt b 0 y.cells) => Vt.four h
  have dX := fun (w' : World) b (h : w'.rangeAt b 0 x.cells) => Vt.dig h
  have dY := fun (w' : World) b (h : w'.rangeAt b 0 y.cells) => Vt.dig h
  have HA : Hid (aheadB x y = if x.v ≠ y.v then decide (y.v < x.v) else if x.d ≠ y.d then lexI x.d y.d else if x.e ≠ y.e then decide (x.e < y.e) else decide (x.s < y.s)) := hide rfl
  have hdd : Hid ((x.d == y.d) = decide (x.d = y.d)) := hide (by by_cases h : x.d = y.d <;> simp [h])
  generalize aheadB x y = r at *
  obtain ⟨k, e, v, s, d⟩ := x
  obtain ⟨k', e', v', s', d'⟩ := y
  simp only at *
  obtain ⟨u, hu⟩ : ∃ u, Hid ((Vt.mk k e v s d).cells = u) := ⟨_, hide rfl⟩
  obtain ⟨u', hu'⟩ : ∃ u, Hid ((Vt.mk k' e' v' s' d').cells = u) := ⟨_, hide rfl⟩
  obtain ⟨dx, hdx⟩ : ∃ dx, Hid (v8 d = dx) := ⟨_, hide rfl⟩
  obtain ⟨dy, hdy⟩ : ∃ dy, Hid (v8 d' = dy) := ⟨_, hide rfl⟩
  obtain ⟨lx, hlx⟩ : ∃ lx, Hid (lexI d d' = lx) := ⟨_, hide rfl⟩
  have HA := HA.out
  rw [hlx.out] at HA
  simp only [hlx.out, hdx.out, hdy.out] at cl
  simp only [hdx.out, hdy.out, hdd.out] at hnd0
  simp only [hu.out, hu'.out, hdx.out, hdy.out] at pX pY dX dY hb0 ix iy ⊢
  clear hu hu' hdx hdy hlx hx hy
  have HA := hide HA
  by_cases h1 : v = v'
  · subst h1
    by_cases h2 : d = d'
    · have hnd : ∀ w : World, (binOp .neq 29 (.agg dx.toArray) (.agg dy.toArray)).run Try.prog w = .ok (.bool false) w := fun w => by rw [hnd0, decide_eq_true h2]; rfl
      by_cases h3 : e = e'
      · have HR : Hid (r = decide (s < s')) := hide (by rw [HA.out]; simp [h2, h3])
        subst h3
        clear hnd0 HA h2 cl
        go_enter Try.func29, Try.ntmps29
        go_upto_region 1 with fail
        go_name_world w1 hw1
        rw [hw1] at hb0
        clear hw1
        obtain ⟨hB1, hR1, hR2, hsz1⟩ := hb0
        obtain ⟨x0, x1, x2, x3⟩ := pX _ _ hR1
        obtain ⟨y0, y1, y2, y3⟩ := pY _ _ hR2
        simp only [Nat.zero_add] at x1 x2 x3 y1 y2 y3
        have rx := dX _ _ hR1
        have ry := dY _ _ hR2
        rw [Nat.zero_add] at rx ry

        go_upto_region 3 with fail
        try simp only [Act.put]
        refine wp_region_list ?_
        refine wpList_step fun K hK => ?_
        go_simp
        refine hK _ _ ?_
        clear hK K
        refine wpList_load_mid rfl 29 _ rfl _ _ rfl dx _ rx Try.underlying29 rfl ix ?_
        refine wpList_step fun K hK => ?_
        go_simp
        refine hK _ _ ?_
        clear hK K
        refine wpList_load_mid rfl 29 _ rfl _ _ rfl dy _ ry Try.underlying29 rfl iy ?_
        refine wpList_step fun K hK => ?_
        go_simp
        try rw [hnd]
        try go_simp
        refine hK _ _ ?_
        clear hK K
        refine wpList_step fun K hK => ?_
        go_simp
        refine hK _ _ ?_
        clear hK K

        go_wp2_with fail
        go_ret
        exact ⟨by rw [HR.out]; rfl, hB1⟩
      · have HR : Hid (r = decide (e < e')) := hide (by rw [HA.out]; simp [h2, h3])
        have h3' : (e != e') = true := by simpa using h3
        clear hnd0 HA h2 h3 cl
        go_enter Try.func29, Try.ntmps29
        go_upto_region 1 with fail
        go_name_world w1 hw1
        rw [hw1] at hb0
        clear hw1
        obtain ⟨hB1, hR1, hR2, hsz1⟩ := hb0
        obtain ⟨x0, x1, x2, x3⟩ := pX _ _ hR1
        obtain ⟨y0, y1, y2, y3⟩ := pY _ _ hR2
        simp only [Nat.zero_add] at x1 x2 x3 y1 y2 y3
        have rx := dX _ _ hR1
        have ry := dY _ _ hR2
        rw [Nat.zero_add] at rx ry

        go_upto_region 3 with fail
        try simp only [Act.put]
        refine wp_region_list ?_
        refine wpList_step fun K hK => ?_
        go_simp
        refine hK _ _ ?_
        clear hK K
        refine wpList_load_mid rfl 29 _ rfl _ _ rfl dx _ rx Try.underlying29 rfl ix ?_
        refine wpList_step fun K hK => ?_
        go_simp
        refine hK _ _ ?_
        clear hK K
        refine wpList_load_mid rfl 29 _ rfl _ _ rfl dy _ ry Try.underlying29 rfl iy ?_
        refine wpList_step fun K hK => ?_
        go_simp
        try rw [hnd]
        try go_simp
        refine hK _ _ ?_
        clear hK K
        refine wpList_step fun K hK => ?_
        go_simp
        refine hK _ _ ?_
        clear hK K

        go_wp2_with fail
        go_ret
        exact ⟨by rw [HR.out]; rfl, hB1⟩
    · have hnd : ∀ w : World, (binOp .neq 29 (.agg dx.toArray) (.agg dy.toArray)).run Try.prog w = .ok (.bool true) w := fun w => by rw [hnd0, decide_eq_false h2]; rfl
      have HR : Hid (r = lx) := hide (by rw [HA.out]; simp [h2])
      clear hnd0 HA h2
      go_enter Try.func29, Try.ntmps29
      go_upto_region 1 with fail
      go_name_world w1 hw1
      rw [hw1] at hb0
      clear hw1
      obtain ⟨hB1, hR1, hR2, hsz1⟩ := hb0
      obtain ⟨x0, x1, x2, x3⟩ := pX _ _ hR1
      obtain ⟨y0, y1, y2, y3⟩ := pY _ _ hR2
      simp only [Nat.zero_add] at x1 x2 x3 y1 y2 y3
      have rx := dX _ _ hR1
      have ry := dY _ _ hR2
      rw [Nat.zero_add] at rx ry

      go_upto_region 3 with fail
      try simp only [Act.put]
      refine wp_region_list ?_
      refine wpList_step fun K hK => ?_
      go_simp
      refine hK _ _ ?_
      clear hK K
      refine wpList_load_mid rfl 29 _ rfl _ _ rfl dx _ rx Try.underlying29 rfl ix ?_
      refine wpList_step fun K hK => ?_
      go_simp
      refine hK _ _ ?_
      clear hK K
      refine wpList_load_mid rfl 29 _ rfl _ _ rfl dy _ ry Try.underlying29 rfl iy ?_
      refine wpList_step fun K hK => ?_
      go_simp
      try rw [hnd]
      try go_simp
      refine hK _ _ ?_
      clear hK K
      refine wpList_step fun K hK => ?_
      go_simp
      refine hK _ _ ?_
      clear hK K

      have cl1 := cl w1
      go_wp2_with (first | (refine wpList_load_mid rfl 29 _ rfl _ _ rfl dx _ rx Try.underlying29 rfl ix ?_) | (refine wpList_load_mid rfl 29 _ rfl _ _ rfl dy _ ry Try.underlying29 rfl iy ?_))
      refine cl1.mono ?_
      rintro _ w2 ⟨rfl, hB2⟩
      go_wp2_with fail
      go_ret
      exact ⟨by rw [HR.out]; rfl, hB1.trans (hB2.mono (by omega))⟩
  · have HR : Hid (r = decide (v' < v)) := hide (by rw [HA.out]; simp [h1])
    have h1' : (v != v') = true := by simpa using h1
    clear hnd0 HA h1 cl
    go_enter Try.func29, Try.ntmps29
    go_upto_region 1 with fail
    go_name_world w1 hw1
    rw [hw1] at hb0
    clear hw1
    obtain ⟨hB1, hR1, hR2, hsz1⟩ := hb0
    obtain ⟨x0, x1, x2, x3⟩ := pX _ _ hR1
    obtain ⟨y0, y1, y2, y3⟩ := pY _ _ hR2
    simp only [Nat.zero_add] at x1 x2 x3 y1 y2 y3
    have rx := dX _ _ hR1
    have ry := dY _ _ hR2
    rw [Nat.zero_add] at rx ry

    go_wp2_with fail
    go_ret
    exact ⟨by rw [HR.out]; rfl, hB1⟩
set_option maxRecDepth 100000 in
set_option maxHeartbeats 4000000 in
theorem xbetter_any (x y : Vt) (hx : x.ok) (hy : y.ok) (w : World) : Calls Try.prog 30 #[.agg x.cells.toArray, .agg y.cells.toArray] w fun e w' => e = .returned (.bool (aheadB x y)) ∧ Below w.heap.size w w' := by
  have hb0 := two_box (w := w) x.cells y.cells 31 31
  have cl := fun w => refLess_any x.d y.d w hx.dl hy.dl
  have hnd0 := fun w => neqD x.d y.d hx.dl hy.dl w
  have ix : (Try.prog.info? 29).map (·.size) = some (v8 x.d).length := by rw [v8_length, hx.dl]; exact iszD
  have iy : (Try.prog.info? 29).map (·.size) = some (v8 y.d).length := by rw [v8_length, hy.dl]; exact iszD
  have pX := fun (w' : World) b (h : w'.rangeAt b 0 x.cells) => Vt.four h
  have pY := fun (w' : World) b (h : w'.rangeAt b 0 y.cells) => Vt.four h
  have dX := fun (w' : World) b (h : w'.rangeAt b 0 x.cells) => Vt.dig h
  have dY := fun (w' : World) b (h : w'.rangeAt b 0 y.cells) => Vt.dig h
  have HA : Hid (aheadB x y = if x.v ≠ y.v then decide (y.v < x.v) else if x.d ≠ y.d then lexI x.d y.d else if x.e ≠ y.e then decide (x.e < y.e) else decide (x.s < y.s)) := hide rfl
  have hdd : Hid ((x.d == y.d) = decide (x.d = y.d)) := hide (by by_cases h : x.d = y.d <;> simp [h])
  generalize aheadB x y = r at *
  obtain ⟨k, e, v, s, d⟩ := x
  obtain ⟨k', e', v', s', d'⟩ := y
  simp only at *
  obtain ⟨u, hu⟩ : ∃ u, Hid ((Vt.mk k e v s d).cells = u) := ⟨_, hide rfl⟩
  obtain ⟨u', hu'⟩ : ∃ u, Hid ((Vt.mk k' e' v' s' d').cells = u) := ⟨_, hide rfl⟩
  obtain ⟨dx, hdx⟩ : ∃ dx, Hid (v8 d = dx) := ⟨_, hide rfl⟩
  obtain ⟨dy, hdy⟩ : ∃ dy, Hid (v8 d' = dy) := ⟨_, hide rfl⟩
  obtain ⟨lx, hlx⟩ : ∃ lx, Hid (lexI d d' = lx) := ⟨_, hide rfl⟩
  have HA := HA.out
  rw [hlx.out] at HA
  simp only [hlx.out, hdx.out, hdy.out] at cl
  simp only [hdx.out, hdy.out, hdd.out] at hnd0
  simp only [hu.out, hu'.out, hdx.out, hdy.out] at pX pY dX dY hb0 ix iy ⊢
  clear hu hu' hdx hdy hlx hx hy
  have HA := hide HA
  by_cases h1 : v = v'
  · subst h1
    by_cases h2 : d = d'
    · have hnd : ∀ w : World, (binOp .neq 29 (.agg dx.toArray) (.agg dy.toArray)).run Try.prog w = .ok (.bool false) w := fun w => by rw [hnd0, decide_eq_true h2]; rfl
      by_cases h3 : e = e'
      · have HR : Hid (r = decide (s < s')) := hide (by rw [HA.out]; simp [h2, h3])
        subst h3
        clear hnd0 HA h2 cl
        go_enter Try.func30, Try.ntmps30
        go_upto_region 1 with fail
        go_name_world w1 hw1
        rw [hw1] at hb0
        clear hw1
        obtain ⟨hB1, hR1, hR2, hsz1⟩ := hb0
        obtain ⟨x0, x1, x2, x3⟩ := pX _ _ hR1
        obtain ⟨y0, y1, y2, y3⟩ := pY _ _ hR2
        simp only [Nat.zero_add] at x1 x2 x3 y1 y2 y3
        have rx := dX _ _ hR1
        have ry := dY _ _ hR2
        rw [Nat.zero_add] at rx ry

        go_upto_region 3 with fail
        try simp only [Act.put]
        refine wp_region_list ?_
        refine wpList_step fun K hK => ?_
        go_simp
        refine hK _ _ ?_
        clear hK K
        refine wpList_load_mid rfl 29 _ rfl _ _ rfl dx _ rx Try.underlying29 rfl ix ?_
        refine wpList_step fun K hK => ?_
        go_simp
        refine hK _ _ ?_
        clear hK K
        refine wpList_load_mid rfl 29 _ rfl _ _ rfl dy _ ry Try.underlying29 rfl iy ?_
        refine wpList_step fun K hK => ?_
        go_simp
        try rw [hnd]
        try go_simp
        refine hK _ _ ?_
        clear hK K

        go_wp2_with fail
        go_ret
        exact ⟨by rw [HR.out]; rfl, hB1⟩
      · have HR : Hid (r = decide (e < e')) := hide (by rw [HA.out]; simp [h2, h3])
        have h3' : (e != e') = true := by simpa using h3
        clear hnd0 HA h2 h3 cl
        go_enter Try.func30, Try.ntmps30
        go_upto_region 1 with fail
        go_name_world w1 hw1
        rw [hw1] at hb0
        clear hw1
        obtain ⟨hB1, hR1, hR2, hsz1⟩ := hb0
        obtain ⟨x0, x1, x2, x3⟩ := pX _ _ hR1
        obtain ⟨y0, y1, y2, y3⟩ := pY _ _ hR2
        simp only [Nat.zero_add] at x1 x2 x3 y1 y2 y3
        have rx := dX _ _ hR1
        have ry := dY _ _ hR2
        rw [Nat.zero_add] at rx ry

        go_upto_region 3 with fail
        try simp only [Act.put]
        refine wp_region_list ?_
        refine wpList_step fun K hK => ?_
        go_simp
        refine hK _ _ ?_
        clear hK K
        refine wpList_load_mid rfl 29 _ rfl _ _ rfl dx _ rx Try.underlying29 rfl ix ?_
        refine wpList_step fun K hK => ?_
        go_simp
        refine hK _ _ ?_
        clear hK K
        refine wpList_load_mid rfl 29 _ rfl _ _ rfl dy _ ry Try.underlying29 rfl iy ?_
        refine wpList_step fun K hK => ?_
        go_simp
        try rw [hnd]
        try go_simp
        refine hK _ _ ?_
        clear hK K

        go_wp2_with fail
        go_ret
        exact ⟨by rw [HR.out]; rfl, hB1⟩
    · have hnd : ∀ w : World, (binOp .neq 29 (.agg dx.toArray) (.agg dy.toArray)).run Try.prog w = .ok (.bool true) w := fun w => by rw [hnd0, decide_eq_false h2]; rfl
      have HR : Hid (r = lx) := hide (by rw [HA.out]; simp [h2])
      clear hnd0 HA h2
      go_enter Try.func30, Try.ntmps30
      go_upto_region 1 with fail
      go_name_world w1 hw1
      rw [hw1] at hb0
      clear hw1
      obtain ⟨hB1, hR1, hR2, hsz1⟩ := hb0
      obtain ⟨x0, x1, x2, x3⟩ := pX _ _ hR1
      obtain ⟨y0, y1, y2, y3⟩ := pY _ _ hR2
      simp only [Nat.zero_add] at x1 x2 x3 y1 y2 y3
      have rx := dX _ _ hR1
      have ry := dY _ _ hR2
      rw [Nat.zero_add] at rx ry

      go_upto_region 3 with fail
      try simp only [Act.put]
      refine wp_region_list ?_
      refine wpList_step fun K hK => ?_
      go_simp
      refine hK _ _ ?_
      clear hK K
      refine wpList_load_mid rfl 29 _ rfl _ _ rfl dx _ rx Try.underlying29 rfl ix ?_
      refine wpList_step fun K hK => ?_
      go_simp
      refine hK _ _ ?_
      clear hK K
      refine wpList_load_mid rfl 29 _ rfl _ _ rfl dy _ ry Try.underlying29 rfl iy ?_
      refine wpList_step fun K hK => ?_
      go_simp
      try rw [hnd]
      try go_simp
      refine hK _ _ ?_
      clear hK K

      have cl1 := cl w1
      go_wp2_with (first | (refine wpList_load_mid rfl 29 _ rfl _ _ rfl dx _ rx Try.underlying29 rfl ix ?_) | (refine wpList_load_mid rfl 29 _ rfl _ _ rfl dy _ ry Try.underlying29 rfl iy ?_))
      refine cl1.mono ?_
      rintro _ w2 ⟨rfl, hB2⟩
      go_wp2_with fail
      go_ret
      exact ⟨by rw [HR.out]; rfl, hB1.trans (hB2.mono (by omega))⟩
  · have HR : Hid (r = decide (v' < v)) := hide (by rw [HA.out]; simp [h1])
    have h1' : (v != v') = true := by simpa using h1
    clear hnd0 HA h1 cl
    go_enter Try.func30, Try.ntmps30
    go_upto_region 1 with fail
    go_name_world w1 hw1
    rw [hw1] at hb0
    clear hw1
    obtain ⟨hB1, hR1, hR2, hsz1⟩ := hb0
    obtain ⟨x0, x1, x2, x3⟩ := pX _ _ hR1
    obtain ⟨y0, y1, y2, y3⟩ := pY _ _ hR2
    simp only [Nat.zero_add] at x1 x2 x3 y1 y2 y3
    have rx := dX _ _ hR1
    have ry := dY _ _ hR2
    rw [Nat.zero_add] at rx ry

    go_wp2_with fail
    go_ret
    exact ⟨by rw [HR.out]; rfl, hB1⟩
end Go.Proofs.Ytogmkcabndgllaa
