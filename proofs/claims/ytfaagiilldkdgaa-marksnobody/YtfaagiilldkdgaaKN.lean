/- marks that no call made -/
import Derived.Test.YtfaagiilldkdgaaKArgs
namespace Go.Proofs.Ytfaagiilldkdgaa
open Go.RowKit
set_option linter.unusedVariables false
set_option linter.unusedSimpArgs false
theorem one_box {w : World} (q : List Value) (t : TypeId) : Below w.heap.size w (w.alloc (.cells q.toArray t)) ∧ (w.alloc (.cells q.toArray t)).rangeAt w.heap.size 0 q ∧ w.heap.size + 1 ≤ (w.alloc (.cells q.toArray t)).heap.size :=
  ⟨(Below.refl _ _).alloc (Nat.le_refl _) _, by simpa using range_new w q.toArray t, by simp⟩
/-- a plain book, and a row of two -/
theorem nobody_row (w : World) : let w1 := w.alloc (.cells #[.int .i64 0, .map none] 52)
    let w2 := w1.alloc (.cells #[.pointer none, .pointer (some ⟨w.heap.size, 0, none⟩)] 23)
    Below w.heap.size w w2 ∧ w.heap.size + 2 ≤ w2.heap.size ∧ ∀ i : Nat, i < 2 → ∃ p, w2.cell? ⟨w.heap.size + 1, i, none⟩ = some p ∧ NoMk w2 p := by
  intro w1 w2
  have hb1 : Below w.heap.size w w1 := (Below.refl _ _).alloc (Nat.le_refl _) _
  have hb2 : Below w1.heap.size w1 w2 := (Below.refl _ _).alloc (Nat.le_refl _) _
  have hs1 : w1.heap.size = w.heap.size + 1 := by simp [w1]
  have hr1 := range_below (range_new w #[.int .i64 0, .map none] 52) hb2 (by omega)
  have hr2 := range_new w1 #[.pointer none, .pointer (some ⟨w.heap.size, 0, none⟩)] 23
  have hs2 : w2.heap.size = w.heap.size + 2 := by simp [w2, hs1]
  refine ⟨hb1.trans (hb2.mono (by omega)), by omega, fun i hi => ?_⟩
  rcases (by omega : i = 0 ∨ i = 1) with rfl | rfl
  · refine ⟨.pointer none, ?_, .inl rfl⟩
    have := hr2 0 _ rfl
    rwa [hs1] at this
  · refine ⟨.pointer (some ⟨w.heap.size, 0, none⟩), ?_, .inr ⟨w.heap.size, rfl, by omega, ?_⟩⟩
    · have := hr2 1 _ rfl
      rwa [hs1] at this
    · exact hr1 0 _ rfl
set_option maxRecDepth 100000 in
set_option maxHeartbeats 2000000 in
theorem nobody_walk (x : Ac) (hx : x.ok) (w : World) : Calls Try.prog 5 #[.agg x.cells.toArray] w fun e w' => e = .returned (.bool true) ∧ Below w.heap.size w w' := by
  have hb0 := one_box (w := w) x.cells 33
  have hiD : (Try.prog.info? 29).map (·.size) = some (v8 x.x.d).length := by rw [v8_length, hx.x.dl]; exact iszD
  have hiT : (Try.prog.info? 31).map (·.size) = some (v8 x.x.t).length := by rw [v8_length, hx.x.tl]; exact iszT
  have cO := fun p (w : World) h => of_no p x.n w h
  have cA := fun p (w : World) h => add_no p x.n x.x.e (v8 x.x.d) (v8 x.x.t) w h
  have cS := fun p (w : World) h => signs_no x.x.e x.x.d hx.x.dl 1 p w h
  have pR : ∀ w' : World, w'.rangeAt w.heap.size 0 x.cells → w'.cell? ⟨w.heap.size, 0, none⟩ = some (.int .i64 x.n) ∧ w'.cell? ⟨w.heap.size, 1, none⟩ = some (.int .i64 x.x.e) ∧ w'.rangeAt w.heap.size 2 (v8 x.x.d) ∧ w'.rangeAt w.heap.size 34 (v8 x.x.t) := fun w' hr => by
    have := Ac.parts hx hr
    simpa using this
  have hbz := build_d0
  have hzz := zeroDg
  have hne := fun w' => neqD d0 d0 (by decide) (by decide) w'
  have hnn : (!(d0 == d0)) = false := by decide
  simp only [hnn] at hne
  have hz32 : (v8 d0).length = 32 := by decide
  have hz1 : (v8 d0).toArray.all (·.oneCell') = true := all_one (v8_one d0)
  obtain ⟨z, hz⟩ : ∃ z, Hid (v8 d0 = z) := ⟨_, hide rfl⟩
  simp only [hz.out] at cO hbz hzz hne hz1 hz32
  have hiz : (Try.prog.info? 29).map (·.size) = some z.length := by rw [hz32]; exact iszD
  have hiz' : (Try.prog.info? 29).map (·.size) = some z.toArray.size := by simpa using hiz
  obtain ⟨n, e, d, t0⟩ := x
  simp only at *
  obtain ⟨u, hu⟩ : ∃ u, Hid (v8 d = u) := ⟨_, hide rfl⟩
  obtain ⟨t, ht⟩ : ∃ g, Hid (v8 t0 = g) := ⟨_, hide rfl⟩
  obtain ⟨q, hq⟩ : ∃ q, Hid ((Ac.mk n ⟨e, d, t0⟩).cells = q) := ⟨_, hide rfl⟩
  simp only [hu.out, ht.out, hq.out] at cA cS pR hb0 hiD hiT ⊢
  clear hu ht hq hx hz hnn
  go_enter Try.func5, Try.ntmps5
  go_upto_region 1 with fail
  go_name_world w1 hw1
  rw [hw1] at hb0
  clear hw1
  obtain ⟨hB1, hR1, hsz1⟩ := hb0
  have nb := nobody_row w1
  go_wp2_with fail
  go_name_world w2 hw2
  rw [hw2] at nb
  clear hw2
  obtain ⟨hB2, hs2, hrow⟩ := nb
  have hb2 : Below w.heap.size w w2 := hB1.trans (hB2.mono (by omega))
  have hR2 := range_below hR1 hB2 (by omega)
  clear hB1 hB2 hR1
  go_loopw [11] (fun iv wr => ∃ i : Nat, i ≤ 2 ∧ iv = .int .i64 (i : Int) ∧ Hid (Below w2.heap.size w2 wr)) (fun iv _ => 2 - (intOf iv).toNat)
  case atStart => exact ⟨0, by omega, rfl, hide (Below.refl _ _)⟩
  case round =>
    obtain ⟨i, hi, rfl, HB⟩ := hrel
    have hB := HB.out
    clear HB
    by_cases hlt : i < 2
    · have hiI : (i : Int) < 2 := by omega
      obtain ⟨p, hc, hp⟩ := hrow i hlt
      have hc := (hB.cell (p := ⟨w1.heap.size + 1, i, none⟩) (by show w1.heap.size + 1 < w2.heap.size; omega)).trans hc
      have hp := hp.below hB
      have hR := range_below hR2 hB (by omega)
      have hbs := hB.size
      obtain ⟨r0, r1, r2, r3⟩ := pR wr hR
      go_upto_region 4 with fail
      try simp only [Act.put]
      refine pl_begin ?_
      refine pl_take (d := some 16) (v := ?_) (by rfl) ?_ rfl ?_
      rotate_left
      · go_simp
        try with_reducible rfl
      simp only [Act.put, List.setIfInBounds_toArray, List.set_cons_zero, List.set_cons_succ]
      refine pl_take (d := some 17) (v := ?_) (by rfl) ?_ rfl ?_
      rotate_left
      · go_simp
        try with_reducible rfl
      simp only [Act.put, List.setIfInBounds_toArray, List.set_cons_zero, List.set_cons_succ]
      refine pl_take (d := some 18) (v := .int .i64 n) (by rfl) (pl_one rfl rfl r0 Try.underlying3 rfl) rfl ?_
      simp only [Act.put, List.setIfInBounds_toArray, List.set_cons_zero, List.set_cons_succ]
      refine pl_call (d := some 19) (by rfl) (by go_simp; first | done | exact ⟨rfl, rfl⟩ | with_reducible rfl) rfl ?_
      refine (cO p wr hp).mono ?_
      rintro _ w3 ⟨rfl, hB3⟩
      refine ⟨_, rfl, ?_⟩
      simp only [Act.put, List.setIfInBounds_toArray, List.set_cons_zero, List.set_cons_succ]
      refine pl_take (d := some 15) (v := ?_) (by rfl) ?_ rfl ?_
      rotate_left
      · go_simp
        try with_reducible rfl
      simp only [Act.put, List.setIfInBounds_toArray, List.set_cons_zero, List.set_cons_succ]
      refine pl_take (d := some 20) (v := ?_) (by rfl) ?_ rfl ?_
      rotate_left
      · go_simp
        try with_reducible rfl
      simp only [Act.put, List.setIfInBounds_toArray, List.set_cons_zero, List.set_cons_succ]
      refine pl_take (d := some 21) (v := ?_) (by rfl) ?_ rfl ?_
      rotate_left
      · go_simp
        try with_reducible rfl
      simp only [Act.put, List.setIfInBounds_toArray, List.set_cons_zero, List.set_cons_succ]
      refine pl_run (d := some 6) (v := .pointer (some ⟨w3.heap.size, 0, none⟩)) (w' := w3.alloc (.cells z.toArray 29)) (by rfl) (ex_alloc rfl (hzz _)) rfl ?_
      simp only [Act.put, List.setIfInBounds_toArray, List.set_cons_zero, List.set_cons_succ]
      refine pl_take (d := some 5) (v := ?_) (by rfl) ?_ rfl ?_
      rotate_left
      · go_simp
        try with_reducible rfl
      simp only [Act.put, List.setIfInBounds_toArray, List.set_cons_zero, List.set_cons_succ]
      refine pl_store (w' := (w3.alloc (.cells z.toArray 29)).setCells w3.heap.size 0 z) (by rfl) (ex_put (cs := z.toArray) rfl rfl rfl (there_new w3 z.toArray _) hiz' hz1) rfl ?_
      refine pl_nil ?_
      have hp := hp.below hB3
      have hR := range_below hR hB3 (by omega)
      have hB := hB.trans (hB3.mono hbs)
      have hbs := hB.size
      obtain ⟨r0, r1, r2, r3⟩ := pR w3 hR
      obtain ⟨hz4, hB4, -, -⟩ := fresh_store w3 z.toArray 29 z (by simp)
      generalize (w3.alloc (.cells z.toArray 29)).setCells w3.heap.size 0 z = w4 at *
      have h34 : w3.heap.size < w4.heap.size := by
        rcases Nat.lt_or_ge w3.heap.size w4.heap.size with q | q
        · exact q
        · rcases z with _ | ⟨z0, z⟩
          · simp at hz32
          · have := hz4 0 _ rfl
            simp [World.cell?, q] at this
      have hp := hp.below hB4
      have hR := range_below hR hB4 (by omega)
      have hB := hB.trans (hB4.mono hbs)
      have hbs := hB.size
      obtain ⟨r0, r1, r2, r3⟩ := pR w4 hR
      go_upto_region 5 with fail
      try simp only [Act.put]
      refine pl_begin ?_
      refine pl_take (d := some 22) (v := ?_) (by rfl) ?_ rfl ?_
      rotate_left
      · go_simp
        try with_reducible rfl
      simp only [Act.put, List.setIfInBounds_toArray, List.set_cons_zero, List.set_cons_succ]
      refine pl_take (d := some 23) (v := ?_) (by rfl) ?_ rfl ?_
      rotate_left
      · go_simp
        try with_reducible rfl
      simp only [Act.put, List.setIfInBounds_toArray, List.set_cons_zero, List.set_cons_succ]
      refine pl_take (d := some 24) (v := .int .i64 n) (by rfl) (pl_one rfl rfl r0 Try.underlying3 rfl) rfl ?_
      simp only [Act.put, List.setIfInBounds_toArray, List.set_cons_zero, List.set_cons_succ]
      refine pl_take (d := some 25) (v := ?_) (by rfl) ?_ rfl ?_
      rotate_left
      · go_simp
        try with_reducible rfl
      simp only [Act.put, List.setIfInBounds_toArray, List.set_cons_zero, List.set_cons_succ]
      refine pl_take (d := some 26) (v := .int .i64 e) (by rfl) (pl_one rfl rfl r1 Try.underlying3 rfl) rfl ?_
      simp only [Act.put, List.setIfInBounds_toArray, List.set_cons_zero, List.set_cons_succ]
      refine pl_take (d := some 27) (v := ?_) (by rfl) ?_ rfl ?_
      rotate_left
      · go_simp
        try with_reducible rfl
      simp only [Act.put, List.setIfInBounds_toArray, List.set_cons_zero, List.set_cons_succ]
      refine pl_take (d := some 28) (v := .agg u.toArray) (by rfl) (ex_mid rfl rfl r2 Try.underlying29 rfl hiD) rfl ?_
      simp only [Act.put, List.setIfInBounds_toArray, List.set_cons_zero, List.set_cons_succ]
      refine pl_take (d := some 29) (v := ?_) (by rfl) ?_ rfl ?_
      rotate_left
      · go_simp
        try with_reducible rfl
      simp only [Act.put, List.setIfInBounds_toArray, List.set_cons_zero, List.set_cons_succ]
      refine pl_take (d := some 30) (v := .agg t.toArray) (by rfl) (ex_mid rfl rfl r3 Try.underlying31 rfl hiT) rfl ?_
      simp only [Act.put, List.setIfInBounds_toArray, List.set_cons_zero, List.set_cons_succ]
      refine pl_call (d := some 31) (by rfl) (by go_simp; first | done | exact ⟨rfl, rfl⟩ | with_reducible rfl) rfl ?_
      refine (cA p w4 hp).mono ?_
      rintro _ w5 ⟨rfl, hB5⟩
      refine ⟨_, rfl, ?_⟩
      simp only [Act.put, List.setIfInBounds_toArray, List.set_cons_zero, List.set_cons_succ]
      have hp := hp.below hB5
      have hR := range_below hR hB5 (by omega)
      have hB := hB.trans (hB5.mono hbs)
      have hbs := hB.size
      obtain ⟨r0, r1, r2, r3⟩ := pR w5 hR
      have hz5 := range_below hz4 hB5 (by omega)
      refine pl_take (d := some 32) (v := ?_) (by rfl) ?_ rfl ?_
      rotate_left
      · go_simp
        try with_reducible rfl
      simp only [Act.put, List.setIfInBounds_toArray, List.set_cons_zero, List.set_cons_succ]
      refine pl_take (d := some 33) (v := ?_) (by rfl) ?_ rfl ?_
      rotate_left
      · go_simp
        try with_reducible rfl
      simp only [Act.put, List.setIfInBounds_toArray, List.set_cons_zero, List.set_cons_succ]
      refine pl_take (d := some 34) (v := ?_) (by rfl) ?_ rfl ?_
      rotate_left
      · go_simp
        try with_reducible rfl
      simp only [Act.put, List.setIfInBounds_toArray, List.set_cons_zero, List.set_cons_succ]
      refine pl_take (d := some 35) (v := ?_) (by rfl) ?_ rfl ?_
      rotate_left
      · go_simp
        try with_reducible rfl
      simp only [Act.put, List.setIfInBounds_toArray, List.set_cons_zero, List.set_cons_succ]
      refine pl_take (d := some 36) (v := ?_) (by rfl) ?_ rfl ?_
      rotate_left
      · go_simp
        try with_reducible rfl
      simp only [Act.put, List.setIfInBounds_toArray, List.set_cons_zero, List.set_cons_succ]
      refine pl_take (d := some 37) (v := ?_) (by rfl) ?_ rfl ?_
      rotate_left
      · go_simp
        try with_reducible rfl
      simp only [Act.put, List.setIfInBounds_toArray, List.set_cons_zero, List.set_cons_succ]
      refine pl_take (d := some 38) (v := .agg z.toArray) (by rfl) (ex_mid rfl rfl hz5 Try.underlying29 rfl hiz) rfl ?_
      simp only [Act.put, List.setIfInBounds_toArray, List.set_cons_zero, List.set_cons_succ]
      refine pl_take (d := some 39) (v := .agg z.toArray) (by rfl) (ex_build (parts := []) rfl rfl (hbz w5)) rfl ?_
      simp only [Act.put, List.setIfInBounds_toArray, List.set_cons_zero, List.set_cons_succ]
      refine pl_take (d := some 40) (v := .bool false) (by rfl) (ex_bin rfl rfl rfl (by kernel_rfl) (hne w5)) rfl ?_
      simp only [Act.put, List.setIfInBounds_toArray, List.set_cons_zero, List.set_cons_succ]
      refine pl_take (d := some 41) (v := ?_) (by rfl) ?_ rfl ?_
      rotate_left
      · go_simp
        try with_reducible rfl
      simp only [Act.put, List.setIfInBounds_toArray, List.set_cons_zero, List.set_cons_succ]
      refine pl_take (d := some 42) (v := ?_) (by rfl) ?_ rfl ?_
      rotate_left
      · go_simp
        try with_reducible rfl
      simp only [Act.put, List.setIfInBounds_toArray, List.set_cons_zero, List.set_cons_succ]
      refine pl_take (d := some 43) (v := ?_) (by rfl) ?_ rfl ?_
      rotate_left
      · go_simp
        try with_reducible rfl
      simp only [Act.put, List.setIfInBounds_toArray, List.set_cons_zero, List.set_cons_succ]
      refine pl_take (d := some 44) (v := ?_) (by rfl) ?_ rfl ?_
      rotate_left
      · go_simp
        try with_reducible rfl
      simp only [Act.put, List.setIfInBounds_toArray, List.set_cons_zero, List.set_cons_succ]
      refine pl_take (d := some 45) (v := .int .i64 e) (by rfl) (pl_one rfl rfl r1 Try.underlying3 rfl) rfl ?_
      simp only [Act.put, List.setIfInBounds_toArray, List.set_cons_zero, List.set_cons_succ]
      refine pl_take (d := some 46) (v := ?_) (by rfl) ?_ rfl ?_
      rotate_left
      · go_simp
        try with_reducible rfl
      simp only [Act.put, List.setIfInBounds_toArray, List.set_cons_zero, List.set_cons_succ]
      refine pl_take (d := some 47) (v := .agg u.toArray) (by rfl) (ex_mid rfl rfl r2 Try.underlying29 rfl hiD) rfl ?_
      simp only [Act.put, List.setIfInBounds_toArray, List.set_cons_zero, List.set_cons_succ]
      refine pl_call (d := some 48) (by rfl) (by go_simp; first | done | exact ⟨rfl, rfl⟩ | with_reducible rfl) rfl ?_
      refine (cS p w5 hp).mono ?_
      rintro _ w6 ⟨rfl, hB6⟩
      refine ⟨_, rfl, ?_⟩
      simp only [Act.put, List.setIfInBounds_toArray, List.set_cons_zero, List.set_cons_succ]
      have hp := hp.below hB6
      have hR := range_below hR hB6 (by omega)
      have hB := hB.trans (hB6.mono hbs)
      have hbs := hB.size
      obtain ⟨r0, r1, r2, r3⟩ := pR w6 hR
      refine pl_take (d := some 49) (v := ?_) (by rfl) ?_ rfl ?_
      rotate_left
      · go_simp
        try with_reducible rfl
      simp only [Act.put, List.setIfInBounds_toArray, List.set_cons_zero, List.set_cons_succ]
      refine pl_take (d := some 50) (v := ?_) (by rfl) ?_ rfl ?_
      rotate_left
      · go_simp
        try with_reducible rfl
      simp only [Act.put, List.setIfInBounds_toArray, List.set_cons_zero, List.set_cons_succ]
      refine pl_take (d := some 51) (v := ?_) (by rfl) ?_ rfl ?_
      rotate_left
      · go_simp
        try with_reducible rfl
      simp only [Act.put, List.setIfInBounds_toArray, List.set_cons_zero, List.set_cons_succ]
      refine pl_take (d := some 52) (v := ?_) (by rfl) ?_ rfl ?_
      rotate_left
      · go_simp
        try with_reducible rfl
      simp only [Act.put, List.setIfInBounds_toArray, List.set_cons_zero, List.set_cons_succ]
      refine pl_take (d := some 53) (v := ?_) (by rfl) ?_ rfl ?_
      rotate_left
      · go_simp
        try with_reducible rfl
      simp only [Act.put, List.setIfInBounds_toArray, List.set_cons_zero, List.set_cons_succ]
      refine pl_call (d := some 54) (by rfl) (by go_simp; first | done | exact ⟨rfl, rfl⟩ | with_reducible rfl) rfl ?_
      refine (last_no p 1 w6 hp).mono ?_
      rintro _ w7 ⟨rfl, hB7⟩
      refine ⟨_, rfl, ?_⟩
      simp only [Act.put, List.setIfInBounds_toArray, List.set_cons_zero, List.set_cons_succ]
      have hp := hp.below hB7
      have hR := range_below hR hB7 (by omega)
      have hB := hB.trans (hB7.mono hbs)
      have hbs := hB.size
      obtain ⟨r0, r1, r2, r3⟩ := pR w7 hR
      refine pl_take (d := some 55) (v := ?_) (by rfl) ?_ rfl ?_
      rotate_left
      · go_simp
        try with_reducible rfl
      simp only [Act.put, List.setIfInBounds_toArray, List.set_cons_zero, List.set_cons_succ]
      refine pl_take (d := some 56) (v := ?_) (by rfl) ?_ rfl ?_
      rotate_left
      · go_simp
        try with_reducible rfl
      simp only [Act.put, List.setIfInBounds_toArray, List.set_cons_zero, List.set_cons_succ]
      refine pl_nil ?_
      have HB := hide hB
      clear hB cO cA cS
      go_wp2_with fail
      go_roundw
      case rel => exact ⟨i + 1, by omega, by go_num, HB⟩
      case measure => simp [intOf]; omega
    · obtain rfl : i = 2 := by omega
      have cL := lives_any wr
      have hbw := hb2.trans (hB.mono hb2.size)
      go_wp2_with fail
      refine cL.mono ?_
      rintro _ wl ⟨rfl, hBl⟩
      go_wp2_with fail
      go_ret
      exact ⟨rfl, hbw.trans (hBl.mono hbw.size)⟩
end Go.Proofs.Ytfaagiilldkdgaa
