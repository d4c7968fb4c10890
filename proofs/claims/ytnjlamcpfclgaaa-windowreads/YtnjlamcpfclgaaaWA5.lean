/- The document's Done, Ask, Count, Mark of windows: contracts. -/
import Derived.Test.YtnjlamcpfclgaaaWA4
namespace Go.Proofs.Ytnjlamcpfclgaaa
open Go.RowKit
set_option maxHeartbeats 1000000 in
theorem refDoneW_any (B : Int) (m : Nat) (hm : m < 2 ^ 64) (n : Int) (hn : n ≤ 9223372036854775807) (w : World) : Calls Try.prog 14 #[winV B (m : Int), .int .i64 n] w fun e w' => e = .returned (.bool (doneW B m n)) ∧ Below w.heap.size w w' := by
  have c1 := refGoodW_any B m hm
  cases hg : goodW B m
  · rw [hg] at c1
    have HD : Hid (doneW B m n = false) := by show _ = _; unfold doneW; rw [hg]; rfl
    rw [HD.out]
    clear hm HD hg
    go_enter Try.func14, Try.ntmps14
    go_wp2_with fail
    refine (c1 _).mono ?_
    rintro e w1 ⟨rfl, hb⟩
    clear c1
    obtain ⟨hA, hB1, hz⟩ := one_box hb
    clear hb
    go_wp2_with fail
    go_ret
    exact ⟨rfl, hB1⟩
  · rw [hg] at c1
    have hb12 := good_B hg
    have HD : Hid (doneW B m n = (decide (1 ≤ n) && (decide (n < B) || hasN m (n - B)))) := by show _ = _; unfold doneW inW; rw [hg]; rfl
    rw [HD.out]
    have c2 := refHas_any m hm (n - B)
    generalize hasN m (n - B) = r at *
    clear hm HD hg
    by_cases h1 : n < 1
    · rw [decide_eq_false (by omega : ¬ 1 ≤ n), Bool.false_and]
      go_enter Try.func14, Try.ntmps14
      go_wp2_with fail
      refine (c1 _).mono ?_
      rintro e w1 ⟨rfl, hb⟩
      clear c1 c2
      obtain ⟨hA, hB1, hz⟩ := one_box hb
      clear hb
      go_wp2_with fail
      go_ret
      exact ⟨rfl, hB1⟩
    · rw [decide_eq_true (by omega : 1 ≤ n), Bool.true_and]
      by_cases h2 : n < B
      · rw [decide_eq_true h2, Bool.true_or]
        go_enter Try.func14, Try.ntmps14
        go_wp2_with fail
        refine (c1 _).mono ?_
        rintro e w1 ⟨rfl, hb⟩
        clear c1 c2
        obtain ⟨hA, hB1, hz⟩ := one_box hb
        clear hb
        have q0 : w1.cell? ⟨w.heap.size, 0, none⟩ = some (.int .i64 B) := hA 0 _ rfl
        have q1 : w1.cell? ⟨w.heap.size, 1, none⟩ = some (.int .u64 (m : Int)) := hA 1 _ rfl
        go_wp2_with fail
        go_ret
        exact ⟨rfl, hB1⟩
      · rw [decide_eq_false h2, Bool.false_or]
        go_enter Try.func14, Try.ntmps14
        go_wp2_with fail
        refine (c1 _).mono ?_
        rintro e w1 ⟨rfl, hb⟩
        clear c1
        obtain ⟨hA, hB1, hz⟩ := one_box hb
        clear hb
        have q0 : w1.cell? ⟨w.heap.size, 0, none⟩ = some (.int .i64 B) := hA 0 _ rfl
        have q1 : w1.cell? ⟨w.heap.size, 1, none⟩ = some (.int .u64 (m : Int)) := hA 1 _ rfl
        go_wp2_with (go_at_call 36; refine (c2 _).mono ?_; rintro e w2 ⟨rfl, hx⟩; obtain rfl := hx.symm; clear hx)
        go_ret
        exact ⟨ret_bool (by first | rfl | rw [decide_eq_false (by omega : ¬ n < B), Bool.false_or]), hB1⟩
set_option maxHeartbeats 1000000 in
theorem refAskW_any (B : Int) (m : Nat) (hm : m < 2 ^ 64) (s n : Int) (hn : n ≤ 9223372036854775807) (w : World) : Calls Try.prog 18 #[winV B (m : Int), .int .i64 s, .int .i64 n] w fun e w' => e = .returned (.int .i64 (askW B m s n)) ∧ Below w.heap.size w w' := by
  have c1 := refGoodW_any B m hm
  cases hg : goodW B m
  · rw [hg] at c1
    have HD : Hid (askW B m s n = 2) := by show _ = _; unfold askW; rw [if_neg (by rw [hg]; simp)]
    rw [HD.out]
    clear hm HD hg
    go_enter Try.func18, Try.ntmps18
    go_wp2_with fail
    refine (c1 _).mono ?_
    rintro e w1 ⟨rfl, hb⟩
    clear c1
    obtain ⟨hA, hB1, hz⟩ := one_box hb
    clear hb
    go_wp2_with fail
    go_ret
    exact ⟨rfl, hB1⟩
  · rw [hg] at c1
    have hb12 := good_B hg
    by_cases a0 : s < 1
    · have HD : Hid (askW B m s n = 2) := by show _ = _; unfold askW; rw [if_neg (by omega)]
      rw [HD.out]
      clear hm HD hg
      go_enter Try.func18, Try.ntmps18
      go_wp2_with fail
      refine (c1 _).mono ?_
      rintro e w1 ⟨rfl, hb⟩
      clear c1
      obtain ⟨hA, hB1, hz⟩ := one_box hb
      clear hb
      go_wp2_with fail
      go_ret
      exact ⟨rfl, hB1⟩
    by_cases a1 : 64 < s
    · have HD : Hid (askW B m s n = 2) := by show _ = _; unfold askW; rw [if_neg (by omega)]
      rw [HD.out]
      clear hm HD hg
      go_enter Try.func18, Try.ntmps18
      go_wp2_with fail
      refine (c1 _).mono ?_
      rintro e w1 ⟨rfl, hb⟩
      clear c1
      obtain ⟨hA, hB1, hz⟩ := one_box hb
      clear hb
      go_wp2_with fail
      go_ret
      exact ⟨rfl, hB1⟩
    by_cases a2 : n < 1
    · have HD : Hid (askW B m s n = 2) := by show _ = _; unfold askW; rw [if_neg (by omega)]
      rw [HD.out]
      clear hm HD hg
      go_enter Try.func18, Try.ntmps18
      go_wp2_with fail
      refine (c1 _).mono ?_
      rintro e w1 ⟨rfl, hb⟩
      clear c1
      obtain ⟨hA, hB1, hz⟩ := one_box hb
      clear hb
      go_wp2_with fail
      go_ret
      exact ⟨rfl, hB1⟩
    by_cases a3 : 1099511627776 < n
    · have HD : Hid (askW B m s n = 2) := by show _ = _; unfold askW; rw [if_neg (by omega)]
      rw [HD.out]
      clear hm HD hg
      go_enter Try.func18, Try.ntmps18
      go_wp2_with fail
      refine (c1 _).mono ?_
      rintro e w1 ⟨rfl, hb⟩
      clear c1
      obtain ⟨hA, hB1, hz⟩ := one_box hb
      clear hb
      go_wp2_with fail
      go_ret
      exact ⟨rfl, hB1⟩
    have HA : Hid (askW B m s n = (if doneW B m n then 90 else if s ≤ n - B then 91 else 0)) := by show _ = _; unfold askW; rw [if_pos ⟨hg, by omega, by omega, by omega, by omega⟩]
    rw [HA.out]
    have c2 := refDoneW_any B m hm n (by omega)
    clear HA
    cases hd : doneW B m n
    · rw [hd] at c2
      have hnB : B ≤ n ∨ n < B := by omega
      by_cases h5 : s ≤ n - B
      · have HD : Hid ((if false = true then (90 : Int) else if s ≤ n - B then 91 else 0) = 91) := by show _ = _; rw [if_neg (by decide), if_pos h5]
        rw [HD.out]
        clear hm HD hg hd
        go_enter Try.func18, Try.ntmps18
        go_wp2_with fail
        refine (c1 _).mono ?_
        rintro e w1 ⟨rfl, hb⟩
        clear c1
        obtain ⟨hA, hB1, hz⟩ := one_box hb
        clear hb
        have q0 : w1.cell? ⟨w.heap.size, 0, none⟩ = some (.int .i64 B) := hA 0 _ rfl
        have q1 : w1.cell? ⟨w.heap.size, 1, none⟩ = some (.int .u64 (m : Int)) := hA 1 _ rfl
        go_wp2_with fail
        refine (c2 _).mono ?_
        rintro e w2 ⟨rfl, hb2⟩
        clear c2 q0 q1
        have hA2 := range_below hA hb2 hz
        have hB2 := hB1.trans (hb2.mono hB1.size)
        clear hA hB1 hz hb2
        have q0 : w2.cell? ⟨w.heap.size, 0, none⟩ = some (.int .i64 B) := hA2 0 _ rfl
        go_wp2_with fail
        go_ret
        exact ⟨rfl, hB2⟩
      · have HD : Hid ((if false = true then (90 : Int) else if s ≤ n - B then 91 else 0) = 0) := by show _ = _; rw [if_neg (by decide), if_neg h5]
        rw [HD.out]
        clear hm HD hg hd
        go_enter Try.func18, Try.ntmps18
        go_wp2_with fail
        refine (c1 _).mono ?_
        rintro e w1 ⟨rfl, hb⟩
        clear c1
        obtain ⟨hA, hB1, hz⟩ := one_box hb
        clear hb
        have q0 : w1.cell? ⟨w.heap.size, 0, none⟩ = some (.int .i64 B) := hA 0 _ rfl
        have q1 : w1.cell? ⟨w.heap.size, 1, none⟩ = some (.int .u64 (m : Int)) := hA 1 _ rfl
        go_wp2_with fail
        refine (c2 _).mono ?_
        rintro e w2 ⟨rfl, hb2⟩
        clear c2 q0 q1
        have hA2 := range_below hA hb2 hz
        have hB2 := hB1.trans (hb2.mono hB1.size)
        clear hA hB1 hz hb2
        have q0 : w2.cell? ⟨w.heap.size, 0, none⟩ = some (.int .i64 B) := hA2 0 _ rfl
        go_wp2_with fail
        go_ret
        exact ⟨rfl, hB2⟩
    · rw [hd] at c2
      rw [if_pos rfl]
      clear hm hg hd
      go_enter Try.func18, Try.ntmps18
      go_wp2_with fail
      refine (c1 _).mono ?_
      rintro e w1 ⟨rfl, hb⟩
      clear c1
      obtain ⟨hA, hB1, hz⟩ := one_box hb
      clear hb
      have q0 : w1.cell? ⟨w.heap.size, 0, none⟩ = some (.int .i64 B) := hA 0 _ rfl
      have q1 : w1.cell? ⟨w.heap.size, 1, none⟩ = some (.int .u64 (m : Int)) := hA 1 _ rfl
      go_wp2_with fail
      refine (c2 _).mono ?_
      rintro e w2 ⟨rfl, hb2⟩
      clear c2
      have hB2 := hB1.trans (hb2.mono hB1.size)
      go_wp2_with fail
      go_ret
      exact ⟨rfl, hB2⟩
set_option maxHeartbeats 1000000 in
theorem refCountW_any (B : Int) (m : Nat) (hm : m < 2 ^ 64) (w : World) : Calls Try.prog 16 #[winV B (m : Int)] w fun e w' => e = .returned (.int .i64 (countW B m)) ∧ Below w.heap.size w w' := by
  have c1 := refGoodW_any B m hm
  cases hg : goodW B m
  · rw [hg] at c1
    have HD : Hid (countW B m = 0) := by show _ = _; unfold countW; rw [hg]; rfl
    rw [HD.out]
    clear hm HD hg
    go_enter Try.func16, Try.ntmps16
    go_wp2_with fail
    refine (c1 _).mono ?_
    rintro e w1 ⟨rfl, hb⟩
    clear c1
    obtain ⟨hA, hB1, hz⟩ := one_box hb
    clear hb
    go_wp2_with fail
    go_ret
    exact ⟨rfl, hB1⟩
  · rw [hg] at c1
    have hb12 := good_B hg
    have HD : Hid (countW B m = B - 1 + ((setN m).length : Int)) := by show _ = _; unfold countW; rw [hg]; rfl
    rw [HD.out]
    have c2 := refList_any m hm
    have hl := setUp_len m 64
    have hl2 : (setN m).length ≤ 64 := hl
    clear hl
    obtain ⟨vs, hvs⟩ : ∃ vs, vals (setN m) = vs := ⟨_, rfl⟩
    rw [hvs] at c2
    clear hvs
    generalize (setN m).length = K at *
    clear hm HD hg
    go_enter Try.func16, Try.ntmps16
    go_wp2_with fail
    refine (c1 _).mono ?_
    rintro e w1 ⟨rfl, hb⟩
    clear c1
    obtain ⟨hA, hB1, hz⟩ := one_box hb
    clear hb
    go_wp2_with fail
    obtain ⟨w8, hw8⟩ : ∃ w8, w1.drew = w8 := ⟨_, rfl⟩
    refine hs_begin (S := (fun W => W.rangeAt w.heap.size 0 (winC B (m : Int)))) 9 rfl (by kernel_rfl) ?_
    have hS : (w8).rangeAt w.heap.size 0 (winC B (m : Int)) := by rw [← hw8]; exact hA
    have hB8 : Below w.heap.size w w8 := by rw [← hw8]; exact (Below.drew hB1)
    have hz8 : w.heap.size < w8.heap.size := by rw [← hw8]; exact hz
    rw [hw8]
    clear hA hB1 hz
    refine hs_take (i := 0) (d := some 6) (v := ?_) rfl (by kernel_rfl) (by kernel_rfl) (by kernel_rfl) (by rfl) ?_ hS rfl ?_
    rotate_left
    · intro w' hw
      go_simp
      try with_reducible rfl
    simp only [Act.put, List.setIfInBounds_toArray, List.set_cons_zero, List.set_cons_succ]
    refine hs_take (i := 1) (d := some 7) (v := ?_) rfl (by kernel_rfl) (by kernel_rfl) (by kernel_rfl) (by rfl) ?_ hS rfl ?_
    rotate_left
    · intro w' hw
      have q0 : w'.cell? ⟨w.heap.size, 0, none⟩ = some (.int .i64 B) := hw 0 _ rfl; have q1 : w'.cell? ⟨w.heap.size, 1, none⟩ = some (.int .u64 (m : Int)) := hw 1 _ rfl
      go_simp
      try with_reducible rfl
    simp only [Act.put, List.setIfInBounds_toArray, List.set_cons_zero, List.set_cons_succ]
    refine hs_take (i := 2) (d := some 8) (v := .int .i64 (B - 1)) rfl (by kernel_rfl) (by kernel_rfl) (by kernel_rfl) (by rfl) (fun w' hw => by go_simp; exact wrap_id _ (by omega) (by omega)) hS rfl ?_
    simp only [Act.put, List.setIfInBounds_toArray, List.set_cons_zero, List.set_cons_succ]
    refine hs_take (i := 3) (d := some 9) (v := ?_) rfl (by kernel_rfl) (by kernel_rfl) (by kernel_rfl) (by rfl) ?_ hS rfl ?_
    rotate_left
    · intro w' hw
      go_simp
      try with_reducible rfl
    simp only [Act.put, List.setIfInBounds_toArray, List.set_cons_zero, List.set_cons_succ]
    refine hs_take (i := 4) (d := some 10) (v := ?_) rfl (by kernel_rfl) (by kernel_rfl) (by kernel_rfl) (by rfl) ?_ hS rfl ?_
    rotate_left
    · intro w' hw
      have q0 : w'.cell? ⟨w.heap.size, 0, none⟩ = some (.int .i64 B) := hw 0 _ rfl; have q1 : w'.cell? ⟨w.heap.size, 1, none⟩ = some (.int .u64 (m : Int)) := hw 1 _ rfl
      go_simp
      try with_reducible rfl
    simp only [Act.put, List.setIfInBounds_toArray, List.set_cons_zero, List.set_cons_succ]
    refine hs_call (i := 5) (d := some 11) rfl (by kernel_rfl) (by rfl) (by go_simp; first | done | exact ⟨rfl, rfl⟩ | with_reducible rfl) rfl ?_
    refine (c2 w8).mono ?_
    rintro e' w9 ⟨v, rfl, hrow, hw9⟩
    have hS : (fun W => W.rangeAt w.heap.size 0 (winC B (m : Int))) w9 := range_below hS hw9 hz8
    refine ⟨_, rfl, hS, ?_⟩
    simp only [Act.put, List.setIfInBounds_toArray, List.set_cons_zero, List.set_cons_succ]
    have hB9 := hB8.trans (hw9.mono hB8.size)
    obtain ⟨va, vcap, rfl⟩ := ownsRow_slice hrow
    clear c2
    refine hs_take (i := 6) (d := some 12) (v := .int .i64 (K : Int)) rfl (by kernel_rfl) (by kernel_rfl) (by kernel_rfl) (by rfl) (fun w' hw => by go_simp) hS rfl ?_
    simp only [Act.put, List.setIfInBounds_toArray, List.set_cons_zero, List.set_cons_succ]
    refine hs_take (i := 7) (d := some 13) (v := .int .i64 (B - 1 + (K : Int))) rfl (by kernel_rfl) (by kernel_rfl) (by kernel_rfl) (by rfl) (fun w' hw => by go_simp; exact wrap_id _ (by omega) (by omega)) hS rfl ?_
    simp only [Act.put, List.setIfInBounds_toArray, List.set_cons_zero, List.set_cons_succ]
    refine hs_take (i := 8) (d := some 2) (v := ?_) rfl (by kernel_rfl) (by kernel_rfl) (by kernel_rfl) (by rfl) ?_ hS rfl ?_
    rotate_left
    · intro w' hw
      go_simp
      try with_reducible rfl
    simp only [Act.put, List.setIfInBounds_toArray, List.set_cons_zero, List.set_cons_succ]
    refine hs_done (by kernel_rfl) ?_
    go_wp2_with fail
    go_ret
    exact ⟨rfl, hB9⟩
set_option maxHeartbeats 1000000 in
theorem refMarkW_any (B : Int) (m : Nat) (hm : m < 2 ^ 64) (n : Int) (hn : n ≤ 9223372036854775807) (w : World) : Calls Try.prog 9 #[winV B (m : Int), .int .i64 n] w fun e w' => e = .returned (.tuple #[winV (markB B m n) (markM B m n : Int), .int .i64 (askW B m 64 n)]) ∧ Below w.heap.size w w' := by
  have c1 := refAskW_any B m hm 64 n hn
  by_cases he : askW B m 64 n = 0
  · have HB : Hid (markB B m n = setB B (mkM B m n)) := by show _ = _; unfold markB; rw [if_pos he]
    have HM : Hid (markM B m n = setM (mkM B m n)) := by show _ = _; unfold markM; rw [if_pos he]
    have hgd := ask_ok he
    have hb12 := good_B hgd.1
    have hnn := hgd.2.1
    have hnn2 := hgd.2.2.1
    rw [HB.out, HM.out]
    have c2 := refWith_any m hm (n - B)
    have HW : Hid (mkM B m n = withN m (n - B)) := rfl
    rw [← HW.out] at c2
    have hm2 : mkM B m n < 2 ^ 64 := withN_lt hm _
    have c3 := refOnes_any (mkM B m n) hm2
    have c4 := refDown_any (mkM B m n) hm2 (onesN (mkM B m n) : Int)
    have hL := ones_le (mkM B m n)
    have HB4 : Hid (B + (onesN (mkM B m n) : Int) = setB B (mkM B m n)) := rfl
    have HM4 : Hid (downN (mkM B m n) (onesN (mkM B m n) : Int) = setM (mkM B m n)) := rfl
    rw [HM4.out] at c4
    generalize mkM B m n = m2 at *
    generalize setM m2 = m3 at *
    generalize onesN m2 = L at *
    generalize setB B m2 = B3 at *
    rw [he] at c1
    rw [he]
    clear hm HB HM HW hgd he hm2 HM4
    go_enter Try.func9, Try.ntmps9
    go_wp2_with fail
    refine (c1 _).mono ?_
    rintro e w1 ⟨rfl, hb⟩
    clear c1
    obtain ⟨hA, hT, hB1, hz⟩ := two_box hb
    clear hb
    have q0 : w1.cell? ⟨w.heap.size, 0, none⟩ = some (.int .i64 B) := hA 0 _ rfl
    have q1 : w1.cell? ⟨w.heap.size, 1, none⟩ = some (.int .u64 (m : Int)) := hA 1 _ rfl
    go_wp2_with (go_at_call 32; refine (c2 _).mono ?_; rintro e w2 ⟨rfl, hx⟩; obtain rfl := hx.symm; clear hx)
    refine (c3 _).mono ?_
    rintro e w3 ⟨rfl, hb3⟩
    clear c3 c2 q0 q1
    have hA3 := range_below hA hb3 (by omega)
    have hT3 := there_below hT hb3 (by omega)
    have hB3' := hB1.trans (hb3.mono hB1.size)
    have hz3 : w.heap.size + 2 ≤ w3.heap.size := by have := hb3.size; omega
    clear hA hT hB1 hb3
    go_wp2_with fail
    obtain ⟨w8, hw8⟩ : ∃ w8, w3.drew = w8 := ⟨_, rfl⟩
    refine hs_begin (S := (fun W => W.rangeAt w.heap.size 0 (winC B (m : Int)) ∧ W.there (w.heap.size + 1) 0 2)) 10 rfl (by kernel_rfl) ?_
    have hS : (fun W => W.rangeAt w.heap.size 0 (winC B (m : Int)) ∧ W.there (w.heap.size + 1) 0 2) w8 := by rw [← hw8]; exact ⟨hA3, hT3⟩
    have hB8 : Below w.heap.size w w8 := by rw [← hw8]; exact hB3'.drew
    have hz8 : w.heap.size + 2 ≤ w8.heap.size := by rw [← hw8]; exact hz3
    rw [hw8]
    clear hA3 hT3 hB3' hz3
    refine hs_take (i := 0) (d := some 25) (v := ?_) rfl (by kernel_rfl) (by kernel_rfl) (by kernel_rfl) (by rfl) ?_ hS rfl ?_
    rotate_left
    · intro w' hw
      go_simp
      try with_reducible rfl
    simp only [Act.put, List.setIfInBounds_toArray, List.set_cons_zero, List.set_cons_succ]
    refine hs_take (i := 1) (d := some 26) (v := ?_) rfl (by kernel_rfl) (by kernel_rfl) (by kernel_rfl) (by rfl) ?_ hS rfl ?_
    rotate_left
    · intro w' hw
      have q0 : w'.cell? ⟨w.heap.size, 0, none⟩ = some (.int .i64 B) := hw.1 0 _ rfl
      go_simp
      try with_reducible rfl
    simp only [Act.put, List.setIfInBounds_toArray, List.set_cons_zero, List.set_cons_succ]
    refine hs_take (i := 2) (d := some 27) (v := ?_) rfl (by kernel_rfl) (by kernel_rfl) (by kernel_rfl) (by rfl) ?_ hS rfl ?_
    rotate_left
    · intro w' hw
      go_simp
      try with_reducible rfl
    simp only [Act.put, List.setIfInBounds_toArray, List.set_cons_zero, List.set_cons_succ]
    refine hs_take (i := 3) (d := some 28) (v := .int .i64 (B + (L : Int))) rfl (by kernel_rfl) (by kernel_rfl) (by kernel_rfl) (by rfl) (fun w' hw => by go_simp; exact wrap_id _ (by omega) (by omega)) hS rfl ?_
    simp only [Act.put, List.setIfInBounds_toArray, List.set_cons_zero, List.set_cons_succ]
    refine hs_take (i := 4) (d := some 29) (v := ?_) rfl (by kernel_rfl) (by kernel_rfl) (by kernel_rfl) (by rfl) ?_ hS rfl ?_
    rotate_left
    · intro w' hw
      go_simp
      try with_reducible rfl
    simp only [Act.put, List.setIfInBounds_toArray, List.set_cons_zero, List.set_cons_succ]
    refine hs_take (i := 5) (d := some 30) (v := ?_) rfl (by kernel_rfl) (by kernel_rfl) (by kernel_rfl) (by rfl) ?_ hS rfl ?_
    rotate_left
    · intro w' hw
      go_simp
      try with_reducible rfl
    simp only [Act.put, List.setIfInBounds_toArray, List.set_cons_zero, List.set_cons_succ]
    refine hs_call (i := 6) (d := some 31) rfl (by kernel_rfl) (by rfl) (by go_simp; first | done | exact ⟨rfl, rfl⟩ | with_reducible rfl) rfl ?_
    refine (c4 w8).mono ?_
    rintro e' w9 ⟨rfl, hw9⟩
    have hS : (fun W => W.rangeAt w.heap.size 0 (winC B (m : Int)) ∧ W.there (w.heap.size + 1) 0 2) w9 := ⟨range_below hS.1 hw9 (by omega), there_below hS.2 hw9 (by omega)⟩
    refine ⟨_, rfl, hS, ?_⟩
    simp only [Act.put, List.setIfInBounds_toArray, List.set_cons_zero, List.set_cons_succ]
    have hB9 := hB8.trans (hw9.mono hB8.size)
    refine hs_take (i := 7) (d := some 32) (v := ?_) rfl (by kernel_rfl) (by kernel_rfl) (by kernel_rfl) (by rfl) ?_ hS rfl ?_
    rotate_left
    · intro w' hw
      go_simp
      try with_reducible rfl
    simp only [Act.put, List.setIfInBounds_toArray, List.set_cons_zero, List.set_cons_succ]
    have hk : (fun W => W.rangeAt w.heap.size 0 (winC B (m : Int)) ∧ W.there (w.heap.size + 1) 0 2) (w9.setCells (w.heap.size + 1) 0 (winC (B + (L : Int)) (m3 : Int))) := ⟨win_apart hS.1 (by omega), World.there_setCells hS.2 _ _ _⟩
    have hT9 := hS.2
    refine hs_store (i := 8) (w' := w9.setCells (w.heap.size + 1) 0 (winC (B + (L : Int)) (m3 : Int))) rfl (by kernel_rfl) (by rfl) (exec_store rfl rfl rfl (win_store hT9)) rfl hk ?_
    have hS := hk
    refine hs_take (i := 9) (d := some 5) (v := ?_) rfl (by kernel_rfl) (by kernel_rfl) (by kernel_rfl) (by rfl) ?_ hS rfl ?_
    rotate_left
    · intro w' hw
      go_simp
      try with_reducible rfl
    simp only [Act.put, List.setIfInBounds_toArray, List.set_cons_zero, List.set_cons_succ]
    refine hs_done (by kernel_rfl) ?_
    have hrs := win_load (win_set (B := B + (L : Int)) (m := (m3 : Int)) hT9)
    go_wp2_with fail
    exact bodyPost_ret (v := .tuple #[winV (B + (L : Int)) (m3 : Int), .int .i64 0]) (by simp [results, Try.results9, asAddr, hrs]) rfl ⟨by rw [HB4.out], below_sets (by omega) _ 0 _ hB9⟩
  · have HB : Hid (markB B m n = 0) := by show _ = _; unfold markB; rw [if_neg he]
    have HM : Hid (markM B m n = 0) := by show _ = _; unfold markM; rw [if_neg he]
    rw [HB.out, HM.out]
    generalize askW B m 64 n = er at *
    clear hm HB HM
    go_enter Try.func9, Try.ntmps9
    go_wp2_with fail
    refine (c1 _).mono ?_
    rintro e w1 ⟨rfl, hb⟩
    clear c1
    obtain ⟨hA, hT3, hB3, hz⟩ := two_box hb
    clear hb
    have hrs := win_load (win_set (B := 0) (m := 0) hT3)
    go_wp2_with (refine wpList_store_mid (op := ⟨none, .store 24 (.tmp 4) (.tmp 14), _, _, _, none⟩) rfl 24 _ _ rfl _ _ #[.int .i64 0, .int .u64 0] rfl rfl hT3 infoW (two_cells _ _) ?_)
    exact bodyPost_ret (v := .tuple #[winV 0 0, .int .i64 er]) (by simp [results, Try.results9, asAddr, hrs]) rfl ⟨rfl, below_sets (by omega) _ 0 _ hB3⟩
end Go.Proofs.Ytnjlamcpfclgaaa
