/- window.Done, Count, Ask, Mark: contracts. -/
import Derived.Test.YtnjlamcpfclgaaaWA1
namespace Go.Proofs.Ytnjlamcpfclgaaa
open Go.RowKit
theorem good_B {B : Int} {m : Nat} (h : goodW B m = true) : 1 ≤ B ∧ B ≤ 1099511627777 := (good_iff.1 h).1
def markB (B : Int) (m : Nat) (n : Int) : Int := if askW B m 64 n = 0 then setB B (mkM B m n) else 0
def markM (B : Int) (m : Nat) (n : Int) : Nat := if askW B m 64 n = 0 then setM (mkM B m n) else 0
theorem markM_lt {B : Int} {m : Nat} (hm : m < 2 ^ 64) (n : Int) : markM B m n < 2 ^ 64 := by
  unfold markM
  split
  · exact setM_lt (withN_lt hm _)
  · decide
set_option maxHeartbeats 1000000 in
theorem done_any (B : Int) (m : Nat) (hm : m < 2 ^ 64) (n : Int) (hn : n ≤ 9223372036854775807) (w : World) : Calls Try.prog 13 #[winV B (m : Int), .int .i64 n] w fun e w' => e = .returned (.bool (doneW B m n)) ∧ Below w.heap.size w w' := by
  have c1 := good_any B m hm
  cases hg : goodW B m
  · rw [hg] at c1
    have HD : Hid (doneW B m n = false) := by show _ = _; unfold doneW; rw [hg]; rfl
    rw [HD.out]
    clear hm HD hg
    go_enter Try.func13, Try.ntmps13
    go_wp2_with fail
    refine (c1 _).mono ?_
    rintro e w1 ⟨rfl, hb⟩
    clear c1
    obtain ⟨hA, hB1, hz⟩ := one_box hb
    clear hb
    go_wp2_with fail
    go_ret
    exact ⟨rfl, hB1⟩
  · rw [hg] at c1
    have hb12 := good_B hg
    have HD : Hid (doneW B m n = (decide (1 ≤ n) && (decide (n < B) || hasN m (n - B)))) := by show _ = _; unfold doneW inW; rw [hg]; rfl
    rw [HD.out]
    have c2 := has_any m hm (n - B)
    generalize hasN m (n - B) = r at *
    clear hm HD hg
    by_cases h1 : n < 1
    · rw [decide_eq_false (by omega : ¬ 1 ≤ n), Bool.false_and]
      go_enter Try.func13, Try.ntmps13
      go_wp2_with fail
      refine (c1 _).mono ?_
      rintro e w1 ⟨rfl, hb⟩
      clear c1 c2
      obtain ⟨hA, hB1, hz⟩ := one_box hb
      clear hb
      go_wp2_with fail
      go_ret
      exact ⟨rfl, hB1⟩
    · rw [decide_eq_true (by omega : 1 ≤ n), Bool.true_and]
      by_cases h2 : n < B
      · rw [decide_eq_true h2, Bool.true_or]
        go_enter Try.func13, Try.ntmps13
        go_wp2_with fail
        refine (c1 _).mono ?_
        rintro e w1 ⟨rfl, hb⟩
        clear c1 c2
        obtain ⟨hA, hB1, hz⟩ := one_box hb
        clear hb
        have q0 : w1.cell? ⟨w.heap.size, 0, none⟩ = some (.int .i64 B) := hA 0 _ rfl
        have q1 : w1.cell? ⟨w.heap.size, 1, none⟩ = some (.int .u64 (m : Int)) := hA 1 _ rfl
        go_wp2_with fail
        go_ret
        exact ⟨rfl, hB1⟩
      · rw [decide_eq_false h2, Bool.false_or]
        go_enter Try.func13, Try.ntmps13
        go_wp2_with fail
        refine (c1 _).mono ?_
        rintro e w1 ⟨rfl, hb⟩
        clear c1
        obtain ⟨hA, hB1, hz⟩ := one_box hb
        clear hb
        have q0 : w1.cell? ⟨w.heap.size, 0, none⟩ = some (.int .i64 B) := hA 0 _ rfl
        have q1 : w1.cell? ⟨w.heap.size, 1, none⟩ = some (.int .u64 (m : Int)) := hA 1 _ rfl
        go_wp2_with (go_at_call 38; refine (c2 _).mono ?_; rintro e w2 ⟨rfl, hx⟩; obtain rfl := hx.symm; clear hx)
        go_ret
        exact ⟨ret_bool (by first | rfl | rw [decide_eq_false (by omega : ¬ n < B), Bool.false_or]), hB1⟩
set_option maxHeartbeats 1000000 in
theorem count_any (B : Int) (m : Nat) (hm : m < 2 ^ 64) (w : World) : Calls Try.prog 15 #[winV B (m : Int)] w fun e w' => e = .returned (.int .i64 (countW B m)) ∧ Below w.heap.size w w' := by
  have c1 := good_any B m hm
  cases hg : goodW B m
  · rw [hg] at c1
    have HD : Hid (countW B m = 0) := by show _ = _; unfold countW; rw [hg]; rfl
    rw [HD.out]
    clear hm HD hg
    go_enter Try.func15, Try.ntmps15
    go_wp2_with fail
    refine (c1 _).mono ?_
    rintro e w1 ⟨rfl, hb⟩
    clear c1
    obtain ⟨hA, hB1, hz⟩ := one_box hb
    clear hb
    go_wp2_with fail
    go_ret
    exact ⟨rfl, hB1⟩
  · rw [hg] at c1
    have hb12 := good_B hg
    have HD : Hid (countW B m = B - 1 + ((setN m).length : Int)) := by show _ = _; unfold countW; rw [hg]; rfl
    rw [HD.out]
    have c2 := many_any m hm
    have hl := setUp_len m 64
    have hl2 : (setN m).length ≤ 64 := hl
    clear hl
    generalize (setN m).length = K at *
    clear hm HD hg
    go_enter Try.func15, Try.ntmps15
    go_wp2_with fail
    refine (c1 _).mono ?_
    rintro e w1 ⟨rfl, hb⟩
    clear c1
    obtain ⟨hA, hB1, hz⟩ := one_box hb
    clear hb
    go_wp2_with fail
    obtain ⟨w8, hw8⟩ : ∃ w8, w1.drew = w8 := ⟨_, rfl⟩
    refine hs_begin (S := (fun W => W.rangeAt w.heap.size 0 (winC B (m : Int)))) 8 rfl (by kernel_rfl) ?_
    have hS : (w8).rangeAt w.heap.size 0 (winC B (m : Int)) := by rw [← hw8]; exact hA
    have hB8 : Below w.heap.size w w8 := by rw [← hw8]; exact (Below.drew hB1)
    have hz8 : w.heap.size < w8.heap.size := by rw [← hw8]; exact hz
    rw [hw8]
    clear hA hB1 hz
    refine hs_take (i := 0) (d := some 6) (v := ?_) rfl (by kernel_rfl) (by kernel_rfl) (by kernel_rfl) (by rfl) ?_ hS rfl ?_
    rotate_left
    · intro w' hw
      go_simp
      try with_reducible rfl
    simp only [Act.put, List.setIfInBounds_toArray, List.set_cons_zero, List.set_cons_succ]
    refine hs_take (i := 1) (d := some 7) (v := ?_) rfl (by kernel_rfl) (by kernel_rfl) (by kernel_rfl) (by rfl) ?_ hS rfl ?_
    rotate_left
    · intro w' hw
      have q0 : w'.cell? ⟨w.heap.size, 0, none⟩ = some (.int .i64 B) := hw 0 _ rfl; have q1 : w'.cell? ⟨w.heap.size, 1, none⟩ = some (.int .u64 (m : Int)) := hw 1 _ rfl
      go_simp
      try with_reducible rfl
    simp only [Act.put, List.setIfInBounds_toArray, List.set_cons_zero, List.set_cons_succ]
    refine hs_take (i := 2) (d := some 8) (v := .int .i64 (B - 1)) rfl (by kernel_rfl) (by kernel_rfl) (by kernel_rfl) (by rfl) (fun w' hw => by go_simp; exact wrap_id _ (by omega) (by omega)) hS rfl ?_
    simp only [Act.put, List.setIfInBounds_toArray, List.set_cons_zero, List.set_cons_succ]
    refine hs_take (i := 3) (d := some 9) (v := ?_) rfl (by kernel_rfl) (by kernel_rfl) (by kernel_rfl) (by rfl) ?_ hS rfl ?_
    rotate_left
    · intro w' hw
      go_simp
      try with_reducible rfl
    simp only [Act.put, List.setIfInBounds_toArray, List.set_cons_zero, List.set_cons_succ]
    refine hs_take (i := 4) (d := some 10) (v := ?_) rfl (by kernel_rfl) (by kernel_rfl) (by kernel_rfl) (by rfl) ?_ hS rfl ?_
    rotate_left
    · intro w' hw
      have q0 : w'.cell? ⟨w.heap.size, 0, none⟩ = some (.int .i64 B) := hw 0 _ rfl; have q1 : w'.cell? ⟨w.heap.size, 1, none⟩ = some (.int .u64 (m : Int)) := hw 1 _ rfl
      go_simp
      try with_reducible rfl
    simp only [Act.put, List.setIfInBounds_toArray, List.set_cons_zero, List.set_cons_succ]
    refine hs_call (i := 5) (d := some 11) rfl (by kernel_rfl) (by rfl) (by go_simp; first | done | exact ⟨rfl, rfl⟩ | with_reducible rfl) rfl ?_
    refine (c2 w8).mono ?_
    rintro e' w9 ⟨rfl, hw9⟩
    have hS : (fun W => W.rangeAt w.heap.size 0 (winC B (m : Int))) w9 := range_below hS hw9 hz8
    refine ⟨_, rfl, hS, ?_⟩
    simp only [Act.put, List.setIfInBounds_toArray, List.set_cons_zero, List.set_cons_succ]
    have hB9 := hB8.trans (hw9.mono hB8.size)
    clear c2
    refine hs_take (i := 6) (d := some 12) (v := .int .i64 (B - 1 + (K : Int))) rfl (by kernel_rfl) (by kernel_rfl) (by kernel_rfl) (by rfl) (fun w' hw => by go_simp; exact wrap_id _ (by omega) (by omega)) hS rfl ?_
    simp only [Act.put, List.setIfInBounds_toArray, List.set_cons_zero, List.set_cons_succ]
    refine hs_take (i := 7) (d := some 2) (v := ?_) rfl (by kernel_rfl) (by kernel_rfl) (by kernel_rfl) (by rfl) ?_ hS rfl ?_
    rotate_left
    · intro w' hw
      go_simp
      try with_reducible rfl
    simp only [Act.put, List.setIfInBounds_toArray, List.set_cons_zero, List.set_cons_succ]
    refine hs_done (by kernel_rfl) ?_
    go_wp2_with fail
    go_ret
    exact ⟨rfl, hB9⟩
set_option maxHeartbeats 1000000 in
theorem ask_any (B : Int) (m : Nat) (hm : m < 2 ^ 64) (s n : Int) (hn : n ≤ 9223372036854775807) (w : World) : Calls Try.prog 17 #[winV B (m : Int), .int .i64 s, .int .i64 n] w fun e w' => e = .returned (.int .i64 (askW B m s n)) ∧ Below w.heap.size w w' := by
  have c1 := good_any B m hm
  cases hg : goodW B m
  · rw [hg] at c1
    have HD : Hid (askW B m s n = 2) := by show _ = _; unfold askW; rw [if_neg (by rw [hg]; simp)]
    rw [HD.out]
    clear hm HD hg
    go_enter Try.func17, Try.ntmps17
    go_wp2_with fail
    refine (c1 _).mono ?_
    rintro e w1 ⟨rfl, hb⟩
    clear c1
    obtain ⟨hA, hB1, hz⟩ := one_box hb
    clear hb
    go_wp2_with fail
    go_ret
    exact ⟨rfl, hB1⟩
  · rw [hg] at c1
    have hb12 := good_B hg
    by_cases a0 : s < 1
    · have HD : Hid (askW B m s n = 2) := by show _ = _; unfold askW; rw [if_neg (by omega)]
      rw [HD.out]
      clear hm HD hg
      go_enter Try.func17, Try.ntmps17
      go_wp2_with fail
      refine (c1 _).mono ?_
      rintro e w1 ⟨rfl, hb⟩
      clear c1
      obtain ⟨hA, hB1, hz⟩ := one_box hb
      clear hb
      go_wp2_with fail
      go_ret
      exact ⟨rfl, hB1⟩
    by_cases a1 : 64 < s
    · have HD : Hid (askW B m s n = 2) := by show _ = _; unfold askW; rw [if_neg (by omega)]
      rw [HD.out]
      clear hm HD hg
      go_enter Try.func17, Try.ntmps17
      go_wp2_with fail
      refine (c1 _).mono ?_
      rintro e w1 ⟨rfl, hb⟩
      clear c1
      obtain ⟨hA, hB1, hz⟩ := one_box hb
      clear hb
      go_wp2_with fail
      go_ret
      exact ⟨rfl, hB1⟩
    by_cases a2 : n < 1
    · have HD : Hid (askW B m s n = 2) := by show _ = _; unfold askW; rw [if_neg (by omega)]
      rw [HD.out]
      clear hm HD hg
      go_enter Try.func17, Try.ntmps17
      go_wp2_with fail
      refine (c1 _).mono ?_
      rintro e w1 ⟨rfl, hb⟩
      clear c1
      obtain ⟨hA, hB1, hz⟩ := one_box hb
      clear hb
      go_wp2_with fail
      go_ret
      exact ⟨rfl, hB1⟩
    by_cases a3 : 1099511627776 < n
    · have HD : Hid (askW B m s n = 2) := by show _ = _; unfold askW; rw [if_neg (by omega)]
      rw [HD.out]
      clear hm HD hg
      go_enter Try.func17, Try.ntmps17
      go_wp2_with fail
      refine (c1 _).mono ?_
      rintro e w1 ⟨rfl, hb⟩
      clear c1
      obtain ⟨hA, hB1, hz⟩ := one_box hb
      clear hb
      go_wp2_with fail
      go_ret
      exact ⟨rfl, hB1⟩
    have HA : Hid (askW B m s n = (if doneW B m n then 90 else if s ≤ n - B then 91 else 0)) := by show _ = _; unfold askW; rw [if_pos ⟨hg, by omega, by omega, by omega, by omega⟩]
    rw [HA.out]
    have c2 := done_any B m hm n (by omega)
    clear HA
    cases hd : doneW B m n
    · rw [hd] at c2
      have hnB : B ≤ n ∨ n < B := by omega
      by_cases h5 : s ≤ n - B
      · have HD : Hid ((if false = true then (90 : Int) else if s ≤ n - B then 91 else 0) = 91) := by show _ = _; rw [if_neg (by decide), if_pos h5]
        rw [HD.out]
        clear hm HD hg hd
        go_enter Try.func17, Try.ntmps17
        go_wp2_with fail
        refine (c1 _).mono ?_
        rintro e w1 ⟨rfl, hb⟩
        clear c1
        obtain ⟨hA, hB1, hz⟩ := one_box hb
        clear hb
        have q0 : w1.cell? ⟨w.heap.size, 0, none⟩ = some (.int .i64 B) := hA 0 _ rfl
        have q1 : w1.cell? ⟨w.heap.size, 1, none⟩ = some (.int .u64 (m : Int)) := hA 1 _ rfl
        go_wp2_with fail
        refine (c2 _).mono ?_
        rintro e w2 ⟨rfl, hb2⟩
        clear c2 q0 q1
        have hA2 := range_below hA hb2 hz
        have hB2 := hB1.trans (hb2.mono hB1.size)
        clear hA hB1 hz hb2
        have q0 : w2.cell? ⟨w.heap.size, 0, none⟩ = some (.int .i64 B) := hA2 0 _ rfl
        go_wp2_with fail
        go_ret
        exact ⟨rfl, hB2⟩
      · have HD : Hid ((if false = true then (90 : Int) else if s ≤ n - B then 91 else 0) = 0) := by show _ = _; rw [if_neg (by decide), if_neg h5]
        rw [HD.out]
        clear hm HD hg hd
        go_enter Try.func17, Try.ntmps17
        go_wp2_with fail
        refine (c1 _).mono ?_
        rintro e w1 ⟨rfl, hb⟩
        clear c1
        obtain ⟨hA, hB1, hz⟩ := one_box hb
        clear hb
        have q0 : w1.cell? ⟨w.heap.size, 0, none⟩ = some (.int .i64 B) := hA 0 _ rfl
        have q1 : w1.cell? ⟨w.heap.size, 1, none⟩ = some (.int .u64 (m : Int)) := hA 1 _ rfl
        go_wp2_with fail
        refine (c2 _).mono ?_
        rintro e w2 ⟨rfl, hb2⟩
        clear c2 q0 q1
        have hA2 := range_below hA hb2 hz
        have hB2 := hB1.trans (hb2.mono hB1.size)
        clear hA hB1 hz hb2
        have q0 : w2.cell? ⟨w.heap.size, 0, none⟩ = some (.int .i64 B) := hA2 0 _ rfl
        go_wp2_with fail
        go_ret
        exact ⟨rfl, hB2⟩
    · rw [hd] at c2
      rw [if_pos rfl]
      clear hm hg hd
      go_enter Try.func17, Try.ntmps17
      go_wp2_with fail
      refine (c1 _).mono ?_
      rintro e w1 ⟨rfl, hb⟩
      clear c1
      obtain ⟨hA, hB1, hz⟩ := one_box hb
      clear hb
      have q0 : w1.cell? ⟨w.heap.size, 0, none⟩ = some (.int .i64 B) := hA 0 _ rfl
      have q1 : w1.cell? ⟨w.heap.size, 1, none⟩ = some (.int .u64 (m : Int)) := hA 1 _ rfl
      go_wp2_with fail
      refine (c2 _).mono ?_
      rintro e w2 ⟨rfl, hb2⟩
      clear c2
      have hB2 := hB1.trans (hb2.mono hB1.size)
      go_wp2_with fail
      go_ret
      exact ⟨rfl, hB2⟩
end Go.Proofs.Ytnjlamcpfclgaaa
