/- window.settled, Good, Done, Count, Ask, Mark: contracts. -/
import Derived.Test.YtnjlamcpfclgaaaWArr
namespace Go.Proofs.Ytnjlamcpfclgaaa
open Go.RowKit
theorem wrap_id (x : Int) (h0 : -9223372036854775808 ≤ x) (h1 : x ≤ 9223372036854775807) : IntKind.i64.wrap x = x := by
  rw [IntKind.wrap_i64]; omega
theorem natz (d : Nat) : (((d : Nat) : Int) == 0) = decide (d = 0) := by
  by_cases h : d = 0
  · subst h; rfl
  · have : ¬ ((d : Int) = 0) := by omega
    simp [h]
set_option maxHeartbeats 1000000 in
theorem settled_any (B : Int) (m : Nat) (hm : m < 2 ^ 64) (h0 : 0 ≤ B) (h1 : B ≤ 1099511627777) (w : World) : Calls Try.prog 31 #[winV B (m : Int)] w fun e w' => e = .returned (winV (setB B m) (setM m : Int)) ∧ Below w.heap.size w w' := by
  have c1 := ones_any m hm
  have c2 := down_any m hm (onesN m : Int)
  have hL := ones_le m
  have HB : Hid (B + (onesN m : Int) = setB B m) := rfl
  have HM : Hid (downN m (onesN m : Int) = setM m) := rfl
  rw [HM.out] at c2
  generalize setM m = m2 at *
  generalize onesN m = L at *
  clear hm HM
  go_enter Try.func31, Try.ntmps31
  go_wp2_with fail
  refine (c1 _).mono ?_
  rintro e w1 ⟨rfl, hb⟩
  clear c1
  obtain ⟨hA, hT, hB1, hz⟩ := two_box hb
  clear hb
  go_wp2_with fail
  obtain ⟨w8, hw8⟩ : ∃ w8, w1.drew = w8 := ⟨_, rfl⟩
  refine hs_begin (S := (fun W => W.rangeAt w.heap.size 0 (winC B (m : Int)))) 10 rfl (by kernel_rfl) ?_
  have hS : (w8).rangeAt w.heap.size 0 (winC B (m : Int)) := by rw [← hw8]; exact hA
  have hT8 : (w8).there (w.heap.size + 1) 0 2 := by rw [← hw8]; exact hT
  have hB8 : Below w.heap.size w w8 := by rw [← hw8]; exact (Below.drew hB1)
  rw [hw8]
  clear hA hT hB1
  refine hs_take (i := 0) (d := some 7) (v := ?_) rfl (by kernel_rfl) (by kernel_rfl) (by kernel_rfl) (by rfl) ?_ hS rfl ?_
  rotate_left
  · intro w' hw
    go_simp
    try with_reducible rfl
  simp only [Act.put, List.setIfInBounds_toArray, List.set_cons_zero, List.set_cons_succ]
  refine hs_take (i := 1) (d := some 8) (v := ?_) rfl (by kernel_rfl) (by kernel_rfl) (by kernel_rfl) (by rfl) ?_ hS rfl ?_
  rotate_left
  · intro w' hw
    have q0 : w'.cell? ⟨w.heap.size, 0, none⟩ = some (.int .i64 B) := hw 0 _ rfl; have q1 : w'.cell? ⟨w.heap.size, 1, none⟩ = some (.int .u64 (m : Int)) := hw 1 _ rfl
    go_simp
    try with_reducible rfl
  simp only [Act.put, List.setIfInBounds_toArray, List.set_cons_zero, List.set_cons_succ]
  refine hs_take (i := 2) (d := some 9) (v := ?_) rfl (by kernel_rfl) (by kernel_rfl) (by kernel_rfl) (by rfl) ?_ hS rfl ?_
  rotate_left
  · intro w' hw
    go_simp
    try with_reducible rfl
  simp only [Act.put, List.setIfInBounds_toArray, List.set_cons_zero, List.set_cons_succ]
  refine hs_take (i := 3) (d := some 10) (v := .int .i64 (B + (L : Int))) rfl (by kernel_rfl) (by kernel_rfl) (by kernel_rfl) (by rfl) (fun w' hw => by go_simp; exact wrap_id _ (by omega) (by omega)) hS rfl ?_
  simp only [Act.put, List.setIfInBounds_toArray, List.set_cons_zero, List.set_cons_succ]
  refine hs_take (i := 4) (d := some 11) (v := ?_) rfl (by kernel_rfl) (by kernel_rfl) (by kernel_rfl) (by rfl) ?_ hS rfl ?_
  rotate_left
  · intro w' hw
    go_simp
    try with_reducible rfl
  simp only [Act.put, List.setIfInBounds_toArray, List.set_cons_zero, List.set_cons_succ]
  refine hs_take (i := 5) (d := some 12) (v := ?_) rfl (by kernel_rfl) (by kernel_rfl) (by kernel_rfl) (by rfl) ?_ hS rfl ?_
  rotate_left
  · intro w' hw
    have q0 : w'.cell? ⟨w.heap.size, 0, none⟩ = some (.int .i64 B) := hw 0 _ rfl; have q1 : w'.cell? ⟨w.heap.size, 1, none⟩ = some (.int .u64 (m : Int)) := hw 1 _ rfl
    go_simp
    try with_reducible rfl
  simp only [Act.put, List.setIfInBounds_toArray, List.set_cons_zero, List.set_cons_succ]
  refine hs_take (i := 6) (d := some 13) (v := ?_) rfl (by kernel_rfl) (by kernel_rfl) (by kernel_rfl) (by rfl) ?_ hS rfl ?_
  rotate_left
  · intro w' hw
    go_simp
    try with_reducible rfl
  simp only [Act.put, List.setIfInBounds_toArray, List.set_cons_zero, List.set_cons_succ]
  refine hs_call (i := 7) (d := some 14) rfl (by kernel_rfl) (by rfl) (by go_simp; first | done | exact ⟨rfl, rfl⟩ | with_reducible rfl) rfl ?_
  refine (c2 w8).mono ?_
  rintro e' w9 ⟨rfl, hx⟩
  have hS : (fun W => W.rangeAt w.heap.size 0 (winC B (m : Int))) w9 := by rw [hx]; exact hS
  refine ⟨_, rfl, hS, ?_⟩
  simp only [Act.put, List.setIfInBounds_toArray, List.set_cons_zero, List.set_cons_succ]
  obtain rfl := hx.symm
  refine hs_take (i := 8) (d := some 15) (v := ?_) rfl (by kernel_rfl) (by kernel_rfl) (by kernel_rfl) (by rfl) ?_ hS rfl ?_
  rotate_left
  · intro w' hw
    go_simp
    try with_reducible rfl
  simp only [Act.put, List.setIfInBounds_toArray, List.set_cons_zero, List.set_cons_succ]
  have hk : (w8.setCells (w.heap.size + 1) 0 (winC (B + (L : Int)) (m2 : Int))).rangeAt w.heap.size 0 (winC B (m : Int)) := win_apart hS (by omega)
  refine hs_store (i := 9) (w' := w8.setCells (w.heap.size + 1) 0 (winC (B + (L : Int)) (m2 : Int))) rfl (by kernel_rfl) (by rfl) (exec_store rfl rfl rfl (win_store hT8)) rfl hk ?_
  refine hs_done (by kernel_rfl) ?_
  have hrs := win_load (win_set (B := B + (L : Int)) (m := (m2 : Int)) hT8)
  go_wp2_with fail
  exact bodyPost_ret (v := winV (B + (L : Int)) (m2 : Int)) (by simp [results, Try.results31, asAddr, hrs]) rfl ⟨by rw [HB.out], below_sets (by omega) _ 0 _ hB8⟩
set_option maxHeartbeats 1000000 in
theorem good_any (B : Int) (m : Nat) (hm : m < 2 ^ 64) (w : World) : Calls Try.prog 11 #[winV B (m : Int)] w fun e w' => e = .returned (.bool (goodW B m)) ∧ Below w.heap.size w w' := by
  have hBx : Below w.heap.size w (w.alloc (.cells #[.int .i64 B, .int .u64 (m : Int)] 24)) := (Below.refl _ _).alloc (Nat.le_refl _) _
  by_cases h0 : B < 1
  · have HG : Hid (goodW B m = false) := by show _ = _; unfold goodW; rw [decide_eq_false (by omega)]; rfl
    rw [HG.out]
    clear hm HG
    go_enter Try.func11, Try.ntmps11
    go_wp2_with fail
    go_ret
    exact ⟨rfl, hBx⟩
  · by_cases h1 : 1099511627777 < B
    · have HG : Hid (goodW B m = false) := by show _ = _; unfold goodW; rw [decide_eq_false (by omega)]; rfl
      rw [HG.out]
      clear hm HG
      go_enter Try.func11, Try.ntmps11
      go_wp2_with fail
      go_ret
      exact ⟨rfl, hBx⟩
    · have c1 := settled_any B m hm (by omega) (by omega)
      have c2 := down_any m hm (1099511627777 - B)
      have HG : Hid (goodW B m = (!m.testBit 0 && decide (downN m (1099511627777 - B) = 0))) := by show _ = _; unfold goodW; rw [decide_eq_true (by omega)]; rfl
      rw [HG.out]
      obtain ⟨hA, _, hz⟩ := one_box (Below.refl (w.alloc (.cells #[.int .i64 B, .int .u64 (m : Int)] 24)).heap.size _)
      cases hb : m.testBit 0
      · have e0 : onesN m = 0 := (ones_zero m).2 hb
        have e1 : setB B m = B := by unfold setB; rw [e0]; simp
        have e2 : setM m = m := by unfold setM; rw [e0]; rfl
        rw [e1, e2] at c1
        generalize downN m (1099511627777 - B) = d at *
        clear e0 e1 e2 hb hm HG
        go_enter Try.func11, Try.ntmps11
        go_wp2_with fail
        obtain ⟨w1, hw1⟩ : ∃ w1, w.alloc (.cells #[.int .i64 B, .int .u64 (m : Int)] 24) = w1 := ⟨_, rfl⟩
        rw [hw1] at hA hz hBx ⊢
        clear hw1
        obtain ⟨w8, hw8⟩ : ∃ w8, w1.drew = w8 := ⟨_, rfl⟩
        refine hs_begin (S := (fun W => W.rangeAt w.heap.size 0 (winC B (m : Int)))) 14 rfl (by kernel_rfl) ?_
        have hS : (w8).rangeAt w.heap.size 0 (winC B (m : Int)) := by rw [← hw8]; exact hA
        have hB8 : Below w.heap.size w w8 := by rw [← hw8]; exact (Below.drew hBx)
        have hz8 : w.heap.size < w8.heap.size := by rw [← hw8]; exact hz
        rw [hw8]
        clear hA hBx hz
        refine hs_take (i := 0) (d := some 11) (v := winV B (m : Int)) rfl (by kernel_rfl) (by kernel_rfl) (by kernel_rfl) (by rfl) (fun w' hw => exec_load rfl rfl (win_load hw)) hS rfl ?_
        simp only [Act.put, List.setIfInBounds_toArray, List.set_cons_zero, List.set_cons_succ]
        refine hs_take (i := 2) (d := some 13) (v := winV B (m : Int)) rfl (by kernel_rfl) (by kernel_rfl) (by kernel_rfl) (by rfl) (fun w' hw => exec_load rfl rfl (win_load hw)) hS rfl ?_
        simp only [Act.put, List.setIfInBounds_toArray, List.set_cons_zero, List.set_cons_succ]
        refine hs_call (i := 1) (d := some 12) rfl (by kernel_rfl) (by rfl) (by go_simp; first | done | exact ⟨rfl, rfl⟩ | with_reducible rfl) rfl ?_
        refine (c1 w8).mono ?_
        rintro e' w9 ⟨rfl, hw9⟩
        have hS : (fun W => W.rangeAt w.heap.size 0 (winC B (m : Int))) w9 := range_below hS hw9 hz8
        refine ⟨_, rfl, hS, ?_⟩
        simp only [Act.put, List.setIfInBounds_toArray, List.set_cons_zero, List.set_cons_succ]
        have hB9 := hB8.trans (hw9.mono hB8.size)
        clear c1
        refine hs_take (i := 3) (d := some 14) (v := .bool true) rfl (by kernel_rfl) (by kernel_rfl) (by kernel_rfl) (by rfl) (fun w' hw => by go_simp) hS rfl ?_
        simp only [Act.put, List.setIfInBounds_toArray, List.set_cons_zero, List.set_cons_succ]
        refine hs_take (i := 4) (d := some 15) (v := ?_) rfl (by kernel_rfl) (by kernel_rfl) (by kernel_rfl) (by rfl) ?_ hS rfl ?_
        rotate_left
        · intro w' hw
          go_simp
          try with_reducible rfl
        simp only [Act.put, List.setIfInBounds_toArray, List.set_cons_zero, List.set_cons_succ]
        refine hs_take (i := 5) (d := some 16) (v := ?_) rfl (by kernel_rfl) (by kernel_rfl) (by kernel_rfl) (by rfl) ?_ hS rfl ?_
        rotate_left
        · intro w' hw
          go_simp
          try with_reducible rfl
        simp only [Act.put, List.setIfInBounds_toArray, List.set_cons_zero, List.set_cons_succ]
        refine hs_take (i := 6) (d := some 17) (v := ?_) rfl (by kernel_rfl) (by kernel_rfl) (by kernel_rfl) (by rfl) ?_ hS rfl ?_
        rotate_left
        · intro w' hw
          have q0 : w'.cell? ⟨w.heap.size, 0, none⟩ = some (.int .i64 B) := hw 0 _ rfl; have q1 : w'.cell? ⟨w.heap.size, 1, none⟩ = some (.int .u64 (m : Int)) := hw 1 _ rfl
          go_simp
          try with_reducible rfl
        simp only [Act.put, List.setIfInBounds_toArray, List.set_cons_zero, List.set_cons_succ]
        refine hs_take (i := 7) (d := some 18) (v := ?_) rfl (by kernel_rfl) (by kernel_rfl) (by kernel_rfl) (by rfl) ?_ hS rfl ?_
        rotate_left
        · intro w' hw
          go_simp
          try with_reducible rfl
        simp only [Act.put, List.setIfInBounds_toArray, List.set_cons_zero, List.set_cons_succ]
        refine hs_take (i := 8) (d := some 19) (v := ?_) rfl (by kernel_rfl) (by kernel_rfl) (by kernel_rfl) (by rfl) ?_ hS rfl ?_
        rotate_left
        · intro w' hw
          have q0 : w'.cell? ⟨w.heap.size, 0, none⟩ = some (.int .i64 B) := hw 0 _ rfl; have q1 : w'.cell? ⟨w.heap.size, 1, none⟩ = some (.int .u64 (m : Int)) := hw 1 _ rfl
          go_simp
          try with_reducible rfl
        simp only [Act.put, List.setIfInBounds_toArray, List.set_cons_zero, List.set_cons_succ]
        refine hs_take (i := 9) (d := some 20) (v := .int .i64 (1099511627777 - B)) rfl (by kernel_rfl) (by kernel_rfl) (by kernel_rfl) (by rfl) (fun w' hw => by go_simp; exact wrap_id _ (by omega) (by omega)) hS rfl ?_
        simp only [Act.put, List.setIfInBounds_toArray, List.set_cons_zero, List.set_cons_succ]
        refine hs_call (i := 10) (d := some 21) rfl (by kernel_rfl) (by rfl) (by go_simp; first | done | exact ⟨rfl, rfl⟩ | with_reducible rfl) rfl ?_
        refine (c2 w9).mono ?_
        rintro e' w10 ⟨rfl, hx⟩
        have hS : (fun W => W.rangeAt w.heap.size 0 (winC B (m : Int))) w10 := by rw [hx]; exact hS
        refine ⟨_, rfl, hS, ?_⟩
        simp only [Act.put, List.setIfInBounds_toArray, List.set_cons_zero, List.set_cons_succ]
        obtain rfl := hx.symm
        refine hs_take (i := 11) (d := some 22) (v := ?_) rfl (by kernel_rfl) (by kernel_rfl) (by kernel_rfl) (by rfl) ?_ hS rfl ?_
        rotate_left
        · intro w' hw
          go_simp
          try with_reducible rfl
        simp only [Act.put, List.setIfInBounds_toArray, List.set_cons_zero, List.set_cons_succ]
        refine hs_take (i := 12) (d := some 23) (v := ?_) rfl (by kernel_rfl) (by kernel_rfl) (by kernel_rfl) (by rfl) ?_ hS rfl ?_
        rotate_left
        · intro w' hw
          go_simp
          try with_reducible rfl
        simp only [Act.put, List.setIfInBounds_toArray, List.set_cons_zero, List.set_cons_succ]
        refine hs_take (i := 13) (d := some 2) (v := ?_) rfl (by kernel_rfl) (by kernel_rfl) (by kernel_rfl) (by rfl) ?_ hS rfl ?_
        rotate_left
        · intro w' hw
          go_simp
          try with_reducible rfl
        simp only [Act.put, List.setIfInBounds_toArray, List.set_cons_zero, List.set_cons_succ]
        refine hs_done (by kernel_rfl) ?_
        go_wp2_with fail
        go_ret
        exact ⟨ret_bool (natz _), hB9⟩
      · have hne : setB B m ≠ B := by
          have : onesN m ≠ 0 := fun e => by rw [(ones_zero m).1 e] at hb; cases hb
          unfold setB; omega
        generalize setB B m = B2 at *
        generalize setM m = m2 at *
        clear c2 hm HG hb
        go_enter Try.func11, Try.ntmps11
        go_wp2_with fail
        obtain ⟨w1, hw1⟩ : ∃ w1, w.alloc (.cells #[.int .i64 B, .int .u64 (m : Int)] 24) = w1 := ⟨_, rfl⟩
        rw [hw1] at hA hz hBx ⊢
        clear hw1
        obtain ⟨w8, hw8⟩ : ∃ w8, w1.drew = w8 := ⟨_, rfl⟩
        refine hs_begin (S := (fun W => W.rangeAt w.heap.size 0 (winC B (m : Int)))) 14 rfl (by kernel_rfl) ?_
        have hS : (w8).rangeAt w.heap.size 0 (winC B (m : Int)) := by rw [← hw8]; exact hA
        have hB8 : Below w.heap.size w w8 := by rw [← hw8]; exact (Below.drew hBx)
        have hz8 : w.heap.size < w8.heap.size := by rw [← hw8]; exact hz
        rw [hw8]
        clear hA hBx hz
        refine hs_take (i := 0) (d := some 11) (v := winV B (m : Int)) rfl (by kernel_rfl) (by kernel_rfl) (by kernel_rfl) (by rfl) (fun w' hw => exec_load rfl rfl (win_load hw)) hS rfl ?_
        simp only [Act.put, List.setIfInBounds_toArray, List.set_cons_zero, List.set_cons_succ]
        refine hs_take (i := 2) (d := some 13) (v := winV B (m : Int)) rfl (by kernel_rfl) (by kernel_rfl) (by kernel_rfl) (by rfl) (fun w' hw => exec_load rfl rfl (win_load hw)) hS rfl ?_
        simp only [Act.put, List.setIfInBounds_toArray, List.set_cons_zero, List.set_cons_succ]
        refine hs_call (i := 1) (d := some 12) rfl (by kernel_rfl) (by rfl) (by go_simp; first | done | exact ⟨rfl, rfl⟩ | with_reducible rfl) rfl ?_
        refine (c1 w8).mono ?_
        rintro e' w9 ⟨rfl, hw9⟩
        have hS : (fun W => W.rangeAt w.heap.size 0 (winC B (m : Int))) w9 := range_below hS hw9 hz8
        refine ⟨_, rfl, hS, ?_⟩
        simp only [Act.put, List.setIfInBounds_toArray, List.set_cons_zero, List.set_cons_succ]
        have hB9 := hB8.trans (hw9.mono hB8.size)
        clear c1
        refine hs_take (i := 3) (d := some 14) (v := .bool false) rfl (by kernel_rfl) (by kernel_rfl) (by kernel_rfl) (by rfl) (fun w' hw => by go_simp; first | done | omega | simp [hne]) hS rfl ?_
        simp only [Act.put, List.setIfInBounds_toArray, List.set_cons_zero, List.set_cons_succ]
        refine hs_take (i := 4) (d := some 15) (v := ?_) rfl (by kernel_rfl) (by kernel_rfl) (by kernel_rfl) (by rfl) ?_ hS rfl ?_
        rotate_left
        · intro w' hw
          go_simp
          try with_reducible rfl
        simp only [Act.put, List.setIfInBounds_toArray, List.set_cons_zero, List.set_cons_succ]
        refine hs_skip (i := 5) (d := some 16) rfl (by kernel_rfl) (by kernel_rfl) (by kernel_rfl) (by rfl) hS rfl ?_
        simp only [Act.put, List.setIfInBounds_toArray, List.set_cons_zero, List.set_cons_succ]
        refine hs_skip (i := 6) (d := some 17) rfl (by kernel_rfl) (by kernel_rfl) (by kernel_rfl) (by rfl) hS rfl ?_
        simp only [Act.put, List.setIfInBounds_toArray, List.set_cons_zero, List.set_cons_succ]
        refine hs_skip (i := 7) (d := some 18) rfl (by kernel_rfl) (by kernel_rfl) (by kernel_rfl) (by rfl) hS rfl ?_
        simp only [Act.put, List.setIfInBounds_toArray, List.set_cons_zero, List.set_cons_succ]
        refine hs_skip (i := 8) (d := some 19) rfl (by kernel_rfl) (by kernel_rfl) (by kernel_rfl) (by rfl) hS rfl ?_
        simp only [Act.put, List.setIfInBounds_toArray, List.set_cons_zero, List.set_cons_succ]
        refine hs_skip (i := 9) (d := some 20) rfl (by kernel_rfl) (by kernel_rfl) (by kernel_rfl) (by rfl) hS rfl ?_
        simp only [Act.put, List.setIfInBounds_toArray, List.set_cons_zero, List.set_cons_succ]
        refine hs_skip (i := 10) (d := some 21) rfl (by kernel_rfl) (by kernel_rfl) (by kernel_rfl) (by rfl) hS rfl ?_
        simp only [Act.put, List.setIfInBounds_toArray, List.set_cons_zero, List.set_cons_succ]
        refine hs_skip (i := 11) (d := some 22) rfl (by kernel_rfl) (by kernel_rfl) (by kernel_rfl) (by rfl) hS rfl ?_
        simp only [Act.put, List.setIfInBounds_toArray, List.set_cons_zero, List.set_cons_succ]
        refine hs_take (i := 12) (d := some 23) (v := ?_) rfl (by kernel_rfl) (by kernel_rfl) (by kernel_rfl) (by rfl) ?_ hS rfl ?_
        rotate_left
        · intro w' hw
          go_simp
          try with_reducible rfl
        simp only [Act.put, List.setIfInBounds_toArray, List.set_cons_zero, List.set_cons_succ]
        refine hs_take (i := 13) (d := some 2) (v := ?_) rfl (by kernel_rfl) (by kernel_rfl) (by kernel_rfl) (by rfl) ?_ hS rfl ?_
        rotate_left
        · intro w' hw
          go_simp
          try with_reducible rfl
        simp only [Act.put, List.setIfInBounds_toArray, List.set_cons_zero, List.set_cons_succ]
        refine hs_done (by kernel_rfl) ?_
        go_wp2_with fail
        go_ret
        exact ⟨rfl, hB9⟩
end Go.Proofs.Ytnjlamcpfclgaaa
