/- The law WindowTells: its walk. -/
import Derived.Test.YtnjlamcpfclgaaaWA5
import Derived.Test.YtnjlamcpfclgaaaWOrd
namespace Go.Proofs.Ytnjlamcpfclgaaa
open Go.RowKit
set_option maxHeartbeats 4000000 in
theorem tells_walk (B : Int) (m : Nat) (hm : m < 2 ^ 64) (s n : Int) (hn : n ≤ 9223372036854775807) (w : World) :
    Calls Try.prog 3 #[winV B (m : Int), .int .i64 s, .int .i64 n] w fun e w' => e = .returned (.bool true) ∧ Below w.heap.size w w' := by
  have a1 := mark_any B m hm n hn
  have a2 := refMarkW_any B m hm n hn
  have b1 := good_any B m hm
  have b2 := refGoodW_any B m hm
  have d1 := done_any B m hm n hn
  have d2 := refDoneW_any B m hm n hn
  have e1 := count_any B m hm
  have e2 := refCountW_any B m hm
  have f1 := ask_any B m hm s n hn
  have f2 := refAskW_any B m hm s n hn
  generalize markB B m n = X at *
  generalize markM B m n = M at *
  generalize askW B m 64 n = E at *
  generalize goodW B m = G at *
  generalize doneW B m n = D at *
  generalize countW B m = C at *
  generalize askW B m s n = A at *
  clear hm hn
  go_enter Try.func3, Try.ntmps3
  go_wp2_with fail
  refine (a1 _).mono ?_
  rintro e w1 ⟨rfl, hb1⟩
  obtain ⟨hA, hB1, hz⟩ := one_box hb1
  clear a1 hb1
  have bb : Below w1.heap.size w1 (w1.alloc (.cells #[.int .i64 X, .int .u64 (M : Int)] 24)) := (Below.refl _ _).alloc (Nat.le_refl _) _
  have hA2 := range_below hA bb hz
  have hV2 := range_new w1 #[.int .i64 X, .int .u64 (M : Int)] 24
  have hB2 := hB1.trans (bb.mono hB1.size)
  have hs2 : (w1.alloc (.cells #[.int .i64 X, .int .u64 (M : Int)] 24)).heap.size = w1.heap.size + 1 := World.size_alloc _ _
  obtain ⟨P1, hP1⟩ : ∃ P1, w1.heap.size = P1 := ⟨_, rfl⟩
  obtain ⟨w2, hw2⟩ : ∃ w2, w1.alloc (.cells #[.int .i64 X, .int .u64 (M : Int)] 24) = w2 := ⟨_, rfl⟩
  rw [hw2] at hA2 hB2
  rw [hw2, hP1] at hV2 hs2
  have q0 : w2.cell? ⟨w.heap.size, 0, none⟩ = some (.int .i64 B) := hA2 0 _ rfl
  have q1 : w2.cell? ⟨w.heap.size, 1, none⟩ = some (.int .u64 (m : Int)) := hA2 1 _ rfl
  go_wp2_with fail
  refine (a2 _).mono ?_
  rintro e w3 ⟨rfl, hb3⟩
  clear a2 q0 q1 hw2
  rw [hP1] at hz
  have hA3 := range_below hA2 hb3 (by omega)
  have hV3 := range_below hV2 hb3 (by omega)
  have hB3 := hB2.trans (hb3.mono hB2.size)
  have hs3 := hb3.size
  have bb3 : Below w3.heap.size w3 (w3.alloc (.cells #[.int .i64 X, .int .u64 (M : Int)] 24)) := (Below.refl _ _).alloc (Nat.le_refl _) _
  have hA4 := range_below hA3 bb3 (by omega)
  have hV4 := range_below hV3 bb3 (by omega)
  have hW4 := range_new w3 #[.int .i64 X, .int .u64 (M : Int)] 24
  have hB4 := hB3.trans (bb3.mono hB3.size)
  have hs4 : (w3.alloc (.cells #[.int .i64 X, .int .u64 (M : Int)] 24)).heap.size = w3.heap.size + 1 := World.size_alloc _ _
  obtain ⟨P2, hP2⟩ : ∃ P2, w3.heap.size = P2 := ⟨_, rfl⟩
  obtain ⟨w4, hw4⟩ : ∃ w4, w3.alloc (.cells #[.int .i64 X, .int .u64 (M : Int)] 24) = w4 := ⟨_, rfl⟩
  rw [hw4] at hA4 hV4 hB4
  rw [hw4, hP2] at hW4 hs4
  rw [hP2] at hs3
  go_wp2_with fail
  clear hP1 hw4 hP2 hA hB1 hA2 hV2 hB2 hA3 hV3 hB3 bb bb3 hb3
  obtain ⟨w8, hw8⟩ : ∃ w8, w4.drew = w8 := ⟨_, rfl⟩
  refine hs_begin (S := (fun W => W.rangeAt w.heap.size 0 (winC B (m : Int)) ∧ W.rangeAt P1 0 (winC X (M : Int)) ∧ W.rangeAt P2 0 (winC X (M : Int)) ∧ Below w.heap.size w W ∧ w.heap.size < W.heap.size ∧ P1 < W.heap.size ∧ P2 < W.heap.size)) 51 rfl (by kernel_rfl) ?_
  have hS : (fun W => W.rangeAt w.heap.size 0 (winC B (m : Int)) ∧ W.rangeAt P1 0 (winC X (M : Int)) ∧ W.rangeAt P2 0 (winC X (M : Int)) ∧ Below w.heap.size w W ∧ w.heap.size < W.heap.size ∧ P1 < W.heap.size ∧ P2 < W.heap.size) w8 := by rw [← hw8]; exact ⟨hA4, hV4, hW4, hB4.drew, by show w.heap.size < w4.heap.size; omega, by show P1 < w4.heap.size; omega, by show P2 < w4.heap.size; omega⟩
  rw [hw8]
  clear hw8 hA4 hV4 hW4 hB4 hs2 hs3 hs4 hz
  refine hs_take (i := 1) (d := some 24) (v := ?_) rfl (by kernel_rfl) (by kernel_rfl) (by kernel_rfl) (by rfl) ?_ hS rfl ?_
  rotate_left
  · intro w' hw
    go_simp
    try with_reducible rfl
  simp only [Act.put, List.setIfInBounds_toArray, List.set_cons_zero, List.set_cons_succ]
  refine hs_call (i := 0) (d := some 23) rfl (by kernel_rfl) (by rfl) (by go_simp; first | done | exact ⟨rfl, rfl⟩ | with_reducible rfl) rfl ?_
  refine (new_any w8).mono ?_
  rintro e' w9 ⟨rfl, hx⟩
  have hS : (fun W => W.rangeAt w.heap.size 0 (winC B (m : Int)) ∧ W.rangeAt P1 0 (winC X (M : Int)) ∧ W.rangeAt P2 0 (winC X (M : Int)) ∧ Below w.heap.size w W ∧ w.heap.size < W.heap.size ∧ P1 < W.heap.size ∧ P2 < W.heap.size) w9 := ⟨range_below hS.1 hx hS.2.2.2.2.1, range_below hS.2.1 hx hS.2.2.2.2.2.1, range_below hS.2.2.1 hx hS.2.2.2.2.2.2, hS.2.2.2.1.trans (hx.mono hS.2.2.2.1.size), Nat.lt_of_lt_of_le hS.2.2.2.2.1 hx.size, Nat.lt_of_lt_of_le hS.2.2.2.2.2.1 hx.size, Nat.lt_of_lt_of_le hS.2.2.2.2.2.2 hx.size⟩
  refine ⟨_, rfl, hS, ?_⟩
  simp only [Act.put, List.setIfInBounds_toArray, List.set_cons_zero, List.set_cons_succ]
  clear hx
  refine hs_take (i := 2) (d := some 25) (v := .bool true) rfl (by kernel_rfl) (by kernel_rfl) (by kernel_rfl) (by rfl) (fun w' hw => by go_simp; first | done | simp) hS rfl ?_
  simp only [Act.put, List.setIfInBounds_toArray, List.set_cons_zero, List.set_cons_succ]
  refine hs_take (i := 3) (d := some 26) (v := ?_) rfl (by kernel_rfl) (by kernel_rfl) (by kernel_rfl) (by rfl) ?_ hS rfl ?_
  rotate_left
  · intro w' hw
    go_simp
    try with_reducible rfl
  simp only [Act.put, List.setIfInBounds_toArray, List.set_cons_zero, List.set_cons_succ]
  refine hs_take (i := 4) (d := some 27) (v := winV B (m : Int)) rfl (by kernel_rfl) (by kernel_rfl) (by kernel_rfl) (by rfl) (fun w' hw => exec_load rfl rfl (win_load hw.1)) hS rfl ?_
  simp only [Act.put, List.setIfInBounds_toArray, List.set_cons_zero, List.set_cons_succ]
  refine hs_take (i := 6) (d := some 29) (v := winV B (m : Int)) rfl (by kernel_rfl) (by kernel_rfl) (by kernel_rfl) (by rfl) (fun w' hw => exec_load rfl rfl (win_load hw.1)) hS rfl ?_
  simp only [Act.put, List.setIfInBounds_toArray, List.set_cons_zero, List.set_cons_succ]
  refine hs_call (i := 5) (d := some 28) rfl (by kernel_rfl) (by rfl) (by go_simp; first | done | exact ⟨rfl, rfl⟩ | with_reducible rfl) rfl ?_
  refine (b1 w9).mono ?_
  rintro e' w10 ⟨rfl, hx⟩
  have hS : (fun W => W.rangeAt w.heap.size 0 (winC B (m : Int)) ∧ W.rangeAt P1 0 (winC X (M : Int)) ∧ W.rangeAt P2 0 (winC X (M : Int)) ∧ Below w.heap.size w W ∧ w.heap.size < W.heap.size ∧ P1 < W.heap.size ∧ P2 < W.heap.size) w10 := ⟨range_below hS.1 hx hS.2.2.2.2.1, range_below hS.2.1 hx hS.2.2.2.2.2.1, range_below hS.2.2.1 hx hS.2.2.2.2.2.2, hS.2.2.2.1.trans (hx.mono hS.2.2.2.1.size), Nat.lt_of_lt_of_le hS.2.2.2.2.1 hx.size, Nat.lt_of_lt_of_le hS.2.2.2.2.2.1 hx.size, Nat.lt_of_lt_of_le hS.2.2.2.2.2.2 hx.size⟩
  refine ⟨_, rfl, hS, ?_⟩
  simp only [Act.put, List.setIfInBounds_toArray, List.set_cons_zero, List.set_cons_succ]
  clear hx
  refine hs_call (i := 7) (d := some 30) rfl (by kernel_rfl) (by rfl) (by go_simp; first | done | exact ⟨rfl, rfl⟩ | with_reducible rfl) rfl ?_
  refine (b2 w10).mono ?_
  rintro e' w11 ⟨rfl, hx⟩
  have hS : (fun W => W.rangeAt w.heap.size 0 (winC B (m : Int)) ∧ W.rangeAt P1 0 (winC X (M : Int)) ∧ W.rangeAt P2 0 (winC X (M : Int)) ∧ Below w.heap.size w W ∧ w.heap.size < W.heap.size ∧ P1 < W.heap.size ∧ P2 < W.heap.size) w11 := ⟨range_below hS.1 hx hS.2.2.2.2.1, range_below hS.2.1 hx hS.2.2.2.2.2.1, range_below hS.2.2.1 hx hS.2.2.2.2.2.2, hS.2.2.2.1.trans (hx.mono hS.2.2.2.1.size), Nat.lt_of_lt_of_le hS.2.2.2.2.1 hx.size, Nat.lt_of_lt_of_le hS.2.2.2.2.2.1 hx.size, Nat.lt_of_lt_of_le hS.2.2.2.2.2.2 hx.size⟩
  refine ⟨_, rfl, hS, ?_⟩
  simp only [Act.put, List.setIfInBounds_toArray, List.set_cons_zero, List.set_cons_succ]
  clear hx
  refine hs_take (i := 8) (d := some 31) (v := .bool true) rfl (by kernel_rfl) (by kernel_rfl) (by kernel_rfl) (by rfl) (fun w' hw => by go_simp; first | done | simp) hS rfl ?_
  simp only [Act.put, List.setIfInBounds_toArray, List.set_cons_zero, List.set_cons_succ]
  refine hs_take (i := 9) (d := some 32) (v := ?_) rfl (by kernel_rfl) (by kernel_rfl) (by kernel_rfl) (by rfl) ?_ hS rfl ?_
  rotate_left
  · intro w' hw
    go_simp
    try with_reducible rfl
  simp only [Act.put, List.setIfInBounds_toArray, List.set_cons_zero, List.set_cons_succ]
  refine hs_take (i := 10) (d := some 33) (v := ?_) rfl (by kernel_rfl) (by kernel_rfl) (by kernel_rfl) (by rfl) ?_ hS rfl ?_
  rotate_left
  · intro w' hw
    go_simp
    try with_reducible rfl
  simp only [Act.put, List.setIfInBounds_toArray, List.set_cons_zero, List.set_cons_succ]
  refine hs_take (i := 11) (d := some 34) (v := winV B (m : Int)) rfl (by kernel_rfl) (by kernel_rfl) (by kernel_rfl) (by rfl) (fun w' hw => exec_load rfl rfl (win_load hw.1)) hS rfl ?_
  simp only [Act.put, List.setIfInBounds_toArray, List.set_cons_zero, List.set_cons_succ]
  refine hs_take (i := 12) (d := some 35) (v := ?_) rfl (by kernel_rfl) (by kernel_rfl) (by kernel_rfl) (by rfl) ?_ hS rfl ?_
  rotate_left
  · intro w' hw
    go_simp
    try with_reducible rfl
  simp only [Act.put, List.setIfInBounds_toArray, List.set_cons_zero, List.set_cons_succ]
  refine hs_take (i := 14) (d := some 37) (v := winV B (m : Int)) rfl (by kernel_rfl) (by kernel_rfl) (by kernel_rfl) (by rfl) (fun w' hw => exec_load rfl rfl (win_load hw.1)) hS rfl ?_
  simp only [Act.put, List.setIfInBounds_toArray, List.set_cons_zero, List.set_cons_succ]
  refine hs_take (i := 15) (d := some 38) (v := ?_) rfl (by kernel_rfl) (by kernel_rfl) (by kernel_rfl) (by rfl) ?_ hS rfl ?_
  rotate_left
  · intro w' hw
    go_simp
    try with_reducible rfl
  simp only [Act.put, List.setIfInBounds_toArray, List.set_cons_zero, List.set_cons_succ]
  refine hs_call (i := 13) (d := some 36) rfl (by kernel_rfl) (by rfl) (by go_simp; first | done | exact ⟨rfl, rfl⟩ | with_reducible rfl) rfl ?_
  refine (d1 w11).mono ?_
  rintro e' w12 ⟨rfl, hx⟩
  have hS : (fun W => W.rangeAt w.heap.size 0 (winC B (m : Int)) ∧ W.rangeAt P1 0 (winC X (M : Int)) ∧ W.rangeAt P2 0 (winC X (M : Int)) ∧ Below w.heap.size w W ∧ w.heap.size < W.heap.size ∧ P1 < W.heap.size ∧ P2 < W.heap.size) w12 := ⟨range_below hS.1 hx hS.2.2.2.2.1, range_below hS.2.1 hx hS.2.2.2.2.2.1, range_below hS.2.2.1 hx hS.2.2.2.2.2.2, hS.2.2.2.1.trans (hx.mono hS.2.2.2.1.size), Nat.lt_of_lt_of_le hS.2.2.2.2.1 hx.size, Nat.lt_of_lt_of_le hS.2.2.2.2.2.1 hx.size, Nat.lt_of_lt_of_le hS.2.2.2.2.2.2 hx.size⟩
  refine ⟨_, rfl, hS, ?_⟩
  simp only [Act.put, List.setIfInBounds_toArray, List.set_cons_zero, List.set_cons_succ]
  clear hx
  refine hs_call (i := 16) (d := some 39) rfl (by kernel_rfl) (by rfl) (by go_simp; first | done | exact ⟨rfl, rfl⟩ | with_reducible rfl) rfl ?_
  refine (d2 w12).mono ?_
  rintro e' w13 ⟨rfl, hx⟩
  have hS : (fun W => W.rangeAt w.heap.size 0 (winC B (m : Int)) ∧ W.rangeAt P1 0 (winC X (M : Int)) ∧ W.rangeAt P2 0 (winC X (M : Int)) ∧ Below w.heap.size w W ∧ w.heap.size < W.heap.size ∧ P1 < W.heap.size ∧ P2 < W.heap.size) w13 := ⟨range_below hS.1 hx hS.2.2.2.2.1, range_below hS.2.1 hx hS.2.2.2.2.2.1, range_below hS.2.2.1 hx hS.2.2.2.2.2.2, hS.2.2.2.1.trans (hx.mono hS.2.2.2.1.size), Nat.lt_of_lt_of_le hS.2.2.2.2.1 hx.size, Nat.lt_of_lt_of_le hS.2.2.2.2.2.1 hx.size, Nat.lt_of_lt_of_le hS.2.2.2.2.2.2 hx.size⟩
  refine ⟨_, rfl, hS, ?_⟩
  simp only [Act.put, List.setIfInBounds_toArray, List.set_cons_zero, List.set_cons_succ]
  clear hx
  refine hs_take (i := 17) (d := some 40) (v := .bool true) rfl (by kernel_rfl) (by kernel_rfl) (by kernel_rfl) (by rfl) (fun w' hw => by go_simp; first | done | simp) hS rfl ?_
  simp only [Act.put, List.setIfInBounds_toArray, List.set_cons_zero, List.set_cons_succ]
  refine hs_take (i := 18) (d := some 41) (v := ?_) rfl (by kernel_rfl) (by kernel_rfl) (by kernel_rfl) (by rfl) ?_ hS rfl ?_
  rotate_left
  · intro w' hw
    go_simp
    try with_reducible rfl
  simp only [Act.put, List.setIfInBounds_toArray, List.set_cons_zero, List.set_cons_succ]
  refine hs_take (i := 19) (d := some 42) (v := ?_) rfl (by kernel_rfl) (by kernel_rfl) (by kernel_rfl) (by rfl) ?_ hS rfl ?_
  rotate_left
  · intro w' hw
    go_simp
    try with_reducible rfl
  simp only [Act.put, List.setIfInBounds_toArray, List.set_cons_zero, List.set_cons_succ]
  refine hs_take (i := 20) (d := some 43) (v := winV B (m : Int)) rfl (by kernel_rfl) (by kernel_rfl) (by kernel_rfl) (by rfl) (fun w' hw => exec_load rfl rfl (win_load hw.1)) hS rfl ?_
  simp only [Act.put, List.setIfInBounds_toArray, List.set_cons_zero, List.set_cons_succ]
  refine hs_take (i := 22) (d := some 45) (v := winV B (m : Int)) rfl (by kernel_rfl) (by kernel_rfl) (by kernel_rfl) (by rfl) (fun w' hw => exec_load rfl rfl (win_load hw.1)) hS rfl ?_
  simp only [Act.put, List.setIfInBounds_toArray, List.set_cons_zero, List.set_cons_succ]
  refine hs_call (i := 21) (d := some 44) rfl (by kernel_rfl) (by rfl) (by go_simp; first | done | exact ⟨rfl, rfl⟩ | with_reducible rfl) rfl ?_
  refine (e1 w13).mono ?_
  rintro e' w14 ⟨rfl, hx⟩
  have hS : (fun W => W.rangeAt w.heap.size 0 (winC B (m : Int)) ∧ W.rangeAt P1 0 (winC X (M : Int)) ∧ W.rangeAt P2 0 (winC X (M : Int)) ∧ Below w.heap.size w W ∧ w.heap.size < W.heap.size ∧ P1 < W.heap.size ∧ P2 < W.heap.size) w14 := ⟨range_below hS.1 hx hS.2.2.2.2.1, range_below hS.2.1 hx hS.2.2.2.2.2.1, range_below hS.2.2.1 hx hS.2.2.2.2.2.2, hS.2.2.2.1.trans (hx.mono hS.2.2.2.1.size), Nat.lt_of_lt_of_le hS.2.2.2.2.1 hx.size, Nat.lt_of_lt_of_le hS.2.2.2.2.2.1 hx.size, Nat.lt_of_lt_of_le hS.2.2.2.2.2.2 hx.size⟩
  refine ⟨_, rfl, hS, ?_⟩
  simp only [Act.put, List.setIfInBounds_toArray, List.set_cons_zero, List.set_cons_succ]
  clear hx
  refine hs_call (i := 23) (d := some 46) rfl (by kernel_rfl) (by rfl) (by go_simp; first | done | exact ⟨rfl, rfl⟩ | with_reducible rfl) rfl ?_
  refine (e2 w14).mono ?_
  rintro e' w15 ⟨rfl, hx⟩
  have hS : (fun W => W.rangeAt w.heap.size 0 (winC B (m : Int)) ∧ W.rangeAt P1 0 (winC X (M : Int)) ∧ W.rangeAt P2 0 (winC X (M : Int)) ∧ Below w.heap.size w W ∧ w.heap.size < W.heap.size ∧ P1 < W.heap.size ∧ P2 < W.heap.size) w15 := ⟨range_below hS.1 hx hS.2.2.2.2.1, range_below hS.2.1 hx hS.2.2.2.2.2.1, range_below hS.2.2.1 hx hS.2.2.2.2.2.2, hS.2.2.2.1.trans (hx.mono hS.2.2.2.1.size), Nat.lt_of_lt_of_le hS.2.2.2.2.1 hx.size, Nat.lt_of_lt_of_le hS.2.2.2.2.2.1 hx.size, Nat.lt_of_lt_of_le hS.2.2.2.2.2.2 hx.size⟩
  refine ⟨_, rfl, hS, ?_⟩
  simp only [Act.put, List.setIfInBounds_toArray, List.set_cons_zero, List.set_cons_succ]
  clear hx
  refine hs_take (i := 24) (d := some 47) (v := .bool true) rfl (by kernel_rfl) (by kernel_rfl) (by kernel_rfl) (by rfl) (fun w' hw => by go_simp; first | done | simp) hS rfl ?_
  simp only [Act.put, List.setIfInBounds_toArray, List.set_cons_zero, List.set_cons_succ]
  refine hs_take (i := 25) (d := some 48) (v := ?_) rfl (by kernel_rfl) (by kernel_rfl) (by kernel_rfl) (by rfl) ?_ hS rfl ?_
  rotate_left
  · intro w' hw
    go_simp
    try with_reducible rfl
  simp only [Act.put, List.setIfInBounds_toArray, List.set_cons_zero, List.set_cons_succ]
  refine hs_take (i := 26) (d := some 49) (v := ?_) rfl (by kernel_rfl) (by kernel_rfl) (by kernel_rfl) (by rfl) ?_ hS rfl ?_
  rotate_left
  · intro w' hw
    go_simp
    try with_reducible rfl
  simp only [Act.put, List.setIfInBounds_toArray, List.set_cons_zero, List.set_cons_succ]
  refine hs_take (i := 27) (d := some 50) (v := winV B (m : Int)) rfl (by kernel_rfl) (by kernel_rfl) (by kernel_rfl) (by rfl) (fun w' hw => exec_load rfl rfl (win_load hw.1)) hS rfl ?_
  simp only [Act.put, List.setIfInBounds_toArray, List.set_cons_zero, List.set_cons_succ]
  refine hs_take (i := 28) (d := some 51) (v := ?_) rfl (by kernel_rfl) (by kernel_rfl) (by kernel_rfl) (by rfl) ?_ hS rfl ?_
  rotate_left
  · intro w' hw
    go_simp
    try with_reducible rfl
  simp only [Act.put, List.setIfInBounds_toArray, List.set_cons_zero, List.set_cons_succ]
  refine hs_take (i := 29) (d := some 52) (v := ?_) rfl (by kernel_rfl) (by kernel_rfl) (by kernel_rfl) (by rfl) ?_ hS rfl ?_
  rotate_left
  · intro w' hw
    go_simp
    try with_reducible rfl
  simp only [Act.put, List.setIfInBounds_toArray, List.set_cons_zero, List.set_cons_succ]
  refine hs_take (i := 31) (d := some 54) (v := winV B (m : Int)) rfl (by kernel_rfl) (by kernel_rfl) (by kernel_rfl) (by rfl) (fun w' hw => exec_load rfl rfl (win_load hw.1)) hS rfl ?_
  simp only [Act.put, List.setIfInBounds_toArray, List.set_cons_zero, List.set_cons_succ]
  refine hs_take (i := 32) (d := some 55) (v := ?_) rfl (by kernel_rfl) (by kernel_rfl) (by kernel_rfl) (by rfl) ?_ hS rfl ?_
  rotate_left
  · intro w' hw
    go_simp
    try with_reducible rfl
  simp only [Act.put, List.setIfInBounds_toArray, List.set_cons_zero, List.set_cons_succ]
  refine hs_take (i := 33) (d := some 56) (v := ?_) rfl (by kernel_rfl) (by kernel_rfl) (by kernel_rfl) (by rfl) ?_ hS rfl ?_
  rotate_left
  · intro w' hw
    go_simp
    try with_reducible rfl
  simp only [Act.put, List.setIfInBounds_toArray, List.set_cons_zero, List.set_cons_succ]
  refine hs_call (i := 30) (d := some 53) rfl (by kernel_rfl) (by rfl) (by go_simp; first | done | exact ⟨rfl, rfl⟩ | with_reducible rfl) rfl ?_
  refine (f1 w15).mono ?_
  rintro e' w16 ⟨rfl, hx⟩
  have hS : (fun W => W.rangeAt w.heap.size 0 (winC B (m : Int)) ∧ W.rangeAt P1 0 (winC X (M : Int)) ∧ W.rangeAt P2 0 (winC X (M : Int)) ∧ Below w.heap.size w W ∧ w.heap.size < W.heap.size ∧ P1 < W.heap.size ∧ P2 < W.heap.size) w16 := ⟨range_below hS.1 hx hS.2.2.2.2.1, range_below hS.2.1 hx hS.2.2.2.2.2.1, range_below hS.2.2.1 hx hS.2.2.2.2.2.2, hS.2.2.2.1.trans (hx.mono hS.2.2.2.1.size), Nat.lt_of_lt_of_le hS.2.2.2.2.1 hx.size, Nat.lt_of_lt_of_le hS.2.2.2.2.2.1 hx.size, Nat.lt_of_lt_of_le hS.2.2.2.2.2.2 hx.size⟩
  refine ⟨_, rfl, hS, ?_⟩
  simp only [Act.put, List.setIfInBounds_toArray, List.set_cons_zero, List.set_cons_succ]
  clear hx
  refine hs_call (i := 34) (d := some 57) rfl (by kernel_rfl) (by rfl) (by go_simp; first | done | exact ⟨rfl, rfl⟩ | with_reducible rfl) rfl ?_
  refine (f2 w16).mono ?_
  rintro e' w17 ⟨rfl, hx⟩
  have hS : (fun W => W.rangeAt w.heap.size 0 (winC B (m : Int)) ∧ W.rangeAt P1 0 (winC X (M : Int)) ∧ W.rangeAt P2 0 (winC X (M : Int)) ∧ Below w.heap.size w W ∧ w.heap.size < W.heap.size ∧ P1 < W.heap.size ∧ P2 < W.heap.size) w17 := ⟨range_below hS.1 hx hS.2.2.2.2.1, range_below hS.2.1 hx hS.2.2.2.2.2.1, range_below hS.2.2.1 hx hS.2.2.2.2.2.2, hS.2.2.2.1.trans (hx.mono hS.2.2.2.1.size), Nat.lt_of_lt_of_le hS.2.2.2.2.1 hx.size, Nat.lt_of_lt_of_le hS.2.2.2.2.2.1 hx.size, Nat.lt_of_lt_of_le hS.2.2.2.2.2.2 hx.size⟩
  refine ⟨_, rfl, hS, ?_⟩
  simp only [Act.put, List.setIfInBounds_toArray, List.set_cons_zero, List.set_cons_succ]
  clear hx
  refine hs_take (i := 35) (d := some 58) (v := .bool true) rfl (by kernel_rfl) (by kernel_rfl) (by kernel_rfl) (by rfl) (fun w' hw => by go_simp; first | done | simp) hS rfl ?_
  simp only [Act.put, List.setIfInBounds_toArray, List.set_cons_zero, List.set_cons_succ]
  refine hs_take (i := 36) (d := some 59) (v := ?_) rfl (by kernel_rfl) (by kernel_rfl) (by kernel_rfl) (by rfl) ?_ hS rfl ?_
  rotate_left
  · intro w' hw
    go_simp
    try with_reducible rfl
  simp only [Act.put, List.setIfInBounds_toArray, List.set_cons_zero, List.set_cons_succ]
  refine hs_take (i := 37) (d := some 60) (v := ?_) rfl (by kernel_rfl) (by kernel_rfl) (by kernel_rfl) (by rfl) ?_ hS rfl ?_
  rotate_left
  · intro w' hw
    go_simp
    try with_reducible rfl
  simp only [Act.put, List.setIfInBounds_toArray, List.set_cons_zero, List.set_cons_succ]
  refine hs_take (i := 38) (d := some 61) (v := winV X (M : Int)) rfl (by kernel_rfl) (by kernel_rfl) (by kernel_rfl) (by rfl) (fun w' hw => exec_load rfl rfl (win_load hw.2.1)) hS rfl ?_
  simp only [Act.put, List.setIfInBounds_toArray, List.set_cons_zero, List.set_cons_succ]
  refine hs_take (i := 39) (d := some 62) (v := winV X (M : Int)) rfl (by kernel_rfl) (by kernel_rfl) (by kernel_rfl) (by rfl) (fun w' hw => exec_load rfl rfl (win_load hw.2.2.1)) hS rfl ?_
  simp only [Act.put, List.setIfInBounds_toArray, List.set_cons_zero, List.set_cons_succ]
  refine hs_take (i := 40) (d := some 63) (v := .bool true) rfl (by kernel_rfl) (by kernel_rfl) (by kernel_rfl) (by rfl) (fun w' hw => by go_simp; first | done | simp) hS rfl ?_
  simp only [Act.put, List.setIfInBounds_toArray, List.set_cons_zero, List.set_cons_succ]
  refine hs_take (i := 41) (d := some 64) (v := ?_) rfl (by kernel_rfl) (by kernel_rfl) (by kernel_rfl) (by rfl) ?_ hS rfl ?_
  rotate_left
  · intro w' hw
    go_simp
    try with_reducible rfl
  simp only [Act.put, List.setIfInBounds_toArray, List.set_cons_zero, List.set_cons_succ]
  refine hs_take (i := 42) (d := some 65) (v := ?_) rfl (by kernel_rfl) (by kernel_rfl) (by kernel_rfl) (by rfl) ?_ hS rfl ?_
  rotate_left
  · intro w' hw
    go_simp
    try with_reducible rfl
  simp only [Act.put, List.setIfInBounds_toArray, List.set_cons_zero, List.set_cons_succ]
  refine hs_take (i := 43) (d := some 66) (v := ?_) rfl (by kernel_rfl) (by kernel_rfl) (by kernel_rfl) (by rfl) ?_ hS rfl ?_
  rotate_left
  · intro w' hw
    go_simp
    try with_reducible rfl
  simp only [Act.put, List.setIfInBounds_toArray, List.set_cons_zero, List.set_cons_succ]
  refine hs_take (i := 44) (d := some 67) (v := ?_) rfl (by kernel_rfl) (by kernel_rfl) (by kernel_rfl) (by rfl) ?_ hS rfl ?_
  rotate_left
  · intro w' hw
    go_simp
    try with_reducible rfl
  simp only [Act.put, List.setIfInBounds_toArray, List.set_cons_zero, List.set_cons_succ]
  refine hs_take (i := 45) (d := some 68) (v := .bool true) rfl (by kernel_rfl) (by kernel_rfl) (by kernel_rfl) (by rfl) (fun w' hw => by go_simp; first | done | simp) hS rfl ?_
  simp only [Act.put, List.setIfInBounds_toArray, List.set_cons_zero, List.set_cons_succ]
  refine hs_take (i := 46) (d := some 69) (v := ?_) rfl (by kernel_rfl) (by kernel_rfl) (by kernel_rfl) (by rfl) ?_ hS rfl ?_
  rotate_left
  · intro w' hw
    go_simp
    try with_reducible rfl
  simp only [Act.put, List.setIfInBounds_toArray, List.set_cons_zero, List.set_cons_succ]
  refine hs_take (i := 47) (d := some 70) (v := ?_) rfl (by kernel_rfl) (by kernel_rfl) (by kernel_rfl) (by rfl) ?_ hS rfl ?_
  rotate_left
  · intro w' hw
    go_simp
    try with_reducible rfl
  simp only [Act.put, List.setIfInBounds_toArray, List.set_cons_zero, List.set_cons_succ]
  refine hs_call (i := 48) (d := some 71) rfl (by kernel_rfl) (by rfl) (by go_simp; first | done | exact ⟨rfl, rfl⟩ | with_reducible rfl) rfl ?_
  refine (lives_any w17).mono ?_
  rintro e' w18 ⟨rfl, hx⟩
  have hS : (fun W => W.rangeAt w.heap.size 0 (winC B (m : Int)) ∧ W.rangeAt P1 0 (winC X (M : Int)) ∧ W.rangeAt P2 0 (winC X (M : Int)) ∧ Below w.heap.size w W ∧ w.heap.size < W.heap.size ∧ P1 < W.heap.size ∧ P2 < W.heap.size) w18 := ⟨range_below hS.1 hx hS.2.2.2.2.1, range_below hS.2.1 hx hS.2.2.2.2.2.1, range_below hS.2.2.1 hx hS.2.2.2.2.2.2, hS.2.2.2.1.trans (hx.mono hS.2.2.2.1.size), Nat.lt_of_lt_of_le hS.2.2.2.2.1 hx.size, Nat.lt_of_lt_of_le hS.2.2.2.2.2.1 hx.size, Nat.lt_of_lt_of_le hS.2.2.2.2.2.2 hx.size⟩
  refine ⟨_, rfl, hS, ?_⟩
  simp only [Act.put, List.setIfInBounds_toArray, List.set_cons_zero, List.set_cons_succ]
  clear hx
  refine hs_take (i := 49) (d := some 72) (v := ?_) rfl (by kernel_rfl) (by kernel_rfl) (by kernel_rfl) (by rfl) ?_ hS rfl ?_
  rotate_left
  · intro w' hw
    go_simp
    try with_reducible rfl
  simp only [Act.put, List.setIfInBounds_toArray, List.set_cons_zero, List.set_cons_succ]
  refine hs_take (i := 50) (d := some 6) (v := ?_) rfl (by kernel_rfl) (by kernel_rfl) (by kernel_rfl) (by rfl) ?_ hS rfl ?_
  rotate_left
  · intro w' hw
    go_simp
    try with_reducible rfl
  simp only [Act.put, List.setIfInBounds_toArray, List.set_cons_zero, List.set_cons_succ]
  refine hs_done (by kernel_rfl) ?_
  go_wp2_with fail
  go_ret
  exact ⟨rfl, hS.2.2.2.1⟩
end Go.Proofs.Ytnjlamcpfclgaaa
