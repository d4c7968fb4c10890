/- the document's Good: contracts -/
import Derived.Test.YtinpbnkmpplkiaaDoorRq8
namespace Go.Proofs.YtinpbnkmpplkiaaDoor
open Go.RowKit
open Sha Tal
theorem two_boxes (w : World) (q : List Value) : Below w.heap.size w ((w.alloc (.cells rkL.toArray 29)).alloc (.cells q.toArray 60)) ∧
    ((w.alloc (.cells rkL.toArray 29)).alloc (.cells q.toArray 60)).rangeAt w.heap.size 0 rkL ∧ ((w.alloc (.cells rkL.toArray 29)).alloc (.cells q.toArray 60)).rangeAt (w.heap.size + 1) 0 q ∧
    w.heap.size + 1 < ((w.alloc (.cells rkL.toArray 29)).alloc (.cells q.toArray 60)).heap.size := by
  have b1 : Below w.heap.size w (w.alloc (.cells rkL.toArray 29)) := (Below.refl _ _).alloc (Nat.le_refl _) _
  refine ⟨b1.alloc b1.size _, World.rangeAt_alloc (range_new w rkL.toArray 29) _, ?_, by simp⟩
  have := range_new (w.alloc (.cells rkL.toArray 29)) q.toArray 60
  rw [World.size_alloc] at this
  simpa using this
set_option maxRecDepth 100000 in
set_option maxHeartbeats 2000000 in
theorem refGood_no (N m c n : Int) (s : ByteArray) (t : List Int) (w : World) (ht : t.length = 16) (hm : ¬ (0 ≤ c ∧ c < m ∧ 1 ≤ n ∧ n ≤ 1099511627776 ∧ s.size ≤ 64)) :
   Calls Tryd.prog 37 #[.agg rkL.toArray, .int .i64 N, .int .i64 m, .agg (reqL c n s t).toArray] w fun e w' => e = .returned (.int .i64 60) ∧ Below w.heap.size w w' := by
  have cm := fun w0 => form_any c n m s t w0
  have hmb : decide (0 ≤ c ∧ c < m ∧ 1 ≤ n ∧ n ≤ 1099511627776 ∧ s.size ≤ 64) = false := decide_eq_false hm
  simp only [hmb] at cm
  clear hmb
  have hi0' : (Tryd.prog.info? 60).map (·.size) = some (reqL c n s t).length := by rw [reqL_length _ _ _ _ ht]; exact iszR
  have hiK' : (Tryd.prog.info? 29).map (·.size) = some rkL.length := iszK
  have hq0 := fun (w0 : World) (b0 : Nat) h0 => @reqL_0 w0 b0 c n s t h0
  obtain ⟨q, hq⟩ : ∃ q, Hid (reqL c n s t = q) := ⟨_, hide rfl⟩
  rw [hq.out] at hi0' ⊢
  simp only [hq.out] at cm hq0
  obtain ⟨hB1, hK1, hR1, hz1⟩ := two_boxes w q
  go_enter Tryd.func37, Tryd.ntmps37
  go_upto_region 1 with fail
  go_name_world w1 hw1
  rw [hw1] at hB1 hK1 hR1 hz1
  clear hw1
  obtain ⟨V, hV⟩ : ∃ V, Hid (w.heap.size = V) := ⟨_, hide rfl⟩
  obtain ⟨X, hX⟩ : ∃ X, Hid (w.heap.size + 1 = X) := ⟨_, hide rfl⟩
  have hVX : V < X := by rw [← hV.out, ← hX.out]; omega
  rw [hX.out] at hR1 hz1 ⊢
  rw [hV.out] at hK1 ⊢
  try simp only [Act.put]
  refine wp_region_list ?_
  refine wpList_step fun K hK => ?_
  go_simp
  refine hK _ _ ?_
  clear hK K
  refine wpList_load_mid rfl 60 _ rfl _ _ rfl q _ hR1 Tryd.underlying60 rfl hi0' ?_
  go_wp2_with fail
  refine (cm w1).mono ?_
  rintro e w3 ⟨rfl, hw3⟩
  have hB3 := hB1.trans (hw3.mono hB1.size)
  have hR3 := range_below hR1 hw3 hz1
  have hK3 := range_below hK1 hw3 (by omega)
  have hz3 := Nat.lt_of_lt_of_le hz1 hw3.size
  clear hB1 hR1 hz1 cm hw3 hK1
  go_wp2_with fail
  go_ret
  exact ⟨rfl, hB3⟩
set_option maxRecDepth 100000 in
set_option maxHeartbeats 2000000 in
theorem refGood_b1 (N m c n : Int) (s : ByteArray) (t : List Int) (w : World) (ht : t.length = 16) (hm : 0 ≤ c ∧ c < m ∧ 1 ≤ n ∧ n ≤ 1099511627776 ∧ s.size ≤ 64) (hN : N < 0) :
   Calls Tryd.prog 37 #[.agg rkL.toArray, .int .i64 N, .int .i64 m, .agg (reqL c n s t).toArray] w fun e w' => e = .returned (.int .i64 61) ∧ Below w.heap.size w w' := by
  have cm := fun w0 => form_any c n m s t w0
  have hmb : decide (0 ≤ c ∧ c < m ∧ 1 ≤ n ∧ n ≤ 1099511627776 ∧ s.size ≤ 64) = true := decide_eq_true hm
  simp only [hmb] at cm
  clear hmb
  have hi0' : (Tryd.prog.info? 60).map (·.size) = some (reqL c n s t).length := by rw [reqL_length _ _ _ _ ht]; exact iszR
  have hiK' : (Tryd.prog.info? 29).map (·.size) = some rkL.length := iszK
  have hq0 := fun (w0 : World) (b0 : Nat) h0 => @reqL_0 w0 b0 c n s t h0
  obtain ⟨q, hq⟩ : ∃ q, Hid (reqL c n s t = q) := ⟨_, hide rfl⟩
  rw [hq.out] at hi0' ⊢
  simp only [hq.out] at cm hq0
  obtain ⟨hB1, hK1, hR1, hz1⟩ := two_boxes w q
  go_enter Tryd.func37, Tryd.ntmps37
  go_upto_region 1 with fail
  go_name_world w1 hw1
  rw [hw1] at hB1 hK1 hR1 hz1
  clear hw1
  obtain ⟨V, hV⟩ : ∃ V, Hid (w.heap.size = V) := ⟨_, hide rfl⟩
  obtain ⟨X, hX⟩ : ∃ X, Hid (w.heap.size + 1 = X) := ⟨_, hide rfl⟩
  have hVX : V < X := by rw [← hV.out, ← hX.out]; omega
  rw [hX.out] at hR1 hz1 ⊢
  rw [hV.out] at hK1 ⊢
  try simp only [Act.put]
  refine wp_region_list ?_
  refine wpList_step fun K hK => ?_
  go_simp
  refine hK _ _ ?_
  clear hK K
  refine wpList_load_mid rfl 60 _ rfl _ _ rfl q _ hR1 Tryd.underlying60 rfl hi0' ?_
  go_wp2_with fail
  refine (cm w1).mono ?_
  rintro e w3 ⟨rfl, hw3⟩
  have hB3 := hB1.trans (hw3.mono hB1.size)
  have hR3 := range_below hR1 hw3 hz1
  have hK3 := range_below hK1 hw3 (by omega)
  have hz3 := Nat.lt_of_lt_of_le hz1 hw3.size
  clear hB1 hR1 hz1 cm hw3 hK1
  have hB4 := hB3.drew
  have hR4 : w3.drew.rangeAt X 0 q := (World.rangeAt_drew _ _ _ _).2 hR3
  have hK4 : w3.drew.rangeAt V 0 rkL := (World.rangeAt_drew _ _ _ _).2 hK3
  have hz4 : X < w3.drew.heap.size := hz3
  clear hB3 hR3 hK3 hz3
  go_wp2_with fail
  obtain ⟨w5, hw5⟩ : ∃ w5, w3.drew = w5 := ⟨_, rfl⟩
  rw [hw5] at hB4 hR4 hK4 hz4
  have c0 : ∀ w', Below w5.heap.size w5 w' → w'.cell? ⟨X, 0, none⟩ = some (.int .i64 c) := fun w' hw' => (hq0 w' X (range_below hR4 hw' hz4)).1
  refine hs_begin (S := (Below w5.heap.size w5)) 24 rfl (by kernel_rfl) ?_
  rw [hw5]
  clear hw5
  have hS : (Below w5.heap.size w5) w5 := Below.refl _ _
  refine hs_take (i := 0) (d := some 13) (v := ?_) rfl (by kernel_rfl) (by kernel_rfl) (by kernel_rfl) (by rfl) ?_ hS rfl ?_
  rotate_left
  · intro w' hw
    go_simp
    try with_reducible rfl
  simp only [Act.put, List.setIfInBounds_toArray, List.set_cons_zero, List.set_cons_succ]
  refine hs_take (i := 1) (d := some 14) (v := .bool true) rfl (by kernel_rfl) (by kernel_rfl) (by kernel_rfl) (by rfl) (fun w' hw => by go_simp) hS rfl ?_
  simp only [Act.put, List.setIfInBounds_toArray, List.set_cons_zero, List.set_cons_succ]
  refine hs_take (i := 2) (d := some 15) (v := ?_) rfl (by kernel_rfl) (by kernel_rfl) (by kernel_rfl) (by rfl) ?_ hS rfl ?_
  rotate_left
  · intro w' hw
    go_simp
    try with_reducible rfl
  simp only [Act.put, List.setIfInBounds_toArray, List.set_cons_zero, List.set_cons_succ]
  refine hs_skip (i := 3) (d := some 16) rfl (by kernel_rfl) (by kernel_rfl) (by kernel_rfl) (by rfl) hS rfl ?_
  simp only [Act.put, List.setIfInBounds_toArray, List.set_cons_zero, List.set_cons_succ]
  refine hs_skip (i := 4) (d := some 17) rfl (by kernel_rfl) (by kernel_rfl) (by kernel_rfl) (by rfl) hS rfl ?_
  simp only [Act.put, List.setIfInBounds_toArray, List.set_cons_zero, List.set_cons_succ]
  refine hs_take (i := 5) (d := some 18) (v := ?_) rfl (by kernel_rfl) (by kernel_rfl) (by kernel_rfl) (by rfl) ?_ hS rfl ?_
  rotate_left
  · intro w' hw
    go_simp
    try with_reducible rfl
  simp only [Act.put, List.setIfInBounds_toArray, List.set_cons_zero, List.set_cons_succ]
  refine hs_take (i := 6) (d := some 19) (v := ?_) rfl (by kernel_rfl) (by kernel_rfl) (by kernel_rfl) (by rfl) ?_ hS rfl ?_
  rotate_left
  · intro w' hw
    go_simp
    try with_reducible rfl
  simp only [Act.put, List.setIfInBounds_toArray, List.set_cons_zero, List.set_cons_succ]
  refine hs_skip (i := 7) (d := some 20) rfl (by kernel_rfl) (by kernel_rfl) (by kernel_rfl) (by rfl) hS rfl ?_
  simp only [Act.put, List.setIfInBounds_toArray, List.set_cons_zero, List.set_cons_succ]
  refine hs_skip (i := 8) (d := some 21) rfl (by kernel_rfl) (by kernel_rfl) (by kernel_rfl) (by rfl) hS rfl ?_
  simp only [Act.put, List.setIfInBounds_toArray, List.set_cons_zero, List.set_cons_succ]
  refine hs_skip (i := 9) (d := some 22) rfl (by kernel_rfl) (by kernel_rfl) (by kernel_rfl) (by rfl) hS rfl ?_
  simp only [Act.put, List.setIfInBounds_toArray, List.set_cons_zero, List.set_cons_succ]
  refine hs_take (i := 10) (d := some 23) (v := ?_) rfl (by kernel_rfl) (by kernel_rfl) (by kernel_rfl) (by rfl) ?_ hS rfl ?_
  rotate_left
  · intro w' hw
    go_simp
    try with_reducible rfl
  simp only [Act.put, List.setIfInBounds_toArray, List.set_cons_zero, List.set_cons_succ]
  refine hs_take (i := 11) (d := some 24) (v := ?_) rfl (by kernel_rfl) (by kernel_rfl) (by kernel_rfl) (by rfl) ?_ hS rfl ?_
  rotate_left
  · intro w' hw
    go_simp
    try with_reducible rfl
  simp only [Act.put, List.setIfInBounds_toArray, List.set_cons_zero, List.set_cons_succ]
  refine hs_skip (i := 12) (d := some 25) rfl (by kernel_rfl) (by kernel_rfl) (by kernel_rfl) (by rfl) hS rfl ?_
  simp only [Act.put, List.setIfInBounds_toArray, List.set_cons_zero, List.set_cons_succ]
  refine hs_skip (i := 13) (d := some 26) rfl (by kernel_rfl) (by kernel_rfl) (by kernel_rfl) (by rfl) hS rfl ?_
  simp only [Act.put, List.setIfInBounds_toArray, List.set_cons_zero, List.set_cons_succ]
  refine hs_skip (i := 14) (d := some 27) rfl (by kernel_rfl) (by kernel_rfl) (by kernel_rfl) (by rfl) hS rfl ?_
  simp only [Act.put, List.setIfInBounds_toArray, List.set_cons_zero, List.set_cons_succ]
  refine hs_skip (i := 15) (d := some 28) rfl (by kernel_rfl) (by kernel_rfl) (by kernel_rfl) (by rfl) hS rfl ?_
  simp only [Act.put, List.setIfInBounds_toArray, List.set_cons_zero, List.set_cons_succ]
  refine hs_skip (i := 16) (d := some 29) rfl (by kernel_rfl) (by kernel_rfl) (by kernel_rfl) (by rfl) hS rfl ?_
  simp only [Act.put, List.setIfInBounds_toArray, List.set_cons_zero, List.set_cons_succ]
  refine hs_skip (i := 17) (d := some 30) rfl (by kernel_rfl) (by kernel_rfl) (by kernel_rfl) (by rfl) hS rfl ?_
  simp only [Act.put, List.setIfInBounds_toArray, List.set_cons_zero, List.set_cons_succ]
  refine hs_skip (i := 18) (d := some 31) rfl (by kernel_rfl) (by kernel_rfl) (by kernel_rfl) (by rfl) hS rfl ?_
  simp only [Act.put, List.setIfInBounds_toArray, List.set_cons_zero, List.set_cons_succ]
  refine hs_skip (i := 19) (d := some 32) rfl (by kernel_rfl) (by kernel_rfl) (by kernel_rfl) (by rfl) hS rfl ?_
  simp only [Act.put, List.setIfInBounds_toArray, List.set_cons_zero, List.set_cons_succ]
  refine hs_skip (i := 20) (d := some 33) rfl (by kernel_rfl) (by kernel_rfl) (by kernel_rfl) (by rfl) hS rfl ?_
  simp only [Act.put, List.setIfInBounds_toArray, List.set_cons_zero, List.set_cons_succ]
  refine hs_skip (i := 21) (d := some 34) rfl (by kernel_rfl) (by kernel_rfl) (by kernel_rfl) (by rfl) hS rfl ?_
  simp only [Act.put, List.setIfInBounds_toArray, List.set_cons_zero, List.set_cons_succ]
  refine hs_skip (i := 22) (d := some 35) rfl (by kernel_rfl) (by kernel_rfl) (by kernel_rfl) (by rfl) hS rfl ?_
  simp only [Act.put, List.setIfInBounds_toArray, List.set_cons_zero, List.set_cons_succ]
  refine hs_take (i := 23) (d := some 36) (v := .bool true) rfl (by kernel_rfl) (by kernel_rfl) (by kernel_rfl) (by rfl) (fun w' hw => by go_simp) hS rfl ?_
  simp only [Act.put, List.setIfInBounds_toArray, List.set_cons_zero, List.set_cons_succ]
  refine hs_done (by kernel_rfl) ?_
  have hfin := hB4.trans (hS.mono hB4.size)
  go_wp2_with fail
  go_ret
  exact ⟨rfl, hfin⟩
set_option maxRecDepth 100000 in
set_option maxHeartbeats 2000000 in
theorem refGood_b2 (N m c n : Int) (s : ByteArray) (t : List Int) (w : World) (ht : t.length = 16) (hm : 0 ≤ c ∧ c < m ∧ 1 ≤ n ∧ n ≤ 1099511627776 ∧ s.size ≤ 64) (hN0 : ¬ N < 0) (hN : 64 < N) :
   Calls Tryd.prog 37 #[.agg rkL.toArray, .int .i64 N, .int .i64 m, .agg (reqL c n s t).toArray] w fun e w' => e = .returned (.int .i64 61) ∧ Below w.heap.size w w' := by
  have cm := fun w0 => form_any c n m s t w0
  have hmb : decide (0 ≤ c ∧ c < m ∧ 1 ≤ n ∧ n ≤ 1099511627776 ∧ s.size ≤ 64) = true := decide_eq_true hm
  simp only [hmb] at cm
  clear hmb
  have hi0' : (Tryd.prog.info? 60).map (·.size) = some (reqL c n s t).length := by rw [reqL_length _ _ _ _ ht]; exact iszR
  have hiK' : (Tryd.prog.info? 29).map (·.size) = some rkL.length := iszK
  have hq0 := fun (w0 : World) (b0 : Nat) h0 => @reqL_0 w0 b0 c n s t h0
  obtain ⟨q, hq⟩ : ∃ q, Hid (reqL c n s t = q) := ⟨_, hide rfl⟩
  rw [hq.out] at hi0' ⊢
  simp only [hq.out] at cm hq0
  obtain ⟨hB1, hK1, hR1, hz1⟩ := two_boxes w q
  go_enter Tryd.func37, Tryd.ntmps37
  go_upto_region 1 with fail
  go_name_world w1 hw1
  rw [hw1] at hB1 hK1 hR1 hz1
  clear hw1
  obtain ⟨V, hV⟩ : ∃ V, Hid (w.heap.size = V) := ⟨_, hide rfl⟩
  obtain ⟨X, hX⟩ : ∃ X, Hid (w.heap.size + 1 = X) := ⟨_, hide rfl⟩
  have hVX : V < X := by rw [← hV.out, ← hX.out]; omega
  rw [hX.out] at hR1 hz1 ⊢
  rw [hV.out] at hK1 ⊢
  try simp only [Act.put]
  refine wp_region_list ?_
  refine wpList_step fun K hK => ?_
  go_simp
  refine hK _ _ ?_
  clear hK K
  refine wpList_load_mid rfl 60 _ rfl _ _ rfl q _ hR1 Tryd.underlying60 rfl hi0' ?_
  go_wp2_with fail
  refine (cm w1).mono ?_
  rintro e w3 ⟨rfl, hw3⟩
  have hB3 := hB1.trans (hw3.mono hB1.size)
  have hR3 := range_below hR1 hw3 hz1
  have hK3 := range_below hK1 hw3 (by omega)
  have hz3 := Nat.lt_of_lt_of_le hz1 hw3.size
  clear hB1 hR1 hz1 cm hw3 hK1
  have hB4 := hB3.drew
  have hR4 : w3.drew.rangeAt X 0 q := (World.rangeAt_drew _ _ _ _).2 hR3
  have hK4 : w3.drew.rangeAt V 0 rkL := (World.rangeAt_drew _ _ _ _).2 hK3
  have hz4 : X < w3.drew.heap.size := hz3
  clear hB3 hR3 hK3 hz3
  go_wp2_with fail
  obtain ⟨w5, hw5⟩ : ∃ w5, w3.drew = w5 := ⟨_, rfl⟩
  rw [hw5] at hB4 hR4 hK4 hz4
  have c0 : ∀ w', Below w5.heap.size w5 w' → w'.cell? ⟨X, 0, none⟩ = some (.int .i64 c) := fun w' hw' => (hq0 w' X (range_below hR4 hw' hz4)).1
  refine hs_begin (S := (Below w5.heap.size w5)) 24 rfl (by kernel_rfl) ?_
  rw [hw5]
  clear hw5
  have hS : (Below w5.heap.size w5) w5 := Below.refl _ _
  refine hs_take (i := 0) (d := some 13) (v := ?_) rfl (by kernel_rfl) (by kernel_rfl) (by kernel_rfl) (by rfl) ?_ hS rfl ?_
  rotate_left
  · intro w' hw
    go_simp
    try with_reducible rfl
  simp only [Act.put, List.setIfInBounds_toArray, List.set_cons_zero, List.set_cons_succ]
  refine hs_take (i := 1) (d := some 14) (v := .bool false) rfl (by kernel_rfl) (by kernel_rfl) (by kernel_rfl) (by rfl) (fun w' hw => by go_simp) hS rfl ?_
  simp only [Act.put, List.setIfInBounds_toArray, List.set_cons_zero, List.set_cons_succ]
  refine hs_take (i := 2) (d := some 15) (v := ?_) rfl (by kernel_rfl) (by kernel_rfl) (by kernel_rfl) (by rfl) ?_ hS rfl ?_
  rotate_left
  · intro w' hw
    go_simp
    try with_reducible rfl
  simp only [Act.put, List.setIfInBounds_toArray, List.set_cons_zero, List.set_cons_succ]
  refine hs_take (i := 3) (d := some 16) (v := ?_) rfl (by kernel_rfl) (by kernel_rfl) (by kernel_rfl) (by rfl) ?_ hS rfl ?_
  rotate_left
  · intro w' hw
    go_simp
    try with_reducible rfl
  simp only [Act.put, List.setIfInBounds_toArray, List.set_cons_zero, List.set_cons_succ]
  refine hs_take (i := 4) (d := some 17) (v := .bool true) rfl (by kernel_rfl) (by kernel_rfl) (by kernel_rfl) (by rfl) (fun w' hw => by go_simp) hS rfl ?_
  simp only [Act.put, List.setIfInBounds_toArray, List.set_cons_zero, List.set_cons_succ]
  refine hs_take (i := 5) (d := some 18) (v := ?_) rfl (by kernel_rfl) (by kernel_rfl) (by kernel_rfl) (by rfl) ?_ hS rfl ?_
  rotate_left
  · intro w' hw
    go_simp
    try with_reducible rfl
  simp only [Act.put, List.setIfInBounds_toArray, List.set_cons_zero, List.set_cons_succ]
  refine hs_take (i := 6) (d := some 19) (v := ?_) rfl (by kernel_rfl) (by kernel_rfl) (by kernel_rfl) (by rfl) ?_ hS rfl ?_
  rotate_left
  · intro w' hw
    go_simp
    try with_reducible rfl
  simp only [Act.put, List.setIfInBounds_toArray, List.set_cons_zero, List.set_cons_succ]
  refine hs_skip (i := 7) (d := some 20) rfl (by kernel_rfl) (by kernel_rfl) (by kernel_rfl) (by rfl) hS rfl ?_
  simp only [Act.put, List.setIfInBounds_toArray, List.set_cons_zero, List.set_cons_succ]
  refine hs_skip (i := 8) (d := some 21) rfl (by kernel_rfl) (by kernel_rfl) (by kernel_rfl) (by rfl) hS rfl ?_
  simp only [Act.put, List.setIfInBounds_toArray, List.set_cons_zero, List.set_cons_succ]
  refine hs_skip (i := 9) (d := some 22) rfl (by kernel_rfl) (by kernel_rfl) (by kernel_rfl) (by rfl) hS rfl ?_
  simp only [Act.put, List.setIfInBounds_toArray, List.set_cons_zero, List.set_cons_succ]
  refine hs_take (i := 10) (d := some 23) (v := ?_) rfl (by kernel_rfl) (by kernel_rfl) (by kernel_rfl) (by rfl) ?_ hS rfl ?_
  rotate_left
  · intro w' hw
    go_simp
    try with_reducible rfl
  simp only [Act.put, List.setIfInBounds_toArray, List.set_cons_zero, List.set_cons_succ]
  refine hs_take (i := 11) (d := some 24) (v := ?_) rfl (by kernel_rfl) (by kernel_rfl) (by kernel_rfl) (by rfl) ?_ hS rfl ?_
  rotate_left
  · intro w' hw
    go_simp
    try with_reducible rfl
  simp only [Act.put, List.setIfInBounds_toArray, List.set_cons_zero, List.set_cons_succ]
  refine hs_skip (i := 12) (d := some 25) rfl (by kernel_rfl) (by kernel_rfl) (by kernel_rfl) (by rfl) hS rfl ?_
  simp only [Act.put, List.setIfInBounds_toArray, List.set_cons_zero, List.set_cons_succ]
  refine hs_skip (i := 13) (d := some 26) rfl (by kernel_rfl) (by kernel_rfl) (by kernel_rfl) (by rfl) hS rfl ?_
  simp only [Act.put, List.setIfInBounds_toArray, List.set_cons_zero, List.set_cons_succ]
  refine hs_skip (i := 14) (d := some 27) rfl (by kernel_rfl) (by kernel_rfl) (by kernel_rfl) (by rfl) hS rfl ?_
  simp only [Act.put, List.setIfInBounds_toArray, List.set_cons_zero, List.set_cons_succ]
  refine hs_skip (i := 15) (d := some 28) rfl (by kernel_rfl) (by kernel_rfl) (by kernel_rfl) (by rfl) hS rfl ?_
  simp only [Act.put, List.setIfInBounds_toArray, List.set_cons_zero, List.set_cons_succ]
  refine hs_skip (i := 16) (d := some 29) rfl (by kernel_rfl) (by kernel_rfl) (by kernel_rfl) (by rfl) hS rfl ?_
  simp only [Act.put, List.setIfInBounds_toArray, List.set_cons_zero, List.set_cons_succ]
  refine hs_skip (i := 17) (d := some 30) rfl (by kernel_rfl) (by kernel_rfl) (by kernel_rfl) (by rfl) hS rfl ?_
  simp only [Act.put, List.setIfInBounds_toArray, List.set_cons_zero, List.set_cons_succ]
  refine hs_skip (i := 18) (d := some 31) rfl (by kernel_rfl) (by kernel_rfl) (by kernel_rfl) (by rfl) hS rfl ?_
  simp only [Act.put, List.setIfInBounds_toArray, List.set_cons_zero, List.set_cons_succ]
  refine hs_skip (i := 19) (d := some 32) rfl (by kernel_rfl) (by kernel_rfl) (by kernel_rfl) (by rfl) hS rfl ?_
  simp only [Act.put, List.setIfInBounds_toArray, List.set_cons_zero, List.set_cons_succ]
  refine hs_skip (i := 20) (d := some 33) rfl (by kernel_rfl) (by kernel_rfl) (by kernel_rfl) (by rfl) hS rfl ?_
  simp only [Act.put, List.setIfInBounds_toArray, List.set_cons_zero, List.set_cons_succ]
  refine hs_skip (i := 21) (d := some 34) rfl (by kernel_rfl) (by kernel_rfl) (by kernel_rfl) (by rfl) hS rfl ?_
  simp only [Act.put, List.setIfInBounds_toArray, List.set_cons_zero, List.set_cons_succ]
  refine hs_skip (i := 22) (d := some 35) rfl (by kernel_rfl) (by kernel_rfl) (by kernel_rfl) (by rfl) hS rfl ?_
  simp only [Act.put, List.setIfInBounds_toArray, List.set_cons_zero, List.set_cons_succ]
  refine hs_take (i := 23) (d := some 36) (v := .bool true) rfl (by kernel_rfl) (by kernel_rfl) (by kernel_rfl) (by rfl) (fun w' hw => by go_simp) hS rfl ?_
  simp only [Act.put, List.setIfInBounds_toArray, List.set_cons_zero, List.set_cons_succ]
  refine hs_done (by kernel_rfl) ?_
  have hfin := hB4.trans (hS.mono hB4.size)
  go_wp2_with fail
  go_ret
  exact ⟨rfl, hfin⟩
set_option maxRecDepth 100000 in
set_option maxHeartbeats 2000000 in
theorem refGood_b3 (N m c n : Int) (s : ByteArray) (t : List Int) (w : World) (ht : t.length = 16) (hm : 0 ≤ c ∧ c < m ∧ 1 ≤ n ∧ n ≤ 1099511627776 ∧ s.size ≤ 64) (hN0 : ¬ N < 0) (hN1 : ¬ 64 < N) (hc : 4096 < c) :
   Calls Tryd.prog 37 #[.agg rkL.toArray, .int .i64 N, .int .i64 m, .agg (reqL c n s t).toArray] w fun e w' => e = .returned (.int .i64 61) ∧ Below w.heap.size w w' := by
  have cm := fun w0 => form_any c n m s t w0
  have hmb : decide (0 ≤ c ∧ c < m ∧ 1 ≤ n ∧ n ≤ 1099511627776 ∧ s.size ≤ 64) = true := decide_eq_true hm
  simp only [hmb] at cm
  clear hmb
  have hi0' : (Tryd.prog.info? 60).map (·.size) = some (reqL c n s t).length := by rw [reqL_length _ _ _ _ ht]; exact iszR
  have hiK' : (Tryd.prog.info? 29).map (·.size) = some rkL.length := iszK
  have hq0 := fun (w0 : World) (b0 : Nat) h0 => @reqL_0 w0 b0 c n s t h0
  obtain ⟨q, hq⟩ : ∃ q, Hid (reqL c n s t = q) := ⟨_, hide rfl⟩
  rw [hq.out] at hi0' ⊢
  simp only [hq.out] at cm hq0
  obtain ⟨hB1, hK1, hR1, hz1⟩ := two_boxes w q
  go_enter Tryd.func37, Tryd.ntmps37
  go_upto_region 1 with fail
  go_name_world w1 hw1
  rw [hw1] at hB1 hK1 hR1 hz1
  clear hw1
  obtain ⟨V, hV⟩ : ∃ V, Hid (w.heap.size = V) := ⟨_, hide rfl⟩
  obtain ⟨X, hX⟩ : ∃ X, Hid (w.heap.size + 1 = X) := ⟨_, hide rfl⟩
  have hVX : V < X := by rw [← hV.out, ← hX.out]; omega
  rw [hX.out] at hR1 hz1 ⊢
  rw [hV.out] at hK1 ⊢
  try simp only [Act.put]
  refine wp_region_list ?_
  refine wpList_step fun K hK => ?_
  go_simp
  refine hK _ _ ?_
  clear hK K
  refine wpList_load_mid rfl 60 _ rfl _ _ rfl q _ hR1 Tryd.underlying60 rfl hi0' ?_
  go_wp2_with fail
  refine (cm w1).mono ?_
  rintro e w3 ⟨rfl, hw3⟩
  have hB3 := hB1.trans (hw3.mono hB1.size)
  have hR3 := range_below hR1 hw3 hz1
  have hK3 := range_below hK1 hw3 (by omega)
  have hz3 := Nat.lt_of_lt_of_le hz1 hw3.size
  clear hB1 hR1 hz1 cm hw3 hK1
  have hB4 := hB3.drew
  have hR4 : w3.drew.rangeAt X 0 q := (World.rangeAt_drew _ _ _ _).2 hR3
  have hK4 : w3.drew.rangeAt V 0 rkL := (World.rangeAt_drew _ _ _ _).2 hK3
  have hz4 : X < w3.drew.heap.size := hz3
  clear hB3 hR3 hK3 hz3
  go_wp2_with fail
  obtain ⟨w5, hw5⟩ : ∃ w5, w3.drew = w5 := ⟨_, rfl⟩
  rw [hw5] at hB4 hR4 hK4 hz4
  have c0 : ∀ w', Below w5.heap.size w5 w' → w'.cell? ⟨X, 0, none⟩ = some (.int .i64 c) := fun w' hw' => (hq0 w' X (range_below hR4 hw' hz4)).1
  refine hs_begin (S := (Below w5.heap.size w5)) 24 rfl (by kernel_rfl) ?_
  rw [hw5]
  clear hw5
  have hS : (Below w5.heap.size w5) w5 := Below.refl _ _
  refine hs_take (i := 0) (d := some 13) (v := ?_) rfl (by kernel_rfl) (by kernel_rfl) (by kernel_rfl) (by rfl) ?_ hS rfl ?_
  rotate_left
  · intro w' hw
    go_simp
    try with_reducible rfl
  simp only [Act.put, List.setIfInBounds_toArray, List.set_cons_zero, List.set_cons_succ]
  refine hs_take (i := 1) (d := some 14) (v := .bool false) rfl (by kernel_rfl) (by kernel_rfl) (by kernel_rfl) (by rfl) (fun w' hw => by go_simp) hS rfl ?_
  simp only [Act.put, List.setIfInBounds_toArray, List.set_cons_zero, List.set_cons_succ]
  refine hs_take (i := 2) (d := some 15) (v := ?_) rfl (by kernel_rfl) (by kernel_rfl) (by kernel_rfl) (by rfl) ?_ hS rfl ?_
  rotate_left
  · intro w' hw
    go_simp
    try with_reducible rfl
  simp only [Act.put, List.setIfInBounds_toArray, List.set_cons_zero, List.set_cons_succ]
  refine hs_take (i := 3) (d := some 16) (v := ?_) rfl (by kernel_rfl) (by kernel_rfl) (by kernel_rfl) (by rfl) ?_ hS rfl ?_
  rotate_left
  · intro w' hw
    go_simp
    try with_reducible rfl
  simp only [Act.put, List.setIfInBounds_toArray, List.set_cons_zero, List.set_cons_succ]
  refine hs_take (i := 4) (d := some 17) (v := .bool false) rfl (by kernel_rfl) (by kernel_rfl) (by kernel_rfl) (by rfl) (fun w' hw => by go_simp) hS rfl ?_
  simp only [Act.put, List.setIfInBounds_toArray, List.set_cons_zero, List.set_cons_succ]
  refine hs_take (i := 5) (d := some 18) (v := ?_) rfl (by kernel_rfl) (by kernel_rfl) (by kernel_rfl) (by rfl) ?_ hS rfl ?_
  rotate_left
  · intro w' hw
    go_simp
    try with_reducible rfl
  simp only [Act.put, List.setIfInBounds_toArray, List.set_cons_zero, List.set_cons_succ]
  refine hs_take (i := 6) (d := some 19) (v := ?_) rfl (by kernel_rfl) (by kernel_rfl) (by kernel_rfl) (by rfl) ?_ hS rfl ?_
  rotate_left
  · intro w' hw
    go_simp
    try with_reducible rfl
  simp only [Act.put, List.setIfInBounds_toArray, List.set_cons_zero, List.set_cons_succ]
  refine hs_take (i := 7) (d := some 20) (v := ?_) rfl (by kernel_rfl) (by kernel_rfl) (by kernel_rfl) (by rfl) ?_ hS rfl ?_
  rotate_left
  · intro w' hw
    go_simp
    try with_reducible rfl
  simp only [Act.put, List.setIfInBounds_toArray, List.set_cons_zero, List.set_cons_succ]
  refine hs_take (i := 8) (d := some 21) (v := ?_) rfl (by kernel_rfl) (by kernel_rfl) (by kernel_rfl) (by rfl) ?_ hS rfl ?_
  rotate_left
  · intro w' hw
    have hc := c0 w' hw
    go_simp
    try with_reducible rfl
  simp only [Act.put, List.setIfInBounds_toArray, List.set_cons_zero, List.set_cons_succ]
  refine hs_take (i := 9) (d := some 22) (v := .bool true) rfl (by kernel_rfl) (by kernel_rfl) (by kernel_rfl) (by rfl) (fun w' hw => by go_simp) hS rfl ?_
  simp only [Act.put, List.setIfInBounds_toArray, List.set_cons_zero, List.set_cons_succ]
  refine hs_take (i := 10) (d := some 23) (v := ?_) rfl (by kernel_rfl) (by kernel_rfl) (by kernel_rfl) (by rfl) ?_ hS rfl ?_
  rotate_left
  · intro w' hw
    go_simp
    try with_reducible rfl
  simp only [Act.put, List.setIfInBounds_toArray, List.set_cons_zero, List.set_cons_succ]
  refine hs_take (i := 11) (d := some 24) (v := ?_) rfl (by kernel_rfl) (by kernel_rfl) (by kernel_rfl) (by rfl) ?_ hS rfl ?_
  rotate_left
  · intro w' hw
    go_simp
    try with_reducible rfl
  simp only [Act.put, List.setIfInBounds_toArray, List.set_cons_zero, List.set_cons_succ]
  refine hs_skip (i := 12) (d := some 25) rfl (by kernel_rfl) (by kernel_rfl) (by kernel_rfl) (by rfl) hS rfl ?_
  simp only [Act.put, List.setIfInBounds_toArray, List.set_cons_zero, List.set_cons_succ]
  refine hs_skip (i := 13) (d := some 26) rfl (by kernel_rfl) (by kernel_rfl) (by kernel_rfl) (by rfl) hS rfl ?_
  simp only [Act.put, List.setIfInBounds_toArray, List.set_cons_zero, List.set_cons_succ]
  refine hs_skip (i := 14) (d := some 27) rfl (by kernel_rfl) (by kernel_rfl) (by kernel_rfl) (by rfl) hS rfl ?_
  simp only [Act.put, List.setIfInBounds_toArray, List.set_cons_zero, List.set_cons_succ]
  refine hs_skip (i := 15) (d := some 28) rfl (by kernel_rfl) (by kernel_rfl) (by kernel_rfl) (by rfl) hS rfl ?_
  simp only [Act.put, List.setIfInBounds_toArray, List.set_cons_zero, List.set_cons_succ]
  refine hs_skip (i := 16) (d := some 29) rfl (by kernel_rfl) (by kernel_rfl) (by kernel_rfl) (by rfl) hS rfl ?_
  simp only [Act.put, List.setIfInBounds_toArray, List.set_cons_zero, List.set_cons_succ]
  refine hs_skip (i := 17) (d := some 30) rfl (by kernel_rfl) (by kernel_rfl) (by kernel_rfl) (by rfl) hS rfl ?_
  simp only [Act.put, List.setIfInBounds_toArray, List.set_cons_zero, List.set_cons_succ]
  refine hs_skip (i := 18) (d := some 31) rfl (by kernel_rfl) (by kernel_rfl) (by kernel_rfl) (by rfl) hS rfl ?_
  simp only [Act.put, List.setIfInBounds_toArray, List.set_cons_zero, List.set_cons_succ]
  refine hs_skip (i := 19) (d := some 32) rfl (by kernel_rfl) (by kernel_rfl) (by kernel_rfl) (by rfl) hS rfl ?_
  simp only [Act.put, List.setIfInBounds_toArray, List.set_cons_zero, List.set_cons_succ]
  refine hs_skip (i := 20) (d := some 33) rfl (by kernel_rfl) (by kernel_rfl) (by kernel_rfl) (by rfl) hS rfl ?_
  simp only [Act.put, List.setIfInBounds_toArray, List.set_cons_zero, List.set_cons_succ]
  refine hs_skip (i := 21) (d := some 34) rfl (by kernel_rfl) (by kernel_rfl) (by kernel_rfl) (by rfl) hS rfl ?_
  simp only [Act.put, List.setIfInBounds_toArray, List.set_cons_zero, List.set_cons_succ]
  refine hs_skip (i := 22) (d := some 35) rfl (by kernel_rfl) (by kernel_rfl) (by kernel_rfl) (by rfl) hS rfl ?_
  simp only [Act.put, List.setIfInBounds_toArray, List.set_cons_zero, List.set_cons_succ]
  refine hs_take (i := 23) (d := some 36) (v := .bool true) rfl (by kernel_rfl) (by kernel_rfl) (by kernel_rfl) (by rfl) (fun w' hw => by go_simp) hS rfl ?_
  simp only [Act.put, List.setIfInBounds_toArray, List.set_cons_zero, List.set_cons_succ]
  refine hs_done (by kernel_rfl) ?_
  have hfin := hB4.trans (hS.mono hB4.size)
  go_wp2_with fail
  go_ret
  exact ⟨rfl, hfin⟩
set_option maxRecDepth 100000 in
set_option maxHeartbeats 2000000 in
theorem refGood_b4 (N m c n : Int) (s : ByteArray) (t : List Int) (w : World) (ht : t.length = 16) (hm : 0 ≤ c ∧ c < m ∧ 1 ≤ n ∧ n ≤ 1099511627776 ∧ s.size ≤ 64) (hN0 : ¬ N < 0) (hN1 : ¬ 64 < N) (hc : ¬ 4096 < c) :
   Calls Tryd.prog 37 #[.agg rkL.toArray, .int .i64 N, .int .i64 m, .agg (reqL c n s t).toArray] w fun e w' => e = .returned (.int .i64 (if checkOf (refSignOf seedR 72 (N + c) (strOf (bodyL c n s))) t = true then 0 else 61)) ∧ Below w.heap.size w w' := by
  have cm := fun w0 => form_any c n m s t w0
  have hmb : decide (0 ≤ c ∧ c < m ∧ 1 ≤ n ∧ n ≤ 1099511627776 ∧ s.size ≤ 64) = true := decide_eq_true hm
  simp only [hmb] at cm
  clear hmb
  have hi0' : (Tryd.prog.info? 60).map (·.size) = some (reqL c n s t).length := by rw [reqL_length _ _ _ _ ht]; exact iszR
  have hiK' : (Tryd.prog.info? 29).map (·.size) = some rkL.length := iszK
  have hq0 := fun (w0 : World) (b0 : Nat) h0 => @reqL_0 w0 b0 c n s t h0
  have hw65 : IntKind.i64.wrap (N + c) = N + c := by rw [IntKind.wrap_i64]; omega
  have cb := fun w0 => refBody_any c n s t w0 (by omega) (by omega) (by omega)
  obtain ⟨bd, hbd⟩ : ∃ bd, Hid (strOf (bodyL c n s) = bd) := ⟨_, hide rfl⟩
  have hbs : bd.size ≤ 100000 := by rw [← hbd.out, strOf_size]; exact body_small c n s (by omega) (by omega) (by omega)
  simp only [hbd.out] at cb
  rw [hbd.out]
  have ck := fun w0 => refCheck_any seedR 72 (N + c) bd t w0 (by decide) (by decide) hbs ht
  obtain ⟨b, hb⟩ : ∃ b, Hid (checkOf (refSignOf seedR 72 (N + c) bd) t = b) := ⟨_, hide rfl⟩
  simp only [hb.out] at ck
  rw [hb.out]
  have htg := fun (w0 : World) (b0 : Nat) h1 => @reqL_tag w0 b0 c n s t h1
  have hit' : (Tryd.prog.info? 58).map (·.size) = some (v8 t).length := by rw [v8_length, ht]; exact iszT
  obtain ⟨tt, htt⟩ : ∃ tt, Hid (v8 t = tt) := ⟨_, hide rfl⟩
  simp only [htt.out] at ck htg
  rw [htt.out] at hit'
  clear hbs
  obtain ⟨q, hq⟩ : ∃ q, Hid (reqL c n s t = q) := ⟨_, hide rfl⟩
  rw [hq.out] at hi0' ⊢
  simp only [hq.out] at cm hq0
  simp only [hq.out] at cb htg
  obtain ⟨hB1, hK1, hR1, hz1⟩ := two_boxes w q
  go_enter Tryd.func37, Tryd.ntmps37
  go_upto_region 1 with fail
  go_name_world w1 hw1
  rw [hw1] at hB1 hK1 hR1 hz1
  clear hw1
  obtain ⟨V, hV⟩ : ∃ V, Hid (w.heap.size = V) := ⟨_, hide rfl⟩
  obtain ⟨X, hX⟩ : ∃ X, Hid (w.heap.size + 1 = X) := ⟨_, hide rfl⟩
  have hVX : V < X := by rw [← hV.out, ← hX.out]; omega
  rw [hX.out] at hR1 hz1 ⊢
  rw [hV.out] at hK1 ⊢
  try simp only [Act.put]
  refine wp_region_list ?_
  refine wpList_step fun K hK => ?_
  go_simp
  refine hK _ _ ?_
  clear hK K
  refine wpList_load_mid rfl 60 _ rfl _ _ rfl q _ hR1 Tryd.underlying60 rfl hi0' ?_
  go_wp2_with fail
  refine (cm w1).mono ?_
  rintro e w3 ⟨rfl, hw3⟩
  have hB3 := hB1.trans (hw3.mono hB1.size)
  have hR3 := range_below hR1 hw3 hz1
  have hK3 := range_below hK1 hw3 (by omega)
  have hz3 := Nat.lt_of_lt_of_le hz1 hw3.size
  clear hB1 hR1 hz1 cm hw3 hK1
  have hB4 := hB3.drew
  have hR4 : w3.drew.rangeAt X 0 q := (World.rangeAt_drew _ _ _ _).2 hR3
  have hK4 : w3.drew.rangeAt V 0 rkL := (World.rangeAt_drew _ _ _ _).2 hK3
  have hz4 : X < w3.drew.heap.size := hz3
  clear hB3 hR3 hK3 hz3
  go_wp2_with fail
  obtain ⟨w5, hw5⟩ : ∃ w5, w3.drew = w5 := ⟨_, rfl⟩
  rw [hw5] at hB4 hR4 hK4 hz4
  have c0 : ∀ w', Below w5.heap.size w5 w' → w'.cell? ⟨X, 0, none⟩ = some (.int .i64 c) := fun w' hw' => (hq0 w' X (range_below hR4 hw' hz4)).1
  refine hs_begin (S := (Below w5.heap.size w5)) 24 rfl (by kernel_rfl) ?_
  rw [hw5]
  clear hw5
  have hS : (Below w5.heap.size w5) w5 := Below.refl _ _
  have hRt := htg w5 X hR4
  refine hs_take (i := 0) (d := some 13) (v := ?_) rfl (by kernel_rfl) (by kernel_rfl) (by kernel_rfl) (by rfl) ?_ hS rfl ?_
  rotate_left
  · intro w' hw
    go_simp
    try with_reducible rfl
  simp only [Act.put, List.setIfInBounds_toArray, List.set_cons_zero, List.set_cons_succ]
  refine hs_take (i := 1) (d := some 14) (v := .bool false) rfl (by kernel_rfl) (by kernel_rfl) (by kernel_rfl) (by rfl) (fun w' hw => by go_simp) hS rfl ?_
  simp only [Act.put, List.setIfInBounds_toArray, List.set_cons_zero, List.set_cons_succ]
  refine hs_take (i := 2) (d := some 15) (v := ?_) rfl (by kernel_rfl) (by kernel_rfl) (by kernel_rfl) (by rfl) ?_ hS rfl ?_
  rotate_left
  · intro w' hw
    go_simp
    try with_reducible rfl
  simp only [Act.put, List.setIfInBounds_toArray, List.set_cons_zero, List.set_cons_succ]
  refine hs_take (i := 3) (d := some 16) (v := ?_) rfl (by kernel_rfl) (by kernel_rfl) (by kernel_rfl) (by rfl) ?_ hS rfl ?_
  rotate_left
  · intro w' hw
    go_simp
    try with_reducible rfl
  simp only [Act.put, List.setIfInBounds_toArray, List.set_cons_zero, List.set_cons_succ]
  refine hs_take (i := 4) (d := some 17) (v := .bool false) rfl (by kernel_rfl) (by kernel_rfl) (by kernel_rfl) (by rfl) (fun w' hw => by go_simp) hS rfl ?_
  simp only [Act.put, List.setIfInBounds_toArray, List.set_cons_zero, List.set_cons_succ]
  refine hs_take (i := 5) (d := some 18) (v := ?_) rfl (by kernel_rfl) (by kernel_rfl) (by kernel_rfl) (by rfl) ?_ hS rfl ?_
  rotate_left
  · intro w' hw
    go_simp
    try with_reducible rfl
  simp only [Act.put, List.setIfInBounds_toArray, List.set_cons_zero, List.set_cons_succ]
  refine hs_take (i := 6) (d := some 19) (v := ?_) rfl (by kernel_rfl) (by kernel_rfl) (by kernel_rfl) (by rfl) ?_ hS rfl ?_
  rotate_left
  · intro w' hw
    go_simp
    try with_reducible rfl
  simp only [Act.put, List.setIfInBounds_toArray, List.set_cons_zero, List.set_cons_succ]
  refine hs_take (i := 7) (d := some 20) (v := ?_) rfl (by kernel_rfl) (by kernel_rfl) (by kernel_rfl) (by rfl) ?_ hS rfl ?_
  rotate_left
  · intro w' hw
    go_simp
    try with_reducible rfl
  simp only [Act.put, List.setIfInBounds_toArray, List.set_cons_zero, List.set_cons_succ]
  refine hs_take (i := 8) (d := some 21) (v := ?_) rfl (by kernel_rfl) (by kernel_rfl) (by kernel_rfl) (by rfl) ?_ hS rfl ?_
  rotate_left
  · intro w' hw
    have hc := c0 w' hw
    go_simp
    try with_reducible rfl
  simp only [Act.put, List.setIfInBounds_toArray, List.set_cons_zero, List.set_cons_succ]
  refine hs_take (i := 9) (d := some 22) (v := .bool false) rfl (by kernel_rfl) (by kernel_rfl) (by kernel_rfl) (by rfl) (fun w' hw => by go_simp) hS rfl ?_
  simp only [Act.put, List.setIfInBounds_toArray, List.set_cons_zero, List.set_cons_succ]
  refine hs_take (i := 10) (d := some 23) (v := ?_) rfl (by kernel_rfl) (by kernel_rfl) (by kernel_rfl) (by rfl) ?_ hS rfl ?_
  rotate_left
  · intro w' hw
    go_simp
    try with_reducible rfl
  simp only [Act.put, List.setIfInBounds_toArray, List.set_cons_zero, List.set_cons_succ]
  refine hs_take (i := 11) (d := some 24) (v := ?_) rfl (by kernel_rfl) (by kernel_rfl) (by kernel_rfl) (by rfl) ?_ hS rfl ?_
  rotate_left
  · intro w' hw
    go_simp
    try with_reducible rfl
  simp only [Act.put, List.setIfInBounds_toArray, List.set_cons_zero, List.set_cons_succ]
  refine hs_take (i := 12) (d := some 25) (v := .agg rkL.toArray) rfl (by kernel_rfl) (by kernel_rfl) (by kernel_rfl) (by rfl) (fun w' hw => exec_load rfl rfl (run_loadVar_mid (P := Tryd.prog) w' V 0 29 _ _ (range_below hK4 hw (by omega)) Tryd.underlying29 rfl hiK')) hS rfl ?_
  simp only [Act.put, List.setIfInBounds_toArray, List.set_cons_zero, List.set_cons_succ]
  refine hs_take (i := 13) (d := some 26) (v := ?_) rfl (by kernel_rfl) (by kernel_rfl) (by kernel_rfl) (by rfl) ?_ hS rfl ?_
  rotate_left
  · intro w' hw
    go_simp
    try with_reducible rfl
  simp only [Act.put, List.setIfInBounds_toArray, List.set_cons_zero, List.set_cons_succ]
  refine hs_take (i := 14) (d := some 27) (v := ?_) rfl (by kernel_rfl) (by kernel_rfl) (by kernel_rfl) (by rfl) ?_ hS rfl ?_
  rotate_left
  · intro w' hw
    go_simp
    try with_reducible rfl
  simp only [Act.put, List.setIfInBounds_toArray, List.set_cons_zero, List.set_cons_succ]
  refine hs_take (i := 15) (d := some 28) (v := ?_) rfl (by kernel_rfl) (by kernel_rfl) (by kernel_rfl) (by rfl) ?_ hS rfl ?_
  rotate_left
  · intro w' hw
    have hc := c0 w' hw
    go_simp
    try with_reducible rfl
  simp only [Act.put, List.setIfInBounds_toArray, List.set_cons_zero, List.set_cons_succ]
  refine hs_take (i := 16) (d := some 29) (v := .int .i64 (N + c)) rfl (by kernel_rfl) (by kernel_rfl) (by kernel_rfl) (by rfl) (fun w' hw => by go_simp) hS rfl ?_
  simp only [Act.put, List.setIfInBounds_toArray, List.set_cons_zero, List.set_cons_succ]
  refine hs_take (i := 17) (d := some 30) (v := .agg q.toArray) rfl (by kernel_rfl) (by kernel_rfl) (by kernel_rfl) (by rfl) (fun w' hw => exec_load rfl rfl (run_loadVar_mid (P := Tryd.prog) w' X 0 60 q _ (range_below hR4 hw hz4) Tryd.underlying60 rfl hi0')) hS rfl ?_
  simp only [Act.put, List.setIfInBounds_toArray, List.set_cons_zero, List.set_cons_succ]
  refine hs_take (i := 19) (d := some 32) (v := ?_) rfl (by kernel_rfl) (by kernel_rfl) (by kernel_rfl) (by rfl) ?_ hS rfl ?_
  rotate_left
  · intro w' hw
    go_simp
    try with_reducible rfl
  simp only [Act.put, List.setIfInBounds_toArray, List.set_cons_zero, List.set_cons_succ]
  refine hs_take (i := 20) (d := some 33) (v := .agg tt.toArray) rfl (by kernel_rfl) (by kernel_rfl) (by kernel_rfl) (by rfl) (fun w' hw => exec_load rfl rfl (run_loadVar_mid (P := Tryd.prog) w' X 3 58 tt _ (range_below hRt hw hz4) Tryd.underlying58 rfl hit')) hS rfl ?_
  simp only [Act.put, List.setIfInBounds_toArray, List.set_cons_zero, List.set_cons_succ]
  refine hs_call (i := 18) (d := some 31) rfl (by kernel_rfl) (by rfl) (by go_simp; first | done | exact ⟨rfl, rfl⟩ | with_reducible rfl) rfl ?_
  refine (cb w5).mono ?_
  rintro e' w6 ⟨rfl, hw6⟩
  have hS : (Below w5.heap.size w5) w6 := hS.trans (hw6.mono hS.size)
  refine ⟨_, rfl, hS, ?_⟩
  simp only [Act.put, List.setIfInBounds_toArray, List.set_cons_zero, List.set_cons_succ]
  refine hs_call (i := 21) (d := some 34) rfl (by kernel_rfl) (by rfl) (by go_simp; first | done | exact ⟨rfl, rfl⟩ | with_reducible rfl) rfl ?_
  refine (ck w6).mono ?_
  rintro e' w7 ⟨rfl, hw7⟩
  have hS : (Below w5.heap.size w5) w7 := hS.trans (hw7.mono hS.size)
  refine ⟨_, rfl, hS, ?_⟩
  simp only [Act.put, List.setIfInBounds_toArray, List.set_cons_zero, List.set_cons_succ]
  refine hs_take (i := 22) (d := some 35) (v := .bool (!b)) rfl (by kernel_rfl) (by kernel_rfl) (by kernel_rfl) (by rfl) (fun w' hw => by go_simp) hS rfl ?_
  simp only [Act.put, List.setIfInBounds_toArray, List.set_cons_zero, List.set_cons_succ]
  refine hs_take (i := 23) (d := some 36) (v := .bool (!b)) rfl (by kernel_rfl) (by kernel_rfl) (by kernel_rfl) (by rfl) (fun w' hw => by go_simp) hS rfl ?_
  simp only [Act.put, List.setIfInBounds_toArray, List.set_cons_zero, List.set_cons_succ]
  refine hs_done (by kernel_rfl) ?_
  have hfin := hB4.trans (hS.mono hB4.size)
  cases b
  · go_wp2_with fail
    go_ret
    exact ⟨by first | rfl | simp, hfin⟩
  · go_wp2_with fail
    go_ret
    exact ⟨by first | rfl | simp, hfin⟩
theorem good_same (N m c n : Int) (s : ByteArray) (t : List Int) : (if ¬ (0 ≤ c ∧ c < m ∧ 1 ≤ n ∧ n ≤ 1099511627776 ∧ s.size ≤ 64) then 60 else if N < 0 ∨ 64 < N ∨ 4096 < c then 61 else if checkOf (refSignOf seedR 72 (N + c) (strOf (bodyL c n s))) t = true then 0 else 61) = goodV (keysOf seedR 72) N m c n s t := by
  unfold goodV
  rw [keysOf_length, if_neg (show ¬ (72 : Nat) = 0 by decide)]
  by_cases hm : 0 ≤ c ∧ c < m ∧ 1 ≤ n ∧ n ≤ 1099511627776 ∧ s.size ≤ 64
  · have h1 : ¬ ¬ (0 ≤ c ∧ c < m ∧ 1 ≤ n ∧ n ≤ 1099511627776 ∧ s.size ≤ 64) := fun q => q hm
    rw [if_neg h1, if_neg h1]
    by_cases hN : N < 0 ∨ 64 < N ∨ ((72 : Nat) : Int) - N ≤ c
    · have e : tagV (keysOf seedR 72) N c n s = (zeros16, 2) := by unfold tagV; rw [keysOf_length, if_pos hN]
      have h2 : (2 : Int) ≠ 0 := by decide
      rw [e, if_pos h2]
      by_cases hB : N < 0 ∨ 64 < N ∨ 4096 < c
      · rw [if_pos hB]
      · rw [if_neg hB]
        have hs : checkOf (refSignOf seedR 72 (N + c) (strOf (bodyL c n s))) t = false := by
          unfold checkOf refSignOf
          rw [if_pos (by omega)]
          rfl
        rw [hs]; rfl
    · have e : tagV (keysOf seedR 72) N c n s = refSignOf seedR 72 (N + c) (strOf (bodyL c n s)) := by
        unfold tagV; rw [keysOf_length, if_neg hN, sign_same seedR 72 (by decide)]; rfl
      have e2 : (tagV (keysOf seedR 72) N c n s).2 = 0 := by
        unfold tagV; rw [keysOf_length, if_neg hN]
        obtain ⟨k, hk⟩ := Int.eq_ofNat_of_zero_le (show 0 ≤ N + c by omega)
        rw [hk]; exact sign_in seedR 72 k (by omega) _
      have h2 : ¬ ((0 : Int) ≠ 0) := by decide
      rw [if_neg (show ¬ (N < 0 ∨ 64 < N ∨ 4096 < c) by omega), e2, if_neg h2, e]
      rw [e] at e2
      unfold checkOf
      rw [e2]
      by_cases ht : (refSignOf seedR 72 (N + c) (strOf (bodyL c n s))).1 = t
      · rw [if_pos ht, if_pos (by simp [ht])]
      · rw [if_neg ht, if_neg (by simp [ht])]
  · rw [if_pos hm, if_pos hm]
theorem refGood_any (N m c n : Int) (s : ByteArray) (t : List Int) (w : World) (ht : t.length = 16) :
   Calls Tryd.prog 37 #[.agg rkL.toArray, .int .i64 N, .int .i64 m, .agg (reqL c n s t).toArray] w fun e w' => e = .returned (.int .i64 (goodV (keysOf seedR 72) N m c n s t)) ∧ Below w.heap.size w w' := by
  rw [← good_same]
  by_cases hm : 0 ≤ c ∧ c < m ∧ 1 ≤ n ∧ n ≤ 1099511627776 ∧ s.size ≤ 64
  · have h1 : ¬ ¬ (0 ≤ c ∧ c < m ∧ 1 ≤ n ∧ n ≤ 1099511627776 ∧ s.size ≤ 64) := fun q => q hm
    rw [if_neg h1]
    by_cases a1 : N < 0
    · rw [if_pos (.inl a1)]; exact refGood_b1 N m c n s t w ht hm a1
    · by_cases a2 : 64 < N
      · rw [if_pos (.inr (.inl a2))]; exact refGood_b2 N m c n s t w ht hm a1 a2
      · by_cases a3 : 4096 < c
        · rw [if_pos (.inr (.inr a3))]; exact refGood_b3 N m c n s t w ht hm a1 a2 a3
        · rw [if_neg (by omega)]; exact refGood_b4 N m c n s t w ht hm a1 a2 a3
  · rw [if_pos hm]; exact refGood_no N m c n s t w ht hm
end Go.Proofs.YtinpbnkmpplkiaaDoor
