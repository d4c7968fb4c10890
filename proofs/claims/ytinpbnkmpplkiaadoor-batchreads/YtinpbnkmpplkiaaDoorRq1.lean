/- requests: their fields, their body, whether they may be -/
import Derived.Test.YtinpbnkmpplkiaaDoorTRef
import Derived.Test.YtinpbnkmpplkiaaDoorHeld
import Derived.Test.YtinpbnkmpplkiaaDoorRefMac
namespace Go.Proofs.YtinpbnkmpplkiaaDoor
open Go.RowKit
open Sha Tal
def reqL (c n : Int) (s : ByteArray) (t : List Int) : List Value := .int .i64 c :: .int .i64 n :: .string s :: v8 t
theorem req_cells (w : World) (c n : Int) (s : ByteArray) (t : List Int) : (w.alloc (.cells (reqL c n s t).toArray 60)).rangeAt w.heap.size 0 (reqL c n s t) := by
  have := range_new w (reqL c n s t).toArray 60
  simpa using this
theorem reqL_0 {w : World} {b : Nat} {c n : Int} {s : ByteArray} {t : List Int} (h : w.rangeAt b 0 (reqL c n s t)) : w.cell? ⟨b, 0, none⟩ = some (.int .i64 c) ∧ w.cell? ⟨b, 1, none⟩ = some (.int .i64 n) ∧ w.cell? ⟨b, 2, none⟩ = some (.string s) :=
  ⟨h 0 _ rfl, h 1 _ rfl, h 2 _ rfl⟩
def bodyL (c n : Int) (s : ByteArray) : List Int := [82] ++ putL c ++ putL n ++ textL s
set_option maxRecDepth 100000 in
set_option maxHeartbeats 2000000 in
theorem fields_any (a : Option Addr) (cap : Nat) (zs : List Int) (c n : Int) (s : ByteArray) (t : List Int) (w : World) (h : RowAt w a zs) (hm : zs.length ≤ 1000000) (hc : c ≤ 9223372036854775807) (hn : n ≤ 9223372036854775807) (hs : s.size ≤ 1000000) :
   Calls Tryd.prog 85 #[.slice a zs.length cap, .agg (reqL c n s t).toArray] w fun e w' => ∃ v, e = .returned v ∧ Mine w' w.heap.size v (zs ++ putL c ++ putL n ++ textL s) ∧ Below w.heap.size w w' := by
  have hB1 : Below w.heap.size w (w.alloc (.cells (reqL c n s t).toArray 60)) := (Below.refl _ _).alloc (Nat.le_refl _) _
  have hR1 := req_cells w c n s t
  have hz1 : w.heap.size < (w.alloc (.cells (reqL c n s t).toArray 60)).heap.size := by simp
  have hlc := putL_length c (by omega)
  have hln := putL_length n (by omega)
  obtain ⟨q, hq⟩ : ∃ q, Hid (reqL c n s t = q) := ⟨_, rfl⟩
  rw [hq.out] at hB1 hz1 ⊢
  rw [hq.out] at hR1
  obtain ⟨z1, hz1'⟩ : ∃ z1, Hid (zs ++ putL c = z1) := ⟨_, rfl⟩
  obtain ⟨z2, hz2'⟩ : ∃ z2, Hid (z1 ++ putL n = z2) := ⟨_, rfl⟩
  have l1 : z1.length ≤ 1000009 := by rw [← hz1'.out, List.length_append]; omega
  have l2 : z2.length ≤ 1000018 := by rw [← hz2'.out, List.length_append]; omega
  rw [hz1'.out, hz2'.out]
  clear hlc hln
  go_enter Tryd.func85, Tryd.ntmps85
  go_wp2_with fail
  go_name_world w1 hw1
  rw [show w.alloc (.cells q.toArray 60) = w1 from hw1] at hB1 hR1 hz1
  clear hw1
  have hB4 := hB1.drew
  have hR4 : w1.drew.rangeAt w.heap.size 0 q := (World.rangeAt_drew _ _ _ _).2 hR1
  have hz4 : w.heap.size < w1.drew.heap.size := hz1
  have h4 := h.below hB4
  clear hB1 hR1 hz1
  obtain ⟨X, hX⟩ : ∃ X, Hid (w.heap.size = X) := ⟨_, rfl⟩
  rw [hX.out] at hR4 hz4 ⊢
  obtain ⟨w5, hw5⟩ : ∃ w5, w1.drew = w5 := ⟨_, rfl⟩
  rw [hw5] at hB4 hR4 hz4 h4
  have cells : ∀ w', Below w5.heap.size w5 w' → w'.cell? ⟨X, 0, none⟩ = some (.int .i64 c) ∧ w'.cell? ⟨X, 1, none⟩ = some (.int .i64 n) ∧ w'.cell? ⟨X, 2, none⟩ = some (.string s) := fun w' hw' => by
    have := range_below hR4 hw' hz4
    rw [← hq.out] at this
    exact reqL_0 this
  refine hs_begin (S := (Below w5.heap.size w5)) 11 rfl (by kernel_rfl) ?_
  rw [hw5]
  clear hw5 hR4
  have hS : (Below w5.heap.size w5) w5 := Below.refl _ _
  refine hs_take (i := 0) (d := some 5) (v := ?_) rfl (by kernel_rfl) (by kernel_rfl) (by kernel_rfl) (by rfl) ?_ hS rfl ?_
  rotate_left
  · intro w' hw
    go_simp
    try with_reducible rfl
  simp only [Act.put, List.setIfInBounds_toArray, List.set_cons_zero, List.set_cons_succ]
  refine hs_take (i := 1) (d := some 6) (v := ?_) rfl (by kernel_rfl) (by kernel_rfl) (by kernel_rfl) (by rfl) ?_ hS rfl ?_
  rotate_left
  · intro w' hw
    go_simp
    try with_reducible rfl
  simp only [Act.put, List.setIfInBounds_toArray, List.set_cons_zero, List.set_cons_succ]
  refine hs_take (i := 2) (d := some 7) (v := ?_) rfl (by kernel_rfl) (by kernel_rfl) (by kernel_rfl) (by rfl) ?_ hS rfl ?_
  rotate_left
  · intro w' hw
    have hc := (cells w' hw).1
    go_simp
    try with_reducible rfl
  simp only [Act.put, List.setIfInBounds_toArray, List.set_cons_zero, List.set_cons_succ]
  refine hs_take (i := 4) (d := some 9) (v := ?_) rfl (by kernel_rfl) (by kernel_rfl) (by kernel_rfl) (by rfl) ?_ hS rfl ?_
  rotate_left
  · intro w' hw
    go_simp
    try with_reducible rfl
  simp only [Act.put, List.setIfInBounds_toArray, List.set_cons_zero, List.set_cons_succ]
  refine hs_take (i := 5) (d := some 10) (v := ?_) rfl (by kernel_rfl) (by kernel_rfl) (by kernel_rfl) (by rfl) ?_ hS rfl ?_
  rotate_left
  · intro w' hw
    have hc := (cells w' hw).2.1
    go_simp
    try with_reducible rfl
  simp only [Act.put, List.setIfInBounds_toArray, List.set_cons_zero, List.set_cons_succ]
  refine hs_take (i := 7) (d := some 12) (v := ?_) rfl (by kernel_rfl) (by kernel_rfl) (by kernel_rfl) (by rfl) ?_ hS rfl ?_
  rotate_left
  · intro w' hw
    go_simp
    try with_reducible rfl
  simp only [Act.put, List.setIfInBounds_toArray, List.set_cons_zero, List.set_cons_succ]
  refine hs_take (i := 8) (d := some 13) (v := ?_) rfl (by kernel_rfl) (by kernel_rfl) (by kernel_rfl) (by rfl) ?_ hS rfl ?_
  rotate_left
  · intro w' hw
    have hc := (cells w' hw).2.2
    go_simp
    try with_reducible rfl
  simp only [Act.put, List.setIfInBounds_toArray, List.set_cons_zero, List.set_cons_succ]
  clear cells
  have c6 := put_any a cap zs c w5 h4 (by omega) hc
  rw [hz1'.out] at c6
  refine hs_call (i := 3) (d := some 8) rfl (by kernel_rfl) (by rfl) (by go_simp; first | done | exact ⟨rfl, rfl⟩ | with_reducible rfl) rfl ?_
  refine (c6).mono ?_
  rintro e' w6 ⟨v6, rfl, hM6, hw6⟩
  have hS : (Below w5.heap.size w5) w6 := hS.trans (hw6.mono hS.size)
  refine ⟨_, rfl, hS, ?_⟩
  simp only [Act.put, List.setIfInBounds_toArray, List.set_cons_zero, List.set_cons_succ]
  obtain ⟨a6, cap6, rfl, _, _, hrow6⟩ := hM6.rowAt (by unfold maxLen; omega)
  clear c6 hM6 hw6
  have c7 := put_any a6 cap6 z1 n w6 hrow6 (by omega) hn
  rw [hz2'.out] at c7
  refine hs_call (i := 6) (d := some 11) rfl (by kernel_rfl) (by rfl) (by go_simp; first | done | exact ⟨rfl, rfl⟩ | with_reducible rfl) rfl ?_
  refine (c7).mono ?_
  rintro e' w7 ⟨v7, rfl, hM7, hw7⟩
  have hS : (Below w5.heap.size w5) w7 := hS.trans (hw7.mono hS.size)
  refine ⟨_, rfl, hS, ?_⟩
  simp only [Act.put, List.setIfInBounds_toArray, List.set_cons_zero, List.set_cons_succ]
  obtain ⟨a7, cap7, rfl, _, _, hrow7⟩ := hM7.rowAt (by unfold maxLen; omega)
  have hs7 : w5.heap.size ≤ w7.heap.size := hS.size
  clear c7 hM7 hw7 hrow6
  have c8 := putText_any a7 cap7 z2 s w7 hrow7 (by omega) (by omega)
  refine hs_call (i := 9) (d := some 14) rfl (by kernel_rfl) (by rfl) (by go_simp; first | done | exact ⟨rfl, rfl⟩ | with_reducible rfl) rfl ?_
  refine (c8).mono ?_
  rintro e' w8 ⟨v8, rfl, hM8, hw8⟩
  have hS : (Below w5.heap.size w5) w8 := hS.trans (hw8.mono hS.size)
  refine ⟨_, rfl, hS, ?_⟩
  simp only [Act.put, List.setIfInBounds_toArray, List.set_cons_zero, List.set_cons_succ]
  have hfin := hB4.trans (hS.mono hB4.size)
  have hM9 : Mine w8 w.heap.size v8 (z2 ++ textL s) := ⟨owns_mono hM8.1 (by have := hB4.size; omega), hM8.2⟩
  clear c8 hM8 hw8 hrow7
  refine hs_take (i := 10) (d := some 4) (v := ?_) rfl (by kernel_rfl) (by kernel_rfl) (by kernel_rfl) (by rfl) ?_ hS rfl ?_
  rotate_left
  · intro w' hw
    go_simp
    try with_reducible rfl
  simp only [Act.put, List.setIfInBounds_toArray, List.set_cons_zero, List.set_cons_succ]
  refine hs_done (by kernel_rfl) ?_
  go_wp2
  go_ret
  exact ⟨_, rfl, hM9, hfin⟩
set_option maxRecDepth 100000 in
set_option maxHeartbeats 1000000 in
theorem mayBe_any (c n m : Int) (s : ByteArray) (t : List Int) (w : World) :
   Calls Tryd.prog 56 #[.agg (reqL c n s t).toArray, .int .i64 m] w fun e w' => e = .returned (.bool (decide (0 ≤ c ∧ c < m ∧ 1 ≤ n ∧ n ≤ 1099511627776 ∧ s.size ≤ 64))) ∧ Below w.heap.size w w' := by
  have hB1 : Below w.heap.size w (w.alloc (.cells (reqL c n s t).toArray 60)) := (Below.refl _ _).alloc (Nat.le_refl _) _
  obtain ⟨h0, h1, h2⟩ := reqL_0 (req_cells w c n s t)
  generalize reqL c n s t = q at *
  by_cases a1 : c < 0
  · have e : decide (0 ≤ c ∧ c < m ∧ 1 ≤ n ∧ n ≤ 1099511627776 ∧ s.size ≤ 64) = false := by simp; omega
    rw [e]; clear e
    go_enter Tryd.func56, Tryd.ntmps56
    go_wp2
    go_ret
    exact ⟨rfl, hB1⟩
  · by_cases a2 : m ≤ c
    · have e : decide (0 ≤ c ∧ c < m ∧ 1 ≤ n ∧ n ≤ 1099511627776 ∧ s.size ≤ 64) = false := by simp; omega
      rw [e]; clear e
      go_enter Tryd.func56, Tryd.ntmps56
      go_wp2
      go_ret
      exact ⟨rfl, hB1⟩
    · by_cases a3 : n < 1
      · have e : decide (0 ≤ c ∧ c < m ∧ 1 ≤ n ∧ n ≤ 1099511627776 ∧ s.size ≤ 64) = false := by simp; omega
        rw [e]; clear e
        go_enter Tryd.func56, Tryd.ntmps56
        go_wp2
        go_ret
        exact ⟨rfl, hB1⟩
      · by_cases a4 : 1099511627776 < n
        · have e : decide (0 ≤ c ∧ c < m ∧ 1 ≤ n ∧ n ≤ 1099511627776 ∧ s.size ≤ 64) = false := by simp; omega
          rw [e]; clear e
          go_enter Tryd.func56, Tryd.ntmps56
          go_wp2
          go_ret
          exact ⟨rfl, hB1⟩
        · have e : decide (0 ≤ c ∧ c < m ∧ 1 ≤ n ∧ n ≤ 1099511627776 ∧ s.size ≤ 64) = decide ((s.size : Int) ≤ 64) := by
            rw [decide_eq_decide]; omega
          rw [e]; clear e
          go_enter Tryd.func56, Tryd.ntmps56
          go_wp2
          go_ret
          exact ⟨rfl, hB1⟩
set_option maxRecDepth 100000 in
set_option maxHeartbeats 1000000 in
theorem form_any (c n m : Int) (s : ByteArray) (t : List Int) (w : World) :
   Calls Tryd.prog 60 #[.int .i64 m, .agg (reqL c n s t).toArray] w fun e w' => e = .returned (.bool (decide (0 ≤ c ∧ c < m ∧ 1 ≤ n ∧ n ≤ 1099511627776 ∧ s.size ≤ 64))) ∧ Below w.heap.size w w' := by
  have hB1 : Below w.heap.size w (w.alloc (.cells (reqL c n s t).toArray 60)) := (Below.refl _ _).alloc (Nat.le_refl _) _
  obtain ⟨h0, h1, h2⟩ := reqL_0 (req_cells w c n s t)
  generalize reqL c n s t = q at *
  by_cases a1 : 0 ≤ c
  · by_cases a2 : c < m
    · by_cases a3 : 1 ≤ n
      · by_cases a4 : n ≤ 1099511627776
        · have e : decide (0 ≤ c ∧ c < m ∧ 1 ≤ n ∧ n ≤ 1099511627776 ∧ s.size ≤ 64) = decide ((s.size : Int) ≤ 64) := by
            rw [decide_eq_decide]; omega
          rw [e]; clear e
          go_enter Tryd.func60, Tryd.ntmps60
          go_wp2
          go_ret
          exact ⟨rfl, hB1⟩
        · have e : decide (0 ≤ c ∧ c < m ∧ 1 ≤ n ∧ n ≤ 1099511627776 ∧ s.size ≤ 64) = false := by simp; omega
          rw [e]; clear e
          go_enter Tryd.func60, Tryd.ntmps60
          go_wp2
          go_ret
          exact ⟨rfl, hB1⟩
      · have e : decide (0 ≤ c ∧ c < m ∧ 1 ≤ n ∧ n ≤ 1099511627776 ∧ s.size ≤ 64) = false := by simp; omega
        rw [e]; clear e
        go_enter Tryd.func60, Tryd.ntmps60
        go_wp2
        go_ret
        exact ⟨rfl, hB1⟩
    · have e : decide (0 ≤ c ∧ c < m ∧ 1 ≤ n ∧ n ≤ 1099511627776 ∧ s.size ≤ 64) = false := by simp; omega
      rw [e]; clear e
      go_enter Tryd.func60, Tryd.ntmps60
      go_wp2
      go_ret
      exact ⟨rfl, hB1⟩
  · have e : decide (0 ≤ c ∧ c < m ∧ 1 ≤ n ∧ n ≤ 1099511627776 ∧ s.size ≤ 64) = false := by simp; omega
    rw [e]; clear e
    go_enter Tryd.func60, Tryd.ntmps60
    go_wp2
    go_ret
    exact ⟨rfl, hB1⟩
end Go.Proofs.YtinpbnkmpplkiaaDoor
