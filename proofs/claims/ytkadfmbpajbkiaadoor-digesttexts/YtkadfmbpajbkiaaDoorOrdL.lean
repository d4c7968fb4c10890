/- digest.Less and the document's: contracts -/
import Derived.Test.YtkadfmbpajbkiaaDoorOrdC
namespace Go.Proofs.YtkadfmbpajbkiaaDoor
open Go.RowKit
open Sha
theorem Below.draws {B : Nat} {a w : World} (h : Below B a w) (q : Nat) : Below B a (w.drewN q) := ⟨h.os, h.tape, h.output, h.size, h.block⟩
theorem two_boxes (x y : List Int) (w : World) : Below w.heap.size w ((w.alloc (.cells (v8 x).toArray 24)).alloc (.cells (v8 y).toArray 24)) ∧
    ((w.alloc (.cells (v8 x).toArray 24)).alloc (.cells (v8 y).toArray 24)).rangeAt w.heap.size 0 (v8 x) ∧ ((w.alloc (.cells (v8 x).toArray 24)).alloc (.cells (v8 y).toArray 24)).rangeAt (w.heap.size + 1) 0 (v8 y) ∧
    w.heap.size + 1 < ((w.alloc (.cells (v8 x).toArray 24)).alloc (.cells (v8 y).toArray 24)).heap.size := by
  have b1 : Below w.heap.size w (w.alloc (.cells (v8 x).toArray 24)) := (Below.refl _ _).alloc (Nat.le_refl _) _
  have b2 : Below (w.alloc (.cells (v8 x).toArray 24)).heap.size (w.alloc (.cells (v8 x).toArray 24)) ((w.alloc (.cells (v8 x).toArray 24)).alloc (.cells (v8 y).toArray 24)) := (Below.refl _ _).alloc (Nat.le_refl _) _
  refine ⟨b1.trans (b2.mono b1.size), range_below (range_new w (v8 x).toArray 24) b2 (by simp), ?_, by simp⟩
  have := range_new (w.alloc (.cells (v8 x).toArray 24)) (v8 y).toArray 24
  simpa using this
set_option maxHeartbeats 1000000 in
set_option maxRecDepth 20000 in
theorem less_any (x y : List Int) (w : World) (hx : x.length = 32) (hy : y.length = 32) (bx : ∀ z ∈ x, 0 ≤ z ∧ z < 256) (bY : ∀ z ∈ y, 0 ≤ z ∧ z < 256) :
   Calls Tryd.prog 17 #[.agg (v8 x).toArray, .agg (v8 y).toArray] w fun e w' => e = .returned (.bool (lexI x y)) ∧ Below w.heap.size w w' := by
  obtain ⟨hB, hX, hY, hz⟩ := two_boxes x y w
  have hc := cmp_lex x y bx bY
  go_enter Tryd.func17, Tryd.ntmps17
  go_wp2_with fail
  go_name_world w2 hw2
  rw [hw2] at hB hX hY hz
  clear hw2
  have hB4 := hB.drew
  have hX4 : w2.drew.rangeAt w.heap.size 0 (v8 x) := (World.rangeAt_drew _ _ _ _).2 hX
  have hY4 : w2.drew.rangeAt (w.heap.size + 1) 0 (v8 y) := (World.rangeAt_drew _ _ _ _).2 hY
  clear hB hX hY hz
  obtain ⟨X, hXe⟩ : ∃ X, Hid (w.heap.size = X) := ⟨_, rfl⟩
  rw [hXe.out] at hX4 hY4 ⊢
  obtain ⟨w5, hw5⟩ : ∃ w5, w2.drew = w5 := ⟨_, rfl⟩
  rw [hw5] at hB4 hX4 hY4
  refine hs_begin (S := (Below w5.heap.size w5)) 5 rfl (by kernel_rfl) ?_
  rw [hw5]
  clear hw5
  have hS : (Below w5.heap.size w5) w5 := Below.refl _ _
  refine hs_take (i := 0) (d := some 5) (v := ?_) rfl (by kernel_rfl) (by kernel_rfl) (by kernel_rfl) (by rfl) ?_ hS rfl ?_
  rotate_left
  · intro w' hw
    have hsl := slice_all (w := w') Tryd.underlying24 isz8 X 0 (by omega)
    go_simp
    try with_reducible rfl
  simp only [Act.put, List.setIfInBounds_toArray, List.set_cons_zero, List.set_cons_succ]
  refine hs_take (i := 1) (d := some 6) (v := ?_) rfl (by kernel_rfl) (by kernel_rfl) (by kernel_rfl) (by rfl) ?_ hS rfl ?_
  rotate_left
  · intro w' hw
    have hsl := slice_all (w := w') Tryd.underlying24 isz8 (X + 1) 0 (by omega)
    go_simp
    try with_reducible rfl
  simp only [Act.put, List.setIfInBounds_toArray, List.set_cons_zero, List.set_cons_succ]
  have c9 := compare_any X 0 32 (X + 1) 0 32 x y w5 hX4 hY4
  obtain ⟨r, hr⟩ : ∃ r, Hid (Lib.compareBytes (Lib.bytesOf x) (Lib.bytesOf y) = r) := ⟨_, rfl⟩
  rw [hx, hy, hr.out] at c9
  rw [hr.out] at hc
  refine hs_call (i := 2) (d := some 7) rfl (by kernel_rfl) (by rfl) (by go_simp; first | done | exact ⟨rfl, rfl⟩ | with_reducible rfl) rfl ?_
  refine (c9).mono ?_
  rintro e' w9 ⟨rfl, hx9⟩
  have hS : (Below w5.heap.size w5) w9 := by rw [hx9]; exact hS
  refine ⟨_, rfl, hS, ?_⟩
  simp only [Act.put, List.setIfInBounds_toArray, List.set_cons_zero, List.set_cons_succ]
  obtain rfl := hx9.symm
  clear c9 hx9
  refine hs_take (i := 3) (d := some 8) (v := ?_) rfl (by kernel_rfl) (by kernel_rfl) (by kernel_rfl) (by rfl) ?_ hS rfl ?_
  rotate_left
  · intro w' hw
    go_simp
    try with_reducible rfl
  simp only [Act.put, List.setIfInBounds_toArray, List.set_cons_zero, List.set_cons_succ]
  refine hs_take (i := 4) (d := some 4) (v := ?_) rfl (by kernel_rfl) (by kernel_rfl) (by kernel_rfl) (by rfl) ?_ hS rfl ?_
  rotate_left
  · intro w' hw
    go_simp
    try with_reducible rfl
  simp only [Act.put, List.setIfInBounds_toArray, List.set_cons_zero, List.set_cons_succ]
  refine hs_done (by kernel_rfl) ?_
  have hfin := hB4.trans (hS.mono hB4.size)
  go_wp2
  go_ret
  exact ⟨by rw [← hc]; simp, hfin⟩
set_option maxHeartbeats 1000000 in
set_option maxRecDepth 20000 in
theorem refLess_any (x y : List Int) (w : World) (hx : x.length = 32) (hy : y.length = 32) :
   Calls Tryd.prog 18 #[.agg (v8 x).toArray, .agg (v8 y).toArray] w fun e w' => e = .returned (.bool (lexI x y)) ∧ Below w.heap.size w w' := by
  obtain ⟨hB, hX, hY, hz⟩ := two_boxes x y w
  obtain ⟨L, hL⟩ : ∃ L, Hid (lexI x y = L) := ⟨_, rfl⟩
  rw [hL.out]
  go_enter Tryd.func18, Tryd.ntmps18
  go_wp2
  go_name_world w2 hw2
  rw [hw2] at hB hX hY hz
  clear hw2
  go_loopw [5] (fun i wr => ∃ k : Nat, k ≤ 32 ∧ i = .int .i64 (k : Int) ∧ Hid (x.take k = y.take k) ∧ Below w2.heap.size w2 wr) (fun i _ => 32 - (intOf i).toNat)
  case atStart => exact ⟨0, by omega, rfl, rfl, Below.refl _ _⟩
  case round =>
    obtain ⟨k, hk, rfl, ht, hW⟩ := hrel
    have hWW := hB.trans (hW.mono hB.size)
    by_cases hlt : k < 32
    · have hcx : ∀ w', Below wr.heap.size wr w' → w'.cell? ⟨w.heap.size, k, none⟩ = some (.int .u8 (x.getD k 0)) := fun w' hw' => by
        have := get8 (range_below hX (hW.trans (hw'.mono hW.size)) (by omega)) (i := k) (by omega)
        rwa [Nat.zero_add] at this
      have hcy : ∀ w', Below wr.heap.size wr w' → w'.cell? ⟨w.heap.size + 1, k, none⟩ = some (.int .u8 (y.getD k 0)) := fun w' hw' => by
        have := get8 (range_below hY (hW.trans (hw'.mono hW.size)) (by omega)) (i := k) (by omega)
        rwa [Nat.zero_add] at this
      have hat := lexI_at k x y ht.out (by omega) (by omega)
      have hsucc : x.getD k 0 = y.getD k 0 → x.take (k + 1) = y.take (k + 1) := fun e => by
        have h1 : k < x.length := by omega
        have h2 : k < y.length := by omega
        rw [List.take_succ_eq_append_getElem h1, List.take_succ_eq_append_getElem h2, ht.out]
        congr 2
        simpa [List.getD_eq_getElem?_getD, List.getElem?_eq_getElem h1, List.getElem?_eq_getElem h2] using e
      rw [hL.out] at hat
      have HA : Hid _ := hat
      have HS : Hid _ := hsucc
      clear hat hsucc
      generalize x.getD k 0 = p at *
      generalize y.getD k 0 = q at *
      have k1 := hcx wr (Below.refl _ _)
      have k2 := hcy wr (Below.refl _ _)
      have k3 := hcx wr.drew (Below.refl _ _).drew
      have k4 := hcy wr.drew (Below.refl _ _).drew
      have hd1 := hWW.drew.drew
      clear hcx hcy
      by_cases e : p = q
      · subst e
        go_wp2_with fail
        go_quiet (fail)
        go_wp2_with fail
        go_roundw
        case rel => exact ⟨k + 1, by omega, by go_num, HS.out trivial, Below.draws hW _⟩
        case measure => simp [intOf]; omega
      · go_wp2_with fail
        go_quiet (fail)
        go_wp2_with fail
        go_quiet (fail)
        go_wp2_with fail
        go_ret
        exact ⟨by rw [HA.out e]; rfl, Below.draws (Below.draws hWW _) _⟩
    · have hk' : k = 32 := by omega
      subst hk'
      have e : x = y := by
        have := ht.out
        rwa [List.take_of_length_le (by omega), List.take_of_length_le (by omega)] at this
      have HL : Hid (L = false) := by
        show L = false
        rw [← hL.out, e]; exact lexI_self y
      clear e
      go_wp2
      go_ret
      exact ⟨by rw [HL.out]; rfl, hWW⟩
end Go.Proofs.YtkadfmbpajbkiaaDoor
