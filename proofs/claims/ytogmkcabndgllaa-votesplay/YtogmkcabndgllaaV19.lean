/- digest.Less and the document's -/
import Derived.Test.YtogmkcabndgllaaV4
import Derived.Lib.BytesEntry
import Derived.BigQuiet
namespace Go.Proofs.Ytogmkcabndgllaa
open Go.RowKit
theorem lexI_at : ∀ (k : Nat) (x y : List Int), x.take k = y.take k → k < x.length → k < y.length → x.getD k 0 ≠ y.getD k 0 → lexI x y = decide (x.getD k 0 < y.getD k 0)
  | 0, a :: x, b :: y, _, _, _, h => by
    simp only [List.getD_cons_zero] at h ⊢
    simp [lexI, h]
  | k + 1, a :: x, b :: y, ht, h1, h2, h => by
    simp only [List.take_succ_cons, List.cons.injEq] at ht
    obtain ⟨rfl, ht⟩ := ht
    simp only [List.getD_cons_succ] at h ⊢
    rw [lexI, lexI_at k x y ht (by simpa using h1) (by simpa using h2) h]
    simp
  | _, [], _, _, h1, _, _ => by simp at h1
  | _, _ :: _, [], _, _, h2, _ => by simp at h2
theorem u8_lt (a b : Int) (ha : 0 ≤ a ∧ a < 256) (hb : 0 ≤ b ∧ b < 256) : (UInt8.ofNat a.toNat < UInt8.ofNat b.toNat) ↔ a < b := by
  rw [UInt8.lt_iff_toNat_lt, UInt8.toNat_ofNat', UInt8.toNat_ofNat']
  omega
theorem cmp_lex : ∀ (x y : List Int), (∀ z ∈ x, 0 ≤ z ∧ z < 256) → (∀ z ∈ y, 0 ≤ z ∧ z < 256) → decide (Lib.compareBytes (Lib.bytesOf x) (Lib.bytesOf y) < 0) = lexI x y
  | [], [], _, _ => by decide
  | [], _ :: _, _, _ => by simp [Lib.bytesOf, Lib.compareBytes, lexI]
  | _ :: _, [], _, _ => by simp [Lib.bytesOf, Lib.compareBytes, lexI]
  | a :: x, b :: y, hx, hy => by
    have ih := cmp_lex x y (fun z hz => hx z (List.mem_cons_of_mem _ hz)) (fun z hz => hy z (List.mem_cons_of_mem _ hz))
    have ha := hx a (List.mem_cons_self ..)
    have hb := hy b (List.mem_cons_self ..)
    have e1 := u8_lt a b ha hb
    have e2 := u8_lt b a hb ha
    simp only [Lib.bytesOf, List.map_cons, Lib.compareBytes]
    by_cases h1 : a < b
    · rw [if_pos (e1.2 h1)]; simp [lexI, h1]
    · rw [if_neg (fun h => h1 (e1.1 h))]
      by_cases h2 : b < a
      · rw [if_pos (e2.2 h2)]
        have : ¬ a = b := by omega
        simp [lexI, h1, this]
      · rw [if_neg (fun h => h2 (e2.1 h))]
        have : a = b := by omega
        show decide (Lib.compareBytes (Lib.bytesOf x) (Lib.bytesOf y) < 0) = _
        rw [ih]
        simp [lexI, this]
theorem load_cells {w : World} {b off c : Nat} {x : List Int} (h : w.rangeAt b off (v8 x)) : (Extern.Bytes.bytesOf (.slice (some ⟨b, off, none⟩) x.length c)).run Try.prog w = .ok ⟨(Lib.bytesOf x).toArray⟩ w := by
  have hl := Lib.run_loadBytesX (P := Try.prog) w x ⟨b, off, none⟩ .empty (fun j z hj => by
    rw [Addr.add_mid]
    exact h j _ (by unfold v8; rw [List.getElem?_map, hj]; rfl))
  have he : (⟨ByteArray.empty.data ++ (Lib.bytesOf x).toArray⟩ : ByteArray) = ⟨(Lib.bytesOf x).toArray⟩ := by
    apply ByteArray.ext
    show (#[] : Array UInt8) ++ (Lib.bytesOf x).toArray = (Lib.bytesOf x).toArray
    simp
  rw [he] at hl
  simpa [Extern.Bytes.bytesOf] using hl
theorem run_cmp {w : World} {b off c b2 off2 c2 : Nat} {x y : List Int} (h : w.rangeAt b off (v8 x)) (h2 : w.rangeAt b2 off2 (v8 y)) : (Extern.BytealgCompare.compare #[.slice (some ⟨b, off, none⟩) x.length c, .slice (some ⟨b2, off2, none⟩) y.length c2]).run Try.prog w = .ok (.int .i64 (Lib.compareBytes (Lib.bytesOf x) (Lib.bytesOf y))) w := by
  change Sem.run Try.prog (do pure (goInt (Extern.BytealgCompare.cmp (← Extern.Bytes.bytesOf (.slice (some ⟨b, off, none⟩) x.length c)) (← Extern.Bytes.bytesOf (.slice (some ⟨b2, off2, none⟩) y.length c2))))) w = _
  simp only [Sem.run_bind, load_cells h, load_cells h2, Result.andThen, Sem.run_pure]
  rw [Lib.cmp_eq]
  rfl
set_option maxHeartbeats 1000000 in
set_option maxRecDepth 20000 in
theorem compare_any (b off c b2 off2 c2 : Nat) (x y : List Int) (w : World) (h : w.rangeAt b off (v8 x)) (h2 : w.rangeAt b2 off2 (v8 y)) :
   Calls Try.prog 33 #[.slice (some ⟨b, off, none⟩) x.length c, .slice (some ⟨b2, off2, none⟩) y.length c2] w fun e w' => e = .returned (.int .i64 (Lib.compareBytes (Lib.bytesOf x) (Lib.bytesOf y))) ∧ w' = w := by
  have hr := run_cmp (c := c) (c2 := c2) h h2
  generalize Lib.compareBytes (Lib.bytesOf x) (Lib.bytesOf y) = r at *
  go_enter Try.func33, Try.ntmps33
  go_wp2
  rw [run_callFunc_extern Try.func34 (by kernel_rfl) (by kernel_rfl) (by kernel_rfl) (e := Extern.BytealgCompare.compare) (by kernel_rfl), hr]
  simp only [Result.andThen]
  rw [Oper.upon_value]
  go_wp2
  go_ret
  exact ⟨rfl, rfl⟩
theorem Below.draws {B : Nat} {a w : World} (h : Below B a w) (q : Nat) : Below B a (w.drewN q) := ⟨h.os, h.tape, h.output, h.size, h.block⟩
theorem two_boxes (x y : List Int) (w : World) : Below w.heap.size w ((w.alloc (.cells (v8 x).toArray 29)).alloc (.cells (v8 y).toArray 29)) ∧
    ((w.alloc (.cells (v8 x).toArray 29)).alloc (.cells (v8 y).toArray 29)).rangeAt w.heap.size 0 (v8 x) ∧ ((w.alloc (.cells (v8 x).toArray 29)).alloc (.cells (v8 y).toArray 29)).rangeAt (w.heap.size + 1) 0 (v8 y) ∧
    w.heap.size + 1 < ((w.alloc (.cells (v8 x).toArray 29)).alloc (.cells (v8 y).toArray 29)).heap.size := by
  have b1 : Below w.heap.size w (w.alloc (.cells (v8 x).toArray 29)) := (Below.refl _ _).alloc (Nat.le_refl _) _
  have b2 : Below (w.alloc (.cells (v8 x).toArray 29)).heap.size (w.alloc (.cells (v8 x).toArray 29)) ((w.alloc (.cells (v8 x).toArray 29)).alloc (.cells (v8 y).toArray 29)) := (Below.refl _ _).alloc (Nat.le_refl _) _
  refine ⟨b1.trans (b2.mono b1.size), range_below (range_new w (v8 x).toArray 29) b2 (by simp), ?_, by simp⟩
  have := range_new (w.alloc (.cells (v8 x).toArray 29)) (v8 y).toArray 29
  simpa using this
set_option maxHeartbeats 1000000 in
set_option maxRecDepth 20000 in
theorem less_any (x y : List Int) (w : World) (hx : x.length = 32) (hy : y.length = 32) (bx : ∀ z ∈ x, 0 ≤ z ∧ z < 256) (bY : ∀ z ∈ y, 0 ≤ z ∧ z < 256) :
   Calls Try.prog 31 #[.agg (v8 x).toArray, .agg (v8 y).toArray] w fun e w' => e = .returned (.bool (lexI x y)) ∧ Below w.heap.size w w' := by
  obtain ⟨hB, hX, hY, hz⟩ := two_boxes x y w
  have hc := cmp_lex x y bx bY
  go_enter Try.func31, Try.ntmps31
  go_wp2_with fail
  go_name_world w2 hw2
  rw [hw2] at hB hX hY hz
  clear hw2
  have hB4 := hB.drew
  have hX4 : w2.drew.rangeAt w.heap.size 0 (v8 x) := (World.rangeAt_drew _ _ _ _).2 hX
  have hY4 : w2.drew.rangeAt (w.heap.size + 1) 0 (v8 y) := (World.rangeAt_drew _ _ _ _).2 hY
  clear hB hX hY hz
  obtain ⟨X, hXe⟩ : ∃ X, Hid (w.heap.size = X) := ⟨_, rfl⟩
  rw [hXe.out] at hX4 hY4 ⊢
  obtain ⟨w5, hw5⟩ : ∃ w5, w2.drew = w5 := ⟨_, rfl⟩
  rw [hw5] at hB4 hX4 hY4
  refine hs_begin (S := (Below w5.heap.size w5)) 5 rfl (by kernel_rfl) ?_
  rw [hw5]
  clear hw5
  have hS : (Below w5.heap.size w5) w5 := Below.refl _ _
  refine hs_take (i := 0) (d := some 5) (v := ?_) rfl (by kernel_rfl) (by kernel_rfl) (by kernel_rfl) (by rfl) ?_ hS rfl ?_
  rotate_left
  · intro w' hw
    have hsl := slice_all (w := w') Try.underlying29 isz8 X 0 (by omega)
    go_simp
    try with_reducible rfl
  simp only [Act.put, List.setIfInBounds_toArray, List.set_cons_zero, List.set_cons_succ]
  refine hs_take (i := 1) (d := some 6) (v := ?_) rfl (by kernel_rfl) (by kernel_rfl) (by kernel_rfl) (by rfl) ?_ hS rfl ?_
  rotate_left
  · intro w' hw
    have hsl := slice_all (w := w') Try.underlying29 isz8 (X + 1) 0 (by omega)
    go_simp
    try with_reducible rfl
  simp only [Act.put, List.setIfInBounds_toArray, List.set_cons_zero, List.set_cons_succ]
  have c9 := compare_any X 0 32 (X + 1) 0 32 x y w5 hX4 hY4
  obtain ⟨r, hr⟩ : ∃ r, Hid (Lib.compareBytes (Lib.bytesOf x) (Lib.bytesOf y) = r) := ⟨_, rfl⟩
  rw [hx, hy, hr.out] at c9
  rw [hr.out] at hc
  refine hs_call (i := 2) (d := some 7) rfl (by kernel_rfl) (by rfl) (by go_simp; first | done | exact ⟨rfl, rfl⟩ | with_reducible rfl) rfl ?_
  refine (c9).mono ?_
  rintro e' w9 ⟨rfl, hx9⟩
  have hS : (Below w5.heap.size w5) w9 := by rw [hx9]; exact hS
  refine ⟨_, rfl, hS, ?_⟩
  simp only [Act.put, List.setIfInBounds_toArray, List.set_cons_zero, List.set_cons_succ]
  obtain rfl := hx9.symm
  clear c9 hx9
  refine hs_take (i := 3) (d := some 8) (v := ?_) rfl (by kernel_rfl) (by kernel_rfl) (by kernel_rfl) (by rfl) ?_ hS rfl ?_
  rotate_left
  · intro w' hw
    go_simp
    try with_reducible rfl
  simp only [Act.put, List.setIfInBounds_toArray, List.set_cons_zero, List.set_cons_succ]
  refine hs_take (i := 4) (d := some 4) (v := ?_) rfl (by kernel_rfl) (by kernel_rfl) (by kernel_rfl) (by rfl) ?_ hS rfl ?_
  rotate_left
  · intro w' hw
    go_simp
    try with_reducible rfl
  simp only [Act.put, List.setIfInBounds_toArray, List.set_cons_zero, List.set_cons_succ]
  refine hs_done (by kernel_rfl) ?_
  have hfin := hB4.trans (hS.mono hB4.size)
  go_wp2
  go_ret
  exact ⟨by rw [← hc]; simp, hfin⟩
set_option maxHeartbeats 1000000 in
set_option maxRecDepth 20000 in
theorem refLess_any (x y : List Int) (w : World) (hx : x.length = 32) (hy : y.length = 32) :
   Calls Try.prog 32 #[.agg (v8 x).toArray, .agg (v8 y).toArray] w fun e w' => e = .returned (.bool (lexI x y)) ∧ Below w.heap.size w w' := by
  obtain ⟨hB, hX, hY, hz⟩ := two_boxes x y w
  obtain ⟨L, hL⟩ : ∃ L, Hid (lexI x y = L) := ⟨_, rfl⟩
  rw [hL.out]
  go_enter Try.func32, Try.ntmps32
  go_wp2
  go_name_world w2 hw2
  rw [hw2] at hB hX hY hz
  clear hw2
  go_loopw [5] (fun i wr => ∃ k : Nat, k ≤ 32 ∧ i = .int .i64 (k : Int) ∧ Hid (x.take k = y.take k) ∧ Below w2.heap.size w2 wr) (fun i _ => 32 - (intOf i).toNat)
  case atStart => exact ⟨0, by omega, rfl, rfl, Below.refl _ _⟩
  case round =>
    obtain ⟨k, hk, rfl, ht, hW⟩ := hrel
    have hWW := hB.trans (hW.mono hB.size)
    by_cases hlt : k < 32
    · have hcx : ∀ w', Below wr.heap.size wr w' → w'.cell? ⟨w.heap.size, k, none⟩ = some (.int .u8 (x.getD k 0)) := fun w' hw' => by
        have := get8 (range_below hX (hW.trans (hw'.mono hW.size)) (by omega)) (i := k) (by omega)
        rwa [Nat.zero_add] at this
      have hcy : ∀ w', Below wr.heap.size wr w' → w'.cell? ⟨w.heap.size + 1, k, none⟩ = some (.int .u8 (y.getD k 0)) := fun w' hw' => by
        have := get8 (range_below hY (hW.trans (hw'.mono hW.size)) (by omega)) (i := k) (by omega)
        rwa [Nat.zero_add] at this
      have hat := lexI_at k x y ht.out (by omega) (by omega)
      have hsucc : x.getD k 0 = y.getD k 0 → x.take (k + 1) = y.take (k + 1) := fun e => by
        have h1 : k < x.length := by omega
        have h2 : k < y.length := by omega
        rw [List.take_succ_eq_append_getElem h1, List.take_succ_eq_append_getElem h2, ht.out]
        congr 2
        simpa [List.getD_eq_getElem?_getD, List.getElem?_eq_getElem h1, List.getElem?_eq_getElem h2] using e
      rw [hL.out] at hat
      have HA : Hid _ := hat
      have HS : Hid _ := hsucc
      clear hat hsucc
      generalize x.getD k 0 = p at *
      generalize y.getD k 0 = q at *
      have k1 := hcx wr (Below.refl _ _)
      have k2 := hcy wr (Below.refl _ _)
      have k3 := hcx wr.drew (Below.refl _ _).drew
      have k4 := hcy wr.drew (Below.refl _ _).drew
      have hd1 := hWW.drew.drew
      clear hcx hcy
      by_cases e : p = q
      · subst e
        go_wp2_with fail
        go_quiet (fail)
        go_wp2_with fail
        go_roundw
        case rel => exact ⟨k + 1, by omega, by go_num, HS.out trivial, Below.draws hW _⟩
        case measure => simp [intOf]; omega
      · go_wp2_with fail
        go_quiet (fail)
        go_wp2_with fail
        go_quiet (fail)
        go_wp2_with fail
        go_ret
        exact ⟨by rw [HA.out e]; rfl, Below.draws (Below.draws hWW _) _⟩
    · have hk' : k = 32 := by omega
      subst hk'
      have e : x = y := by
        have := ht.out
        rwa [List.take_of_length_le (by omega), List.take_of_length_le (by omega)] at this
      have HL : Hid (L = false) := by
        show L = false
        rw [← hL.out, e]; exact lexI_self y
      clear e
      go_wp2
      go_ret
      exact ⟨by rw [HL.out]; rfl, hWW⟩
end Go.Proofs.Ytogmkcabndgllaa
