/- requests: the body, the program's and the document's -/
import Derived.Test.YtinpbnkmpplkiaaDoorRq1
import Derived.Test.YtinpbnkmpplkiaaDoorKeys
import Derived.Lib.SlBytesConst
namespace Go.Proofs.YtinpbnkmpplkiaaDoor
open Go.RowKit
open Sha Tal
theorem reqL_length (c n : Int) (s : ByteArray) (t : List Int) (ht : t.length = 16) : (reqL c n s t).length = 19 := by simp [reqL, v8_length, ht]
theorem iszR : (Tryd.prog.info? 60).map (·.size) = some 19 := by kernel_rfl
theorem row_mine {w : World} {a : Option Addr} {zs : List Int} (h : RowAt w a zs) (cap : Nat) : (convert 39 9 (.slice a zs.length cap)).run Tryd.prog w = .ok (.string (strOf zs)) w := by
  rcases h.2.2 with rfl | ⟨b, off, rfl, _, hr⟩
  · rw [List.length_nil, run_convert_bytes_string w 39 9 5 a 0 cap Tryd.underlying39 Tryd.underlying5 Tryd.underlying9]
    cases a <;> rfl
  · exact row_str hr
theorem one_mark (w : World) : RowAt (w.alloc (.cells #[.int .u8 82] 5 (1, 2))) (some ⟨w.heap.size, 0, none⟩) [82] :=
  ⟨by unfold maxLen; simp, by decide, Or.inr ⟨w.heap.size, 0, rfl, by simp, fun j v hv => by
    rw [World.cell?_alloc_mark, Nat.zero_add]
    simpa [v8] using hv⟩⟩
theorem one_byte (w : World) : RowAt (w.alloc (.cells #[.int .u8 82] 5)) (some ⟨w.heap.size, 0, none⟩) [82] :=
  ⟨by unfold maxLen; simp, by decide, Or.inr ⟨w.heap.size, 0, rfl, by simp, range_new w #[.int .u8 82] 5⟩⟩
theorem bodyL_length (c n : Int) (s : ByteArray) (hc : c ≤ 9223372036854775807) (hn : n ≤ 9223372036854775807) (hs : s.size ≤ 100000) : (bodyL c n s).length ≤ 200000 := by
  have h1 := putL_length c (by omega)
  have h2 := putL_length n (by omega)
  have h3 := putL_length s.size (by omega)
  simp only [bodyL, textL, List.length_append, strL_length, List.length_cons, List.length_nil]
  omega
set_option maxRecDepth 100000 in
set_option maxHeartbeats 2000000 in
theorem body_any (c n : Int) (s : ByteArray) (t : List Int) (w : World) (ht : t.length = 16) (hc : c ≤ 9223372036854775807) (hn : n ≤ 9223372036854775807) (hs : s.size ≤ 100000) :
   Calls Tryd.prog 80 #[.agg (reqL c n s t).toArray] w fun e w' => e = .returned (.string (strOf (bodyL c n s))) ∧ Below w.heap.size w w' := by
  have hB1 : Below w.heap.size w (w.alloc (.cells (reqL c n s t).toArray 60)) := (Below.refl _ _).alloc (Nat.le_refl _) _
  have hR1 := req_cells w c n s t
  have hz1 : w.heap.size < (w.alloc (.cells (reqL c n s t).toArray 60)).heap.size := by simp
  have hi : (Tryd.prog.info? 60).map (·.size) = some (reqL c n s t).length := by rw [reqL_length c n s t ht]; exact iszR
  have cf := fun a cap w0 h => fields_any a cap [82] c n s t w0 h (by simp) hc hn (by omega)
  have hbl := bodyL_length c n s hc hn hs
  obtain ⟨q, hq⟩ : ∃ q, Hid (reqL c n s t = q) := ⟨_, rfl⟩
  rw [hq.out] at hB1 hz1 hi ⊢
  rw [hq.out] at hR1
  simp only [hq.out] at cf
  have eb : [82] ++ putL c ++ putL n ++ textL s = bodyL c n s := rfl
  simp only [eb] at cf
  obtain ⟨bl, hb⟩ : ∃ bl, Hid (bodyL c n s = bl) := ⟨_, rfl⟩
  simp only [hb.out] at cf
  rw [hb.out] at hbl ⊢
  obtain ⟨st, hst⟩ : ∃ st, Hid (strOf bl = st) := ⟨_, rfl⟩
  rw [hst.out]
  clear eb
  go_enter Tryd.func80, Tryd.ntmps80
  go_upto_region 1 with fail
  go_name_world w1 hw1
  rw [show w.alloc (.cells q.toArray 60) = w1 from hw1] at hB1 hR1 hz1
  clear hw1
  have hB2' : Below w1.heap.size w1 (w1.alloc (.cells #[.int .u8 82] 5)) := (Below.refl _ _).alloc (Nat.le_refl _) _
  have hB2 := hB1.trans (hB2'.mono hB1.size)
  have hR2 := range_below hR1 hB2' hz1
  have c2 := cf _ 1 _ (one_byte w1)
  simp only [List.length_cons, List.length_nil, Nat.zero_add] at c2
  clear cf hB1 hR1 hB2'
  obtain ⟨X, hX⟩ : ∃ X, Hid (w.heap.size = X) := ⟨_, rfl⟩
  rw [hX.out] at hR2
  rw [hX.out]
  go_wp2_with (refine wpList_load_mid rfl 60 _ rfl _ 0 rfl q _ hR2 Tryd.underlying60 rfl hi ?_)
  refine c2.mono ?_
  rintro e w3 ⟨v3, rfl, hM3, hw3⟩
  have hfin := hB2.trans (hw3.mono hB2.size)
  obtain ⟨a3, cap3, rfl, _, _, hrow3⟩ := hM3.rowAt (by unfold maxLen; omega)
  have hstr := row_mine hrow3 cap3
  rw [hst.out] at hstr
  clear c2 hM3 hw3 hrow3 hR2 hB2 hbl
  generalize bl.length = nb at *
  go_wp2
  go_ret
  rw [← hX.out]
  exact ⟨rfl, hfin⟩
set_option maxRecDepth 100000 in
set_option maxHeartbeats 2000000 in
theorem refBody_any (c n : Int) (s : ByteArray) (t : List Int) (w : World) (hc : c ≤ 9223372036854775807) (hn : n ≤ 9223372036854775807) (hs : s.size ≤ 100000) :
   Calls Tryd.prog 62 #[.agg (reqL c n s t).toArray] w fun e w' => e = .returned (.string (strOf (bodyL c n s))) ∧ Below w.heap.size w w' := by
  have hB1 : Below w.heap.size w (w.alloc (.cells (reqL c n s t).toArray 60)) := (Below.refl _ _).alloc (Nat.le_refl _) _
  have hR1 := req_cells w c n s t
  have hz1 : w.heap.size < (w.alloc (.cells (reqL c n s t).toArray 60)).heap.size := by simp
  have hbl := bodyL_length c n s hc hn hs
  have hlc := putL_length c (by omega)
  have hln := putL_length n (by omega)
  obtain ⟨q, hq⟩ : ∃ q, Hid (reqL c n s t = q) := ⟨_, rfl⟩
  rw [hq.out] at hB1 hz1 ⊢
  rw [hq.out] at hR1
  obtain ⟨z1, hz1'⟩ : ∃ z1, Hid ([(82 : Int)] ++ putL c = z1) := ⟨_, hide rfl⟩
  obtain ⟨z2, hz2'⟩ : ∃ z2, Hid (z1 ++ putL n = z2) := ⟨_, rfl⟩
  have hbz : Hid (z2 ++ textL s = bodyL c n s) := by rw [← hz2'.out, ← hz1'.out]; rfl
  have l1 : z1.length ≤ 1000009 := by rw [← hz1'.out, List.length_append]; simp; omega
  have l2 : z2.length ≤ 1000018 := by rw [← hz2'.out, List.length_append]; omega
  obtain ⟨bl, hb⟩ : ∃ bl, Hid (bodyL c n s = bl) := ⟨_, rfl⟩
  rw [hb.out] at hbl hbz ⊢
  obtain ⟨st, hst⟩ : ∃ st, Hid (strOf bl = st) := ⟨_, rfl⟩
  rw [hst.out]
  clear hlc hln
  go_enter Tryd.func62, Tryd.ntmps62
  go_wp2_with fail
  go_name_world w1 hw1
  rw [show w.alloc (.cells q.toArray 60) = w1 from hw1] at hB1 hR1 hz1
  clear hw1
  have hB4 := hB1.drew
  have hR4 : w1.drew.rangeAt w.heap.size 0 q := (World.rangeAt_drew _ _ _ _).2 hR1
  have hz4 : w.heap.size < w1.drew.heap.size := hz1
  clear hB1 hR1 hz1
  obtain ⟨X, hX⟩ : ∃ X, Hid (w.heap.size = X) := ⟨_, rfl⟩
  rw [hX.out] at hR4 hz4 ⊢
  obtain ⟨w5, hw5⟩ : ∃ w5, w1.drew = w5 := ⟨_, rfl⟩
  rw [hw5] at hB4 hR4 hz4
  have cells : ∀ w', Below w5.heap.size w5 w' → w'.cell? ⟨X, 0, none⟩ = some (.int .i64 c) ∧ w'.cell? ⟨X, 1, none⟩ = some (.int .i64 n) ∧ w'.cell? ⟨X, 2, none⟩ = some (.string s) := fun w' hw' => by
    have := range_below hR4 hw' hz4
    rw [← hq.out] at this
    exact reqL_0 this
  refine hs_begin (S := (Below w5.heap.size w5)) 13 rfl (by kernel_rfl) ?_
  rw [hw5]
  clear hw5 hR4
  have hS : (Below w5.heap.size w5) w5 := Below.refl _ _
  refine hs_take (i := 2) (d := some 5) (v := ?_) rfl (by kernel_rfl) (by kernel_rfl) (by kernel_rfl) (by rfl) ?_ hS rfl ?_
  rotate_left
  · intro w' hw
    go_simp
    try with_reducible rfl
  simp only [Act.put, List.setIfInBounds_toArray, List.set_cons_zero, List.set_cons_succ]
  refine hs_take (i := 3) (d := some 6) (v := ?_) rfl (by kernel_rfl) (by kernel_rfl) (by kernel_rfl) (by rfl) ?_ hS rfl ?_
  rotate_left
  · intro w' hw
    have hc := (cells w' hw).1
    go_simp
    try with_reducible rfl
  simp only [Act.put, List.setIfInBounds_toArray, List.set_cons_zero, List.set_cons_succ]
  refine hs_take (i := 5) (d := some 8) (v := ?_) rfl (by kernel_rfl) (by kernel_rfl) (by kernel_rfl) (by rfl) ?_ hS rfl ?_
  rotate_left
  · intro w' hw
    go_simp
    try with_reducible rfl
  simp only [Act.put, List.setIfInBounds_toArray, List.set_cons_zero, List.set_cons_succ]
  refine hs_take (i := 6) (d := some 9) (v := ?_) rfl (by kernel_rfl) (by kernel_rfl) (by kernel_rfl) (by rfl) ?_ hS rfl ?_
  rotate_left
  · intro w' hw
    have hc := (cells w' hw).2.1
    go_simp
    try with_reducible rfl
  simp only [Act.put, List.setIfInBounds_toArray, List.set_cons_zero, List.set_cons_succ]
  refine hs_take (i := 8) (d := some 11) (v := ?_) rfl (by kernel_rfl) (by kernel_rfl) (by kernel_rfl) (by rfl) ?_ hS rfl ?_
  rotate_left
  · intro w' hw
    go_simp
    try with_reducible rfl
  simp only [Act.put, List.setIfInBounds_toArray, List.set_cons_zero, List.set_cons_succ]
  refine hs_take (i := 9) (d := some 12) (v := ?_) rfl (by kernel_rfl) (by kernel_rfl) (by kernel_rfl) (by rfl) ?_ hS rfl ?_
  rotate_left
  · intro w' hw
    have hc := (cells w' hw).2.2
    go_simp
    try with_reducible rfl
  simp only [Act.put, List.setIfInBounds_toArray, List.set_cons_zero, List.set_cons_succ]
  clear cells
  have hS : (Below w5.heap.size w5) (w5.alloc (.cells #[.int .u8 82] 5)) := (Below.refl _ _).alloc (Nat.le_refl _) _
  refine hs_run (i := 0) (d := some 3) (v := .slice (some ⟨w5.heap.size, 0, none⟩) 1 1) (w' := (w5.alloc (.cells #[.int .u8 82] 5))) rfl (by kernel_rfl) (by rfl) (by go_simp; try with_reducible rfl) rfl hS ?_
  simp only [Act.put, List.setIfInBounds_toArray, List.set_cons_zero, List.set_cons_succ]
  have hcv := Lib.run_convert_bytes_const (P := Tryd.prog) w5 39 5 #[.int .u8 82] 1 1 Tryd.underlying39 Tryd.underlying5
  have hS : (Below w5.heap.size w5) (w5.alloc (.cells #[.int .u8 82] 5 (1, 2))) := (Below.refl _ _).alloc (Nat.le_refl _) _
  refine hs_run (i := 1) (d := some 4) (v := .slice (some ⟨w5.heap.size, 0, none⟩) 1 1) (w' := (w5.alloc (.cells #[.int .u8 82] 5 (1, 2)))) rfl (by kernel_rfl) (by rfl) (by go_simp; try with_reducible rfl) rfl hS ?_
  simp only [Act.put, List.setIfInBounds_toArray, List.set_cons_zero, List.set_cons_succ]
  clear hcv
  have h6 := one_mark w5
  obtain ⟨Y, hY⟩ : ∃ Y, Hid (w5.heap.size = Y) := ⟨_, hide rfl⟩
  rw [hY.out] at h6
  generalize w5.alloc (.cells #[.int .u8 82] 5 (1, 2)) = w6 at hS h6 ⊢
  have c6 := refPut_any (some ⟨w5.heap.size, 0, none⟩) 1 [82] c w6 (by rw [hY.out]; exact h6) (by simp) hc
  rw [hz1'.out] at c6
  refine hs_call (i := 4) (d := some 7) rfl (by kernel_rfl) (by rfl) (by go_simp; first | done | exact ⟨rfl, rfl⟩ | with_reducible rfl) rfl ?_
  refine (c6).mono ?_
  rintro e' w7 ⟨v7, rfl, hM7, hw7⟩
  have hS : (Below w5.heap.size w5) w7 := hS.trans (hw7.mono hS.size)
  refine ⟨_, rfl, hS, ?_⟩
  simp only [Act.put, List.setIfInBounds_toArray, List.set_cons_zero, List.set_cons_succ]
  obtain ⟨a7, cap7, rfl, _, _, hrow7⟩ := hM7.rowAt (by unfold maxLen; omega)
  clear c6 hM7 hw7
  have c7 := refPut_any a7 cap7 z1 n w7 hrow7 (by omega) hn
  rw [hz2'.out] at c7
  refine hs_call (i := 7) (d := some 10) rfl (by kernel_rfl) (by rfl) (by go_simp; first | done | exact ⟨rfl, rfl⟩ | with_reducible rfl) rfl ?_
  refine (c7).mono ?_
  rintro e' w8 ⟨v8, rfl, hM8, hw8⟩
  have hS : (Below w5.heap.size w5) w8 := hS.trans (hw8.mono hS.size)
  refine ⟨_, rfl, hS, ?_⟩
  simp only [Act.put, List.setIfInBounds_toArray, List.set_cons_zero, List.set_cons_succ]
  obtain ⟨a8, cap8, rfl, _, _, hrow8⟩ := hM8.rowAt (by unfold maxLen; omega)
  clear c7 hM8 hw8 hrow7
  have c8 := refPutText_any a8 cap8 z2 s w8 hrow8 (by omega) (by omega)
  rw [hbz.out] at c8
  refine hs_call (i := 10) (d := some 13) rfl (by kernel_rfl) (by rfl) (by go_simp; first | done | exact ⟨rfl, rfl⟩ | with_reducible rfl) rfl ?_
  refine (c8).mono ?_
  rintro e' w9 ⟨v9, rfl, hM9, hw9⟩
  have hS : (Below w5.heap.size w5) w9 := hS.trans (hw9.mono hS.size)
  refine ⟨_, rfl, hS, ?_⟩
  simp only [Act.put, List.setIfInBounds_toArray, List.set_cons_zero, List.set_cons_succ]
  obtain ⟨a9, cap9, rfl, _, _, hrow9⟩ := hM9.rowAt (by unfold maxLen; omega)
  have hstr := fun w' (hw : Below w9.heap.size w9 w') => row_mine (hrow9.below hw) cap9
  have hs1 := hstr w9 (Below.refl _ _)
  rw [hst.out] at hs1
  have hfin := hB4.trans (hS.mono hB4.size)
  clear c8 hM9 hw9 hrow8 hstr hrow9 hbl
  refine hs_run (i := 11) (d := some 14) (v := .string st) (w' := w9) rfl (by kernel_rfl) (by rfl) (by go_simp; try with_reducible rfl) rfl hS ?_
  simp only [Act.put, List.setIfInBounds_toArray, List.set_cons_zero, List.set_cons_succ]
  refine hs_take (i := 12) (d := some 2) (v := ?_) rfl (by kernel_rfl) (by kernel_rfl) (by kernel_rfl) (by rfl) ?_ hS rfl ?_
  rotate_left
  · intro w' hw
    go_simp
    try with_reducible rfl
  simp only [Act.put, List.setIfInBounds_toArray, List.set_cons_zero, List.set_cons_succ]
  refine hs_done (by kernel_rfl) ?_
  go_wp2
  go_ret
  rw [← hX.out]
  exact ⟨rfl, hfin⟩
end Go.Proofs.YtinpbnkmpplkiaaDoor
