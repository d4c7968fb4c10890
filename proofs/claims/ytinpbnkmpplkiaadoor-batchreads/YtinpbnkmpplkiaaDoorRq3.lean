/- requests: the tag, and the law's keys -/
import Derived.Test.YtinpbnkmpplkiaaDoorRq2
import Derived.Test.YtinpbnkmpplkiaaDoorRKeys
namespace Go.Proofs.YtinpbnkmpplkiaaDoor
open Go.RowKit
open Sha Tal
theorem lit16 : (#[.int .u8 0, .int .u8 0, .int .u8 0, .int .u8 0, .int .u8 0, .int .u8 0, .int .u8 0, .int .u8 0, .int .u8 0, .int .u8 0, .int .u8 0, .int .u8 0, .int .u8 0, .int .u8 0, .int .u8 0, .int .u8 0] : Array Value) = (v8 zeros16).toArray := by rfl
theorem rep16 : Array.replicate 16 (Value.int .u8 0) = (v8 zeros16).toArray := by rfl
def tagV (ds : List (List Int)) (N c n : Int) (s : ByteArray) : List Int × Int :=
  if N < 0 ∨ 64 < N ∨ (ds.length : Int) - N ≤ c then (zeros16, 2) else signOf ds (N + c) (strOf (bodyL c n s))
theorem two_made (w : World) (q z : List Value) : Below w.heap.size w ((w.alloc (.cells q.toArray 60)).alloc (.cells z.toArray 58)) ∧
    ((w.alloc (.cells q.toArray 60)).alloc (.cells z.toArray 58)).rangeAt w.heap.size 0 q ∧ ((w.alloc (.cells q.toArray 60)).alloc (.cells z.toArray 58)).there (w.heap.size + 1) 0 z.length ∧
    w.heap.size + 1 < ((w.alloc (.cells q.toArray 60)).alloc (.cells z.toArray 58)).heap.size := by
  have b1 : Below w.heap.size w (w.alloc (.cells q.toArray 60)) := (Below.refl _ _).alloc (Nat.le_refl _) _
  have b2 : Below (w.alloc (.cells q.toArray 60)).heap.size (w.alloc (.cells q.toArray 60)) ((w.alloc (.cells q.toArray 60)).alloc (.cells z.toArray 58)) := (Below.refl _ _).alloc (Nat.le_refl _) _
  refine ⟨b1.trans (b2.mono b1.size), range_below (range_new w q.toArray 60) b2 (by simp), ?_, by simp⟩
  have := there_new (w.alloc (.cells q.toArray 60)) z.toArray 58
  simpa using this
set_option maxRecDepth 100000 in
set_option maxHeartbeats 2000000 in
theorem tag_noA (p : Option Addr) (ds : List (List Int)) (N c n : Int) (s : ByteArray) (t : List Int) (w : World) (h : KeysAt w p ds) (hN : N < 0) :
   Calls Tryd.prog 57 #[.pointer p, .int .i64 N, .agg (reqL c n s t).toArray] w fun e w' => e = .returned (.tuple #[.agg (v8 zeros16).toArray, .int .i64 2]) ∧ Below w.heap.size w w' := by
  obtain ⟨zs, hzs⟩ : ∃ zs, Hid (v8 zeros16 = zs) := ⟨_, hide rfl⟩
  have hqc := fun w' b => @reqL_0 w' b c n s t
  obtain ⟨q, hq⟩ : ∃ q, Hid (reqL c n s t = q) := ⟨_, hide rfl⟩
  obtain ⟨hB, hR, hT, hz⟩ := two_made w q zs
  have hlit := lit16
  have hi : (Tryd.prog.info? 58).map (·.size) = some (v8 zeros16).toArray.size := info16 zeros16 rfl
  have ho := all_oneCell_toArray (v8_one zeros16)
  have hl : (v8 zeros16).length = 16 := rfl
  have hi' : (Tryd.prog.info? 58).map (·.size) = some (v8 zeros16).length := by rw [hl]; exact iszT
  rw [hzs.out] at hlit hi ho hl hi'
  have HL : Hid (zs.length = 16) := hl
  clear hl
  rw [hzs.out]
  simp only [hq.out] at hqc
  rw [hq.out]
  go_enter Tryd.func57, Tryd.ntmps57
  go_wp2_with fail
  go_name_world w2 hw2
  rw [hw2] at hB hR hT hz
  clear hw2
  have hB4 := hB.drew
  have hR4 : w2.drew.rangeAt w.heap.size 0 q := (World.rangeAt_drew _ _ _ _).2 hR
  have hT4 : w2.drew.there (w.heap.size + 1) 0 zs.toArray.size := (World.there_drew _ _ _ _).2 hT
  have hz4 : w.heap.size + 1 < w2.drew.heap.size := hz
  have h4 := h.below hB4
  clear hB hR hT hz h
  obtain ⟨X, hX⟩ : ∃ X, Hid (w.heap.size = X) := ⟨_, hide rfl⟩
  rw [hX.out] at hR4 hT4 hz4 ⊢
  obtain ⟨w5, hw5⟩ : ∃ w5, w2.drew = w5 := ⟨_, rfl⟩
  rw [hw5] at hB4 hR4 hT4 hz4 h4
  have c0 : ∀ w', Below w5.heap.size w5 w' → w'.cell? ⟨X, 0, none⟩ = some (.int .i64 c) := fun w' hw' => (hqc w' X (range_below hR4 hw' (by omega))).1
  refine hs_begin (S := (Below w5.heap.size w5)) 15 rfl (by kernel_rfl) ?_
  rw [hw5]
  clear hw5
  have hS : (Below w5.heap.size w5) w5 := Below.refl _ _
  refine hs_take (i := 0) (d := some 8) (v := ?_) rfl (by kernel_rfl) (by kernel_rfl) (by kernel_rfl) (by rfl) ?_ hS rfl ?_
  rotate_left
  · intro w' hw
    go_simp
    try with_reducible rfl
  simp only [Act.put, List.setIfInBounds_toArray, List.set_cons_zero, List.set_cons_succ]
  refine hs_take (i := 1) (d := some 9) (v := .bool true) rfl (by kernel_rfl) (by kernel_rfl) (by kernel_rfl) (by rfl) (fun w' hw => by go_simp) hS rfl ?_
  simp only [Act.put, List.setIfInBounds_toArray, List.set_cons_zero, List.set_cons_succ]
  refine hs_take (i := 2) (d := some 10) (v := ?_) rfl (by kernel_rfl) (by kernel_rfl) (by kernel_rfl) (by rfl) ?_ hS rfl ?_
  rotate_left
  · intro w' hw
    go_simp
    try with_reducible rfl
  simp only [Act.put, List.setIfInBounds_toArray, List.set_cons_zero, List.set_cons_succ]
  refine hs_skip (i := 3) (d := some 11) rfl (by kernel_rfl) (by kernel_rfl) (by kernel_rfl) (by rfl) hS rfl ?_
  simp only [Act.put, List.setIfInBounds_toArray, List.set_cons_zero, List.set_cons_succ]
  refine hs_skip (i := 4) (d := some 12) rfl (by kernel_rfl) (by kernel_rfl) (by kernel_rfl) (by rfl) hS rfl ?_
  simp only [Act.put, List.setIfInBounds_toArray, List.set_cons_zero, List.set_cons_succ]
  refine hs_take (i := 5) (d := some 13) (v := ?_) rfl (by kernel_rfl) (by kernel_rfl) (by kernel_rfl) (by rfl) ?_ hS rfl ?_
  rotate_left
  · intro w' hw
    go_simp
    try with_reducible rfl
  simp only [Act.put, List.setIfInBounds_toArray, List.set_cons_zero, List.set_cons_succ]
  refine hs_take (i := 6) (d := some 14) (v := ?_) rfl (by kernel_rfl) (by kernel_rfl) (by kernel_rfl) (by rfl) ?_ hS rfl ?_
  rotate_left
  · intro w' hw
    go_simp
    try with_reducible rfl
  simp only [Act.put, List.setIfInBounds_toArray, List.set_cons_zero, List.set_cons_succ]
  refine hs_skip (i := 7) (d := some 15) rfl (by kernel_rfl) (by kernel_rfl) (by kernel_rfl) (by rfl) hS rfl ?_
  simp only [Act.put, List.setIfInBounds_toArray, List.set_cons_zero, List.set_cons_succ]
  refine hs_skip (i := 8) (d := some 16) rfl (by kernel_rfl) (by kernel_rfl) (by kernel_rfl) (by rfl) hS rfl ?_
  simp only [Act.put, List.setIfInBounds_toArray, List.set_cons_zero, List.set_cons_succ]
  refine hs_skip (i := 9) (d := some 17) rfl (by kernel_rfl) (by kernel_rfl) (by kernel_rfl) (by rfl) hS rfl ?_
  simp only [Act.put, List.setIfInBounds_toArray, List.set_cons_zero, List.set_cons_succ]
  refine hs_skip (i := 10) (d := some 18) rfl (by kernel_rfl) (by kernel_rfl) (by kernel_rfl) (by rfl) hS rfl ?_
  simp only [Act.put, List.setIfInBounds_toArray, List.set_cons_zero, List.set_cons_succ]
  refine hs_skip (i := 11) (d := some 19) rfl (by kernel_rfl) (by kernel_rfl) (by kernel_rfl) (by rfl) hS rfl ?_
  simp only [Act.put, List.setIfInBounds_toArray, List.set_cons_zero, List.set_cons_succ]
  refine hs_skip (i := 12) (d := some 20) rfl (by kernel_rfl) (by kernel_rfl) (by kernel_rfl) (by rfl) hS rfl ?_
  simp only [Act.put, List.setIfInBounds_toArray, List.set_cons_zero, List.set_cons_succ]
  refine hs_skip (i := 13) (d := some 21) rfl (by kernel_rfl) (by kernel_rfl) (by kernel_rfl) (by rfl) hS rfl ?_
  simp only [Act.put, List.setIfInBounds_toArray, List.set_cons_zero, List.set_cons_succ]
  refine hs_take (i := 14) (d := some 22) (v := ?_) rfl (by kernel_rfl) (by kernel_rfl) (by kernel_rfl) (by rfl) ?_ hS rfl ?_
  rotate_left
  · intro w' hw
    go_simp
    try with_reducible rfl
  simp only [Act.put, List.setIfInBounds_toArray, List.set_cons_zero, List.set_cons_succ]
  refine hs_done (by kernel_rfl) ?_
  clear c0 hR4 h4 hqc
  have hrs := run_loadVar_mid (P := Tryd.prog) (w5.setCells (X + 1) 0 zs) (X + 1) 0 58 zs _ (World.rangeAt_setCells_same w5 (X + 1) 0 zs (by have := hT4; simpa using this)) Tryd.underlying58 rfl hi'
  have hBl : Below w.heap.size w (w5.setCells (X + 1) 0 zs) := below_sets (by rw [hX.out]; omega) _ 0 w5 hB4
  go_wp2_with (refine wpList_store_mid rfl 58 _ _ rfl _ _ zs.toArray rfl rfl hT4 hi ho ?_)
  exact bodyPost_ret (v := .tuple #[.agg zs.toArray, .int .i64 2]) (by simp [results, Tryd.results57, asAddr, hrs]) rfl ⟨rfl, hBl⟩
set_option maxRecDepth 100000 in
set_option maxHeartbeats 2000000 in
theorem tag_noB (p : Option Addr) (ds : List (List Int)) (N c n : Int) (s : ByteArray) (t : List Int) (w : World) (h : KeysAt w p ds) (hN : ¬ N < 0) (hN2 : 64 < N) :
   Calls Tryd.prog 57 #[.pointer p, .int .i64 N, .agg (reqL c n s t).toArray] w fun e w' => e = .returned (.tuple #[.agg (v8 zeros16).toArray, .int .i64 2]) ∧ Below w.heap.size w w' := by
  obtain ⟨zs, hzs⟩ : ∃ zs, Hid (v8 zeros16 = zs) := ⟨_, hide rfl⟩
  have hqc := fun w' b => @reqL_0 w' b c n s t
  obtain ⟨q, hq⟩ : ∃ q, Hid (reqL c n s t = q) := ⟨_, hide rfl⟩
  obtain ⟨hB, hR, hT, hz⟩ := two_made w q zs
  have hlit := lit16
  have hi : (Tryd.prog.info? 58).map (·.size) = some (v8 zeros16).toArray.size := info16 zeros16 rfl
  have ho := all_oneCell_toArray (v8_one zeros16)
  have hl : (v8 zeros16).length = 16 := rfl
  have hi' : (Tryd.prog.info? 58).map (·.size) = some (v8 zeros16).length := by rw [hl]; exact iszT
  rw [hzs.out] at hlit hi ho hl hi'
  have HL : Hid (zs.length = 16) := hl
  clear hl
  rw [hzs.out]
  simp only [hq.out] at hqc
  rw [hq.out]
  go_enter Tryd.func57, Tryd.ntmps57
  go_wp2_with fail
  go_name_world w2 hw2
  rw [hw2] at hB hR hT hz
  clear hw2
  have hB4 := hB.drew
  have hR4 : w2.drew.rangeAt w.heap.size 0 q := (World.rangeAt_drew _ _ _ _).2 hR
  have hT4 : w2.drew.there (w.heap.size + 1) 0 zs.toArray.size := (World.there_drew _ _ _ _).2 hT
  have hz4 : w.heap.size + 1 < w2.drew.heap.size := hz
  have h4 := h.below hB4
  clear hB hR hT hz h
  obtain ⟨X, hX⟩ : ∃ X, Hid (w.heap.size = X) := ⟨_, hide rfl⟩
  rw [hX.out] at hR4 hT4 hz4 ⊢
  obtain ⟨w5, hw5⟩ : ∃ w5, w2.drew = w5 := ⟨_, rfl⟩
  rw [hw5] at hB4 hR4 hT4 hz4 h4
  have c0 : ∀ w', Below w5.heap.size w5 w' → w'.cell? ⟨X, 0, none⟩ = some (.int .i64 c) := fun w' hw' => (hqc w' X (range_below hR4 hw' (by omega))).1
  refine hs_begin (S := (Below w5.heap.size w5)) 15 rfl (by kernel_rfl) ?_
  rw [hw5]
  clear hw5
  have hS : (Below w5.heap.size w5) w5 := Below.refl _ _
  refine hs_take (i := 0) (d := some 8) (v := ?_) rfl (by kernel_rfl) (by kernel_rfl) (by kernel_rfl) (by rfl) ?_ hS rfl ?_
  rotate_left
  · intro w' hw
    go_simp
    try with_reducible rfl
  simp only [Act.put, List.setIfInBounds_toArray, List.set_cons_zero, List.set_cons_succ]
  refine hs_take (i := 1) (d := some 9) (v := .bool false) rfl (by kernel_rfl) (by kernel_rfl) (by kernel_rfl) (by rfl) (fun w' hw => by go_simp) hS rfl ?_
  simp only [Act.put, List.setIfInBounds_toArray, List.set_cons_zero, List.set_cons_succ]
  refine hs_take (i := 2) (d := some 10) (v := ?_) rfl (by kernel_rfl) (by kernel_rfl) (by kernel_rfl) (by rfl) ?_ hS rfl ?_
  rotate_left
  · intro w' hw
    go_simp
    try with_reducible rfl
  simp only [Act.put, List.setIfInBounds_toArray, List.set_cons_zero, List.set_cons_succ]
  refine hs_take (i := 3) (d := some 11) (v := ?_) rfl (by kernel_rfl) (by kernel_rfl) (by kernel_rfl) (by rfl) ?_ hS rfl ?_
  rotate_left
  · intro w' hw
    go_simp
    try with_reducible rfl
  simp only [Act.put, List.setIfInBounds_toArray, List.set_cons_zero, List.set_cons_succ]
  refine hs_take (i := 4) (d := some 12) (v := .bool true) rfl (by kernel_rfl) (by kernel_rfl) (by kernel_rfl) (by rfl) (fun w' hw => by go_simp) hS rfl ?_
  simp only [Act.put, List.setIfInBounds_toArray, List.set_cons_zero, List.set_cons_succ]
  refine hs_take (i := 5) (d := some 13) (v := ?_) rfl (by kernel_rfl) (by kernel_rfl) (by kernel_rfl) (by rfl) ?_ hS rfl ?_
  rotate_left
  · intro w' hw
    go_simp
    try with_reducible rfl
  simp only [Act.put, List.setIfInBounds_toArray, List.set_cons_zero, List.set_cons_succ]
  refine hs_take (i := 6) (d := some 14) (v := ?_) rfl (by kernel_rfl) (by kernel_rfl) (by kernel_rfl) (by rfl) ?_ hS rfl ?_
  rotate_left
  · intro w' hw
    go_simp
    try with_reducible rfl
  simp only [Act.put, List.setIfInBounds_toArray, List.set_cons_zero, List.set_cons_succ]
  refine hs_skip (i := 7) (d := some 15) rfl (by kernel_rfl) (by kernel_rfl) (by kernel_rfl) (by rfl) hS rfl ?_
  simp only [Act.put, List.setIfInBounds_toArray, List.set_cons_zero, List.set_cons_succ]
  refine hs_skip (i := 8) (d := some 16) rfl (by kernel_rfl) (by kernel_rfl) (by kernel_rfl) (by rfl) hS rfl ?_
  simp only [Act.put, List.setIfInBounds_toArray, List.set_cons_zero, List.set_cons_succ]
  refine hs_skip (i := 9) (d := some 17) rfl (by kernel_rfl) (by kernel_rfl) (by kernel_rfl) (by rfl) hS rfl ?_
  simp only [Act.put, List.setIfInBounds_toArray, List.set_cons_zero, List.set_cons_succ]
  refine hs_skip (i := 10) (d := some 18) rfl (by kernel_rfl) (by kernel_rfl) (by kernel_rfl) (by rfl) hS rfl ?_
  simp only [Act.put, List.setIfInBounds_toArray, List.set_cons_zero, List.set_cons_succ]
  refine hs_skip (i := 11) (d := some 19) rfl (by kernel_rfl) (by kernel_rfl) (by kernel_rfl) (by rfl) hS rfl ?_
  simp only [Act.put, List.setIfInBounds_toArray, List.set_cons_zero, List.set_cons_succ]
  refine hs_skip (i := 12) (d := some 20) rfl (by kernel_rfl) (by kernel_rfl) (by kernel_rfl) (by rfl) hS rfl ?_
  simp only [Act.put, List.setIfInBounds_toArray, List.set_cons_zero, List.set_cons_succ]
  refine hs_skip (i := 13) (d := some 21) rfl (by kernel_rfl) (by kernel_rfl) (by kernel_rfl) (by rfl) hS rfl ?_
  simp only [Act.put, List.setIfInBounds_toArray, List.set_cons_zero, List.set_cons_succ]
  refine hs_take (i := 14) (d := some 22) (v := ?_) rfl (by kernel_rfl) (by kernel_rfl) (by kernel_rfl) (by rfl) ?_ hS rfl ?_
  rotate_left
  · intro w' hw
    go_simp
    try with_reducible rfl
  simp only [Act.put, List.setIfInBounds_toArray, List.set_cons_zero, List.set_cons_succ]
  refine hs_done (by kernel_rfl) ?_
  clear c0 hR4 h4 hqc
  have hrs := run_loadVar_mid (P := Tryd.prog) (w5.setCells (X + 1) 0 zs) (X + 1) 0 58 zs _ (World.rangeAt_setCells_same w5 (X + 1) 0 zs (by have := hT4; simpa using this)) Tryd.underlying58 rfl hi'
  have hBl : Below w.heap.size w (w5.setCells (X + 1) 0 zs) := below_sets (by rw [hX.out]; omega) _ 0 w5 hB4
  go_wp2_with (refine wpList_store_mid rfl 58 _ _ rfl _ _ zs.toArray rfl rfl hT4 hi ho ?_)
  exact bodyPost_ret (v := .tuple #[.agg zs.toArray, .int .i64 2]) (by simp [results, Tryd.results57, asAddr, hrs]) rfl ⟨rfl, hBl⟩
set_option maxRecDepth 100000 in
set_option maxHeartbeats 2000000 in
theorem tag_noC (p : Option Addr) (ds : List (List Int)) (N c n : Int) (s : ByteArray) (t : List Int) (w : World) (h : KeysAt w p ds) (hN : ¬ N < 0) (hN2 : ¬ 64 < N) (hc : (ds.length : Int) - N ≤ c) :
   Calls Tryd.prog 57 #[.pointer p, .int .i64 N, .agg (reqL c n s t).toArray] w fun e w' => e = .returned (.tuple #[.agg (v8 zeros16).toArray, .int .i64 2]) ∧ Below w.heap.size w w' := by
  obtain ⟨zs, hzs⟩ : ∃ zs, Hid (v8 zeros16 = zs) := ⟨_, hide rfl⟩
  have hqc := fun w' b => @reqL_0 w' b c n s t
  obtain ⟨q, hq⟩ : ∃ q, Hid (reqL c n s t = q) := ⟨_, hide rfl⟩
  obtain ⟨hB, hR, hT, hz⟩ := two_made w q zs
  have hlit := lit16
  have hi : (Tryd.prog.info? 58).map (·.size) = some (v8 zeros16).toArray.size := info16 zeros16 rfl
  have ho := all_oneCell_toArray (v8_one zeros16)
  have hl : (v8 zeros16).length = 16 := rfl
  have hi' : (Tryd.prog.info? 58).map (·.size) = some (v8 zeros16).length := by rw [hl]; exact iszT
  rw [hzs.out] at hlit hi ho hl hi'
  have HL : Hid (zs.length = 16) := hl
  clear hl
  have hdl := h.len
  have hw64 : IntKind.i64.wrap ((ds.length : Int) - N) = (ds.length : Int) - N := by rw [IntKind.wrap_i64]; omega
  rw [hzs.out]
  simp only [hq.out] at hqc
  rw [hq.out]
  go_enter Tryd.func57, Tryd.ntmps57
  go_wp2_with fail
  go_name_world w2 hw2
  rw [hw2] at hB hR hT hz
  clear hw2
  have hB4 := hB.drew
  have hR4 : w2.drew.rangeAt w.heap.size 0 q := (World.rangeAt_drew _ _ _ _).2 hR
  have hT4 : w2.drew.there (w.heap.size + 1) 0 zs.toArray.size := (World.there_drew _ _ _ _).2 hT
  have hz4 : w.heap.size + 1 < w2.drew.heap.size := hz
  have h4 := h.below hB4
  clear hB hR hT hz h
  obtain ⟨X, hX⟩ : ∃ X, Hid (w.heap.size = X) := ⟨_, hide rfl⟩
  rw [hX.out] at hR4 hT4 hz4 ⊢
  obtain ⟨w5, hw5⟩ : ∃ w5, w2.drew = w5 := ⟨_, rfl⟩
  rw [hw5] at hB4 hR4 hT4 hz4 h4
  have c0 : ∀ w', Below w5.heap.size w5 w' → w'.cell? ⟨X, 0, none⟩ = some (.int .i64 c) := fun w' hw' => (hqc w' X (range_below hR4 hw' (by omega))).1
  refine hs_begin (S := (Below w5.heap.size w5)) 15 rfl (by kernel_rfl) ?_
  rw [hw5]
  clear hw5
  have hS : (Below w5.heap.size w5) w5 := Below.refl _ _
  refine hs_take (i := 0) (d := some 8) (v := ?_) rfl (by kernel_rfl) (by kernel_rfl) (by kernel_rfl) (by rfl) ?_ hS rfl ?_
  rotate_left
  · intro w' hw
    go_simp
    try with_reducible rfl
  simp only [Act.put, List.setIfInBounds_toArray, List.set_cons_zero, List.set_cons_succ]
  refine hs_take (i := 1) (d := some 9) (v := .bool false) rfl (by kernel_rfl) (by kernel_rfl) (by kernel_rfl) (by rfl) (fun w' hw => by go_simp) hS rfl ?_
  simp only [Act.put, List.setIfInBounds_toArray, List.set_cons_zero, List.set_cons_succ]
  refine hs_take (i := 2) (d := some 10) (v := ?_) rfl (by kernel_rfl) (by kernel_rfl) (by kernel_rfl) (by rfl) ?_ hS rfl ?_
  rotate_left
  · intro w' hw
    go_simp
    try with_reducible rfl
  simp only [Act.put, List.setIfInBounds_toArray, List.set_cons_zero, List.set_cons_succ]
  refine hs_take (i := 3) (d := some 11) (v := ?_) rfl (by kernel_rfl) (by kernel_rfl) (by kernel_rfl) (by rfl) ?_ hS rfl ?_
  rotate_left
  · intro w' hw
    go_simp
    try with_reducible rfl
  simp only [Act.put, List.setIfInBounds_toArray, List.set_cons_zero, List.set_cons_succ]
  refine hs_take (i := 4) (d := some 12) (v := .bool false) rfl (by kernel_rfl) (by kernel_rfl) (by kernel_rfl) (by rfl) (fun w' hw => by go_simp) hS rfl ?_
  simp only [Act.put, List.setIfInBounds_toArray, List.set_cons_zero, List.set_cons_succ]
  refine hs_take (i := 5) (d := some 13) (v := ?_) rfl (by kernel_rfl) (by kernel_rfl) (by kernel_rfl) (by rfl) ?_ hS rfl ?_
  rotate_left
  · intro w' hw
    go_simp
    try with_reducible rfl
  simp only [Act.put, List.setIfInBounds_toArray, List.set_cons_zero, List.set_cons_succ]
  refine hs_take (i := 6) (d := some 14) (v := ?_) rfl (by kernel_rfl) (by kernel_rfl) (by kernel_rfl) (by rfl) ?_ hS rfl ?_
  rotate_left
  · intro w' hw
    go_simp
    try with_reducible rfl
  simp only [Act.put, List.setIfInBounds_toArray, List.set_cons_zero, List.set_cons_succ]
  refine hs_take (i := 7) (d := some 15) (v := ?_) rfl (by kernel_rfl) (by kernel_rfl) (by kernel_rfl) (by rfl) ?_ hS rfl ?_
  rotate_left
  · intro w' hw
    go_simp
    try with_reducible rfl
  simp only [Act.put, List.setIfInBounds_toArray, List.set_cons_zero, List.set_cons_succ]
  refine hs_take (i := 8) (d := some 16) (v := ?_) rfl (by kernel_rfl) (by kernel_rfl) (by kernel_rfl) (by rfl) ?_ hS rfl ?_
  rotate_left
  · intro w' hw
    have hc := c0 w' hw
    go_simp
    try with_reducible rfl
  simp only [Act.put, List.setIfInBounds_toArray, List.set_cons_zero, List.set_cons_succ]
  refine hs_take (i := 9) (d := some 17) (v := ?_) rfl (by kernel_rfl) (by kernel_rfl) (by kernel_rfl) (by rfl) ?_ hS rfl ?_
  rotate_left
  · intro w' hw
    go_simp
    try with_reducible rfl
  simp only [Act.put, List.setIfInBounds_toArray, List.set_cons_zero, List.set_cons_succ]
  refine hs_take (i := 11) (d := some 19) (v := ?_) rfl (by kernel_rfl) (by kernel_rfl) (by kernel_rfl) (by rfl) ?_ hS rfl ?_
  rotate_left
  · intro w' hw
    go_simp
    try with_reducible rfl
  simp only [Act.put, List.setIfInBounds_toArray, List.set_cons_zero, List.set_cons_succ]
  have ck := klen_any p ds w5 h4
  refine hs_call (i := 10) (d := some 18) rfl (by kernel_rfl) (by rfl) (by go_simp; first | done | exact ⟨rfl, rfl⟩ | with_reducible rfl) rfl ?_
  refine (ck).mono ?_
  rintro e' w9 ⟨rfl, hx9⟩
  have hS : (Below w5.heap.size w5) w9 := by rw [hx9]; exact hS
  refine ⟨_, rfl, hS, ?_⟩
  simp only [Act.put, List.setIfInBounds_toArray, List.set_cons_zero, List.set_cons_succ]
  obtain rfl := hx9.symm
  clear ck hx9
  refine hs_take (i := 12) (d := some 20) (v := .int .i64 ((ds.length : Int) - N)) rfl (by kernel_rfl) (by kernel_rfl) (by kernel_rfl) (by rfl) (fun w' hw => by go_simp) hS rfl ?_
  simp only [Act.put, List.setIfInBounds_toArray, List.set_cons_zero, List.set_cons_succ]
  refine hs_take (i := 13) (d := some 21) (v := .bool true) rfl (by kernel_rfl) (by kernel_rfl) (by kernel_rfl) (by rfl) (fun w' hw => by go_simp) hS rfl ?_
  simp only [Act.put, List.setIfInBounds_toArray, List.set_cons_zero, List.set_cons_succ]
  refine hs_take (i := 14) (d := some 22) (v := ?_) rfl (by kernel_rfl) (by kernel_rfl) (by kernel_rfl) (by rfl) ?_ hS rfl ?_
  rotate_left
  · intro w' hw
    go_simp
    try with_reducible rfl
  simp only [Act.put, List.setIfInBounds_toArray, List.set_cons_zero, List.set_cons_succ]
  refine hs_done (by kernel_rfl) ?_
  clear c0 hR4 h4 hqc
  have hrs := run_loadVar_mid (P := Tryd.prog) (w5.setCells (X + 1) 0 zs) (X + 1) 0 58 zs _ (World.rangeAt_setCells_same w5 (X + 1) 0 zs (by have := hT4; simpa using this)) Tryd.underlying58 rfl hi'
  have hBl : Below w.heap.size w (w5.setCells (X + 1) 0 zs) := below_sets (by rw [hX.out]; omega) _ 0 w5 hB4
  go_wp2_with (refine wpList_store_mid rfl 58 _ _ rfl _ _ zs.toArray rfl rfl hT4 hi ho ?_)
  exact bodyPost_ret (v := .tuple #[.agg zs.toArray, .int .i64 2]) (by simp [results, Tryd.results57, asAddr, hrs]) rfl ⟨rfl, hBl⟩
set_option maxRecDepth 100000 in
set_option maxHeartbeats 2000000 in
theorem tag_yes (p : Option Addr) (ds : List (List Int)) (N c n : Int) (s : ByteArray) (t : List Int) (w : World) (h : KeysAt w p ds) (hG : Glob w) (ht : t.length = 16) (hN : ¬ N < 0) (hN2 : ¬ 64 < N) (hc : ¬ (ds.length : Int) - N ≤ c) (hc0 : -1000000 ≤ c) (hn : n ≤ 9223372036854775807) (hs : s.size ≤ 100000) (hbsz : (strOf (bodyL c n s)).size ≤ 100000) :
   Calls Tryd.prog 57 #[.pointer p, .int .i64 N, .agg (reqL c n s t).toArray] w fun e w' => e = .returned (.tuple #[.agg (v8 (signOf ds (N + c) (strOf (bodyL c n s))).1).toArray, .int .i64 (signOf ds (N + c) (strOf (bodyL c n s))).2]) ∧ Below w.heap.size w w' := by
  obtain ⟨zs, hzs⟩ : ∃ zs, Hid (v8 zeros16 = zs) := ⟨_, hide rfl⟩
  have hqc := fun w' b => @reqL_0 w' b c n s t
  obtain ⟨q, hq⟩ : ∃ q, Hid (reqL c n s t = q) := ⟨_, hide rfl⟩
  obtain ⟨hB, hR, hT, hz⟩ := two_made w q zs
  have hlit := lit16
  have hi : (Tryd.prog.info? 58).map (·.size) = some (v8 zeros16).toArray.size := info16 zeros16 rfl
  have ho := all_oneCell_toArray (v8_one zeros16)
  have hl : (v8 zeros16).length = 16 := rfl
  have hi' : (Tryd.prog.info? 58).map (·.size) = some (v8 zeros16).length := by rw [hl]; exact iszT
  rw [hzs.out] at hlit hi ho hl hi'
  have HL : Hid (zs.length = 16) := hl
  clear hl
  have hdl := h.len
  have hw64 : IntKind.i64.wrap ((ds.length : Int) - N) = (ds.length : Int) - N := by rw [IntKind.wrap_i64]; omega
  have hw65 : IntKind.i64.wrap (N + c) = N + c := by rw [IntKind.wrap_i64]; omega
  have hiq : (Tryd.prog.info? 60).map (·.size) = some (reqL c n s t).length := by rw [reqL_length c n s t ht]; exact iszR
  rw [hq.out] at hiq
  have cb := fun w0 => body_any c n s t w0 ht (by omega) hn hs
  simp only [hq.out] at cb
  have hbs := hbsz
  obtain ⟨bd, hbd⟩ : ∃ bd, Hid (strOf (bodyL c n s) = bd) := ⟨_, hide rfl⟩
  simp only [hbd.out] at cb
  rw [hbd.out] at hbs
  rw [hbd.out]
  have cs := fun w0 hG0 h0 => ksign_any p ds (N + c) bd w0 hG0 h0 (.inr hbs)
  have hrl0 := signOf_length ds (N + c) bd
  obtain ⟨er, her⟩ : ∃ er, Hid ((signOf ds (N + c) bd).2 = er) := ⟨_, hide rfl⟩
  obtain ⟨r0, hr0⟩ : ∃ r0, Hid ((signOf ds (N + c) bd).1 = r0) := ⟨_, hide rfl⟩
  simp only [her.out, hr0.out] at cs
  rw [hr0.out] at hrl0
  rw [her.out, hr0.out]
  have hir := info16 r0 hrl0
  have hor := all_oneCell_toArray (v8_one r0)
  have hir' : (Tryd.prog.info? 58).map (·.size) = some (v8 r0).length := by rw [v8_length, hrl0]; exact iszT
  have hrl : Hid ((v8 r0).length = 16) := by show _ = _; rw [v8_length, hrl0]
  obtain ⟨r, hr⟩ : ∃ r, Hid (v8 r0 = r) := ⟨_, hide rfl⟩
  simp only [hr.out] at cs
  rw [hr.out] at hir hor hir' hrl
  rw [hr.out]
  clear hrl0 hbsz hbs
  simp only [hq.out] at hqc
  rw [hq.out]
  go_enter Tryd.func57, Tryd.ntmps57
  go_wp2_with fail
  go_name_world w2 hw2
  rw [hw2] at hB hR hT hz
  clear hw2
  have hB4 := hB.drew
  have hR4 : w2.drew.rangeAt w.heap.size 0 q := (World.rangeAt_drew _ _ _ _).2 hR
  have hT4 : w2.drew.there (w.heap.size + 1) 0 zs.toArray.size := (World.there_drew _ _ _ _).2 hT
  have hz4 : w.heap.size + 1 < w2.drew.heap.size := hz
  have h4 := h.below hB4
  clear hB hR hT hz h
  obtain ⟨X, hX⟩ : ∃ X, Hid (w.heap.size = X) := ⟨_, hide rfl⟩
  rw [hX.out] at hR4 hT4 hz4 ⊢
  obtain ⟨w5, hw5⟩ : ∃ w5, w2.drew = w5 := ⟨_, rfl⟩
  rw [hw5] at hB4 hR4 hT4 hz4 h4
  have c0 : ∀ w', Below w5.heap.size w5 w' → w'.cell? ⟨X, 0, none⟩ = some (.int .i64 c) := fun w' hw' => (hqc w' X (range_below hR4 hw' (by omega))).1
  refine hs_begin (S := (Below w5.heap.size w5)) 15 rfl (by kernel_rfl) ?_
  rw [hw5]
  clear hw5
  have hS : (Below w5.heap.size w5) w5 := Below.refl _ _
  refine hs_take (i := 0) (d := some 8) (v := ?_) rfl (by kernel_rfl) (by kernel_rfl) (by kernel_rfl) (by rfl) ?_ hS rfl ?_
  rotate_left
  · intro w' hw
    go_simp
    try with_reducible rfl
  simp only [Act.put, List.setIfInBounds_toArray, List.set_cons_zero, List.set_cons_succ]
  refine hs_take (i := 1) (d := some 9) (v := .bool false) rfl (by kernel_rfl) (by kernel_rfl) (by kernel_rfl) (by rfl) (fun w' hw => by go_simp) hS rfl ?_
  simp only [Act.put, List.setIfInBounds_toArray, List.set_cons_zero, List.set_cons_succ]
  refine hs_take (i := 2) (d := some 10) (v := ?_) rfl (by kernel_rfl) (by kernel_rfl) (by kernel_rfl) (by rfl) ?_ hS rfl ?_
  rotate_left
  · intro w' hw
    go_simp
    try with_reducible rfl
  simp only [Act.put, List.setIfInBounds_toArray, List.set_cons_zero, List.set_cons_succ]
  refine hs_take (i := 3) (d := some 11) (v := ?_) rfl (by kernel_rfl) (by kernel_rfl) (by kernel_rfl) (by rfl) ?_ hS rfl ?_
  rotate_left
  · intro w' hw
    go_simp
    try with_reducible rfl
  simp only [Act.put, List.setIfInBounds_toArray, List.set_cons_zero, List.set_cons_succ]
  refine hs_take (i := 4) (d := some 12) (v := .bool false) rfl (by kernel_rfl) (by kernel_rfl) (by kernel_rfl) (by rfl) (fun w' hw => by go_simp) hS rfl ?_
  simp only [Act.put, List.setIfInBounds_toArray, List.set_cons_zero, List.set_cons_succ]
  refine hs_take (i := 5) (d := some 13) (v := ?_) rfl (by kernel_rfl) (by kernel_rfl) (by kernel_rfl) (by rfl) ?_ hS rfl ?_
  rotate_left
  · intro w' hw
    go_simp
    try with_reducible rfl
  simp only [Act.put, List.setIfInBounds_toArray, List.set_cons_zero, List.set_cons_succ]
  refine hs_take (i := 6) (d := some 14) (v := ?_) rfl (by kernel_rfl) (by kernel_rfl) (by kernel_rfl) (by rfl) ?_ hS rfl ?_
  rotate_left
  · intro w' hw
    go_simp
    try with_reducible rfl
  simp only [Act.put, List.setIfInBounds_toArray, List.set_cons_zero, List.set_cons_succ]
  refine hs_take (i := 7) (d := some 15) (v := ?_) rfl (by kernel_rfl) (by kernel_rfl) (by kernel_rfl) (by rfl) ?_ hS rfl ?_
  rotate_left
  · intro w' hw
    go_simp
    try with_reducible rfl
  simp only [Act.put, List.setIfInBounds_toArray, List.set_cons_zero, List.set_cons_succ]
  refine hs_take (i := 8) (d := some 16) (v := ?_) rfl (by kernel_rfl) (by kernel_rfl) (by kernel_rfl) (by rfl) ?_ hS rfl ?_
  rotate_left
  · intro w' hw
    have hc := c0 w' hw
    go_simp
    try with_reducible rfl
  simp only [Act.put, List.setIfInBounds_toArray, List.set_cons_zero, List.set_cons_succ]
  refine hs_take (i := 9) (d := some 17) (v := ?_) rfl (by kernel_rfl) (by kernel_rfl) (by kernel_rfl) (by rfl) ?_ hS rfl ?_
  rotate_left
  · intro w' hw
    go_simp
    try with_reducible rfl
  simp only [Act.put, List.setIfInBounds_toArray, List.set_cons_zero, List.set_cons_succ]
  refine hs_take (i := 11) (d := some 19) (v := ?_) rfl (by kernel_rfl) (by kernel_rfl) (by kernel_rfl) (by rfl) ?_ hS rfl ?_
  rotate_left
  · intro w' hw
    go_simp
    try with_reducible rfl
  simp only [Act.put, List.setIfInBounds_toArray, List.set_cons_zero, List.set_cons_succ]
  have ck := klen_any p ds w5 h4
  refine hs_call (i := 10) (d := some 18) rfl (by kernel_rfl) (by rfl) (by go_simp; first | done | exact ⟨rfl, rfl⟩ | with_reducible rfl) rfl ?_
  refine (ck).mono ?_
  rintro e' w9 ⟨rfl, hx9⟩
  have hS : (Below w5.heap.size w5) w9 := by rw [hx9]; exact hS
  refine ⟨_, rfl, hS, ?_⟩
  simp only [Act.put, List.setIfInBounds_toArray, List.set_cons_zero, List.set_cons_succ]
  obtain rfl := hx9.symm
  clear ck hx9
  refine hs_take (i := 12) (d := some 20) (v := .int .i64 ((ds.length : Int) - N)) rfl (by kernel_rfl) (by kernel_rfl) (by kernel_rfl) (by rfl) (fun w' hw => by go_simp) hS rfl ?_
  simp only [Act.put, List.setIfInBounds_toArray, List.set_cons_zero, List.set_cons_succ]
  refine hs_take (i := 13) (d := some 21) (v := .bool false) rfl (by kernel_rfl) (by kernel_rfl) (by kernel_rfl) (by rfl) (fun w' hw => by go_simp) hS rfl ?_
  simp only [Act.put, List.setIfInBounds_toArray, List.set_cons_zero, List.set_cons_succ]
  refine hs_take (i := 14) (d := some 22) (v := ?_) rfl (by kernel_rfl) (by kernel_rfl) (by kernel_rfl) (by rfl) ?_ hS rfl ?_
  rotate_left
  · intro w' hw
    go_simp
    try with_reducible rfl
  simp only [Act.put, List.setIfInBounds_toArray, List.set_cons_zero, List.set_cons_succ]
  refine hs_done (by kernel_rfl) ?_
  clear c0
  have hB6 := hB4.drew
  have hR6 : w5.drew.rangeAt X 0 q := (World.rangeAt_drew _ _ _ _).2 hR4
  have hT6 : w5.drew.there (X + 1) 0 zs.toArray.size := (World.there_drew _ _ _ _).2 hT4
  have hz6 : X + 1 < w5.drew.heap.size := hz4
  have h6 := h4.below (Below.refl w5.heap.size w5).drew
  clear hB4 hR4 hT4 hz4 h4
  go_wp2_with fail
  obtain ⟨w6, hw6⟩ : ∃ w6, w5.drew = w6 := ⟨_, rfl⟩
  rw [hw6] at hB6 hR6 hT6 hz6 h6
  refine hs_begin (S := (fun W : World => W.rangeAt X 0 q ∧ Below w.heap.size w W)) 12 rfl (by kernel_rfl) ?_
  rw [hw6]
  clear hw6
  have hS : (fun W : World => W.rangeAt X 0 q ∧ Below w.heap.size w W) w6 := ⟨hR6, hB6⟩
  refine hs_take (i := 0) (d := some 24) (v := ?_) rfl (by kernel_rfl) (by kernel_rfl) (by kernel_rfl) (by rfl) ?_ hS rfl ?_
  rotate_left
  · intro w' hw
    go_simp
    try with_reducible rfl
  simp only [Act.put, List.setIfInBounds_toArray, List.set_cons_zero, List.set_cons_succ]
  refine hs_take (i := 1) (d := some 25) (v := ?_) rfl (by kernel_rfl) (by kernel_rfl) (by kernel_rfl) (by rfl) ?_ hS rfl ?_
  rotate_left
  · intro w' hw
    go_simp
    try with_reducible rfl
  simp only [Act.put, List.setIfInBounds_toArray, List.set_cons_zero, List.set_cons_succ]
  refine hs_take (i := 2) (d := some 26) (v := ?_) rfl (by kernel_rfl) (by kernel_rfl) (by kernel_rfl) (by rfl) ?_ hS rfl ?_
  rotate_left
  · intro w' hw
    go_simp
    try with_reducible rfl
  simp only [Act.put, List.setIfInBounds_toArray, List.set_cons_zero, List.set_cons_succ]
  refine hs_take (i := 3) (d := some 27) (v := ?_) rfl (by kernel_rfl) (by kernel_rfl) (by kernel_rfl) (by rfl) ?_ hS rfl ?_
  rotate_left
  · intro w' hw
    have hc := (hqc w' X hw.1).1
    go_simp
    try with_reducible rfl
  simp only [Act.put, List.setIfInBounds_toArray, List.set_cons_zero, List.set_cons_succ]
  refine hs_take (i := 4) (d := some 28) (v := .int .i64 (N + c)) rfl (by kernel_rfl) (by kernel_rfl) (by kernel_rfl) (by rfl) (fun w' hw => by go_simp) hS rfl ?_
  simp only [Act.put, List.setIfInBounds_toArray, List.set_cons_zero, List.set_cons_succ]
  refine hs_take (i := 5) (d := some 29) (v := .agg q.toArray) rfl (by kernel_rfl) (by kernel_rfl) (by kernel_rfl) (by rfl) (fun w' hw => exec_load rfl rfl (run_loadVar_mid (P := Tryd.prog) w' X 0 60 q _ hw.1 Tryd.underlying60 rfl hiq)) hS rfl ?_
  simp only [Act.put, List.setIfInBounds_toArray, List.set_cons_zero, List.set_cons_succ]
  have cb6 := cb w6
  refine hs_call (i := 6) (d := some 30) rfl (by kernel_rfl) (by rfl) (by go_simp; first | done | exact ⟨rfl, rfl⟩ | with_reducible rfl) rfl ?_
  refine (cb6).mono ?_
  rintro e' w7 ⟨rfl, hw7⟩
  have hS : (fun W : World => W.rangeAt X 0 q ∧ Below w.heap.size w W) w7 := ⟨range_below hS.1 hw7 (by omega), hS.2.trans (hw7.mono hS.2.size)⟩
  refine ⟨_, rfl, hS, ?_⟩
  simp only [Act.put, List.setIfInBounds_toArray, List.set_cons_zero, List.set_cons_succ]
  have hT7 := there_below hT6 hw7 hz6
  have hz7 := Nat.lt_of_lt_of_le hz6 hw7.size
  have cs7 := cs w7 (hG.below hS.2) (h6.below hw7)
  clear cb6 hw7 hT6 hz6 h6
  refine hs_call (i := 7) (d := some 31) rfl (by kernel_rfl) (by rfl) (by go_simp; first | done | exact ⟨rfl, rfl⟩ | with_reducible rfl) rfl ?_
  refine (cs7).mono ?_
  rintro e' w8 ⟨rfl, hw8⟩
  have hS : (fun W : World => W.rangeAt X 0 q ∧ Below w.heap.size w W) w8 := ⟨range_below hS.1 hw8 (by omega), hS.2.trans (hw8.mono hS.2.size)⟩
  refine ⟨_, rfl, hS, ?_⟩
  simp only [Act.put, List.setIfInBounds_toArray, List.set_cons_zero, List.set_cons_succ]
  have hT8 := there_below hT7 hw8 hz7
  clear cs7 hw8 hT7 hz7
  refine hs_take (i := 8) (d := some 32) (v := ?_) rfl (by kernel_rfl) (by kernel_rfl) (by kernel_rfl) (by rfl) ?_ hS rfl ?_
  rotate_left
  · intro w' hw
    go_simp
    try with_reducible rfl
  simp only [Act.put, List.setIfInBounds_toArray, List.set_cons_zero, List.set_cons_succ]
  refine hs_take (i := 9) (d := some 33) (v := ?_) rfl (by kernel_rfl) (by kernel_rfl) (by kernel_rfl) (by rfl) ?_ hS rfl ?_
  rotate_left
  · intro w' hw
    go_simp
    try with_reducible rfl
  simp only [Act.put, List.setIfInBounds_toArray, List.set_cons_zero, List.set_cons_succ]
  have hTr : w8.there (X + 1) 0 r.toArray.size := by
    have e : r.toArray.size = zs.toArray.size := by rw [List.size_toArray, List.size_toArray, hrl.out, HL.out]
    rw [e]; exact hT8
  have hBl : Below w.heap.size w (w8.setCells (X + 1) 0 r) := below_sets (by rw [hX.out]; omega) _ 0 w8 hS.2
  have hrs := run_loadVar_mid (P := Tryd.prog) (w8.setCells (X + 1) 0 r) (X + 1) 0 58 r _ (World.rangeAt_setCells_same w8 (X + 1) 0 r (by have := hTr; simpa using this)) Tryd.underlying58 rfl hir'
  have hst := run_storeVar_mid (P := Tryd.prog) w8 (X + 1) 0 58 r.toArray hTr hir hor
  refine hs_store (i := 10) (w' := (w8.setCells (X + 1) 0 r)) rfl (by kernel_rfl) (by rfl) (exec_store rfl rfl rfl hst) rfl ⟨World.rangeAt_setCells_apart hS.1 (X + 1) 0 r (.inl (by omega)), hBl⟩ ?_
  have hS : (fun W : World => W.rangeAt X 0 q ∧ Below w.heap.size w W) (w8.setCells (X + 1) 0 r) := ⟨World.rangeAt_setCells_apart hS.1 (X + 1) 0 r (.inl (by omega)), hBl⟩
  refine hs_take (i := 11) (d := some 7) (v := ?_) rfl (by kernel_rfl) (by kernel_rfl) (by kernel_rfl) (by rfl) ?_ hS rfl ?_
  rotate_left
  · intro w' hw
    go_simp
    try with_reducible rfl
  simp only [Act.put, List.setIfInBounds_toArray, List.set_cons_zero, List.set_cons_succ]
  refine hs_done (by kernel_rfl) ?_
  go_wp2_with fail
  exact bodyPost_ret (v := .tuple #[.agg r.toArray, .int .i64 er]) (by simp [results, Tryd.results57, asAddr, hrs]) rfl ⟨rfl, hBl⟩
end Go.Proofs.YtinpbnkmpplkiaaDoor
