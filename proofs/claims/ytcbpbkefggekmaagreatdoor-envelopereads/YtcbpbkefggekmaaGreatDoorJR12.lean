/- requests: the tag, and the law's keys; request.Make: contracts; claims of batches, of certs; claims of certs, of messages; the tags of a message, but for its ne -/
import Derived.Test.YtcbpbkefggekmaaGreatDoorJR0
import Derived.Test.YtcbpbkefggekmaaGreatDoorJR4
import Derived.Test.YtcbpbkefggekmaaGreatDoorJR11
import Derived.Test.YtcbpbkefggekmaaGreatDoorJR10
import Derived.Deep.DeepCutAuto
import Derived.Test.YtcbpbkefggekmaaGreatDoorJR8
import Derived.Test.YtcbpbkefggekmaaGreatDoorJR9
namespace Go.Proofs.YtcbpbkefggekmaaGreatDoor.Rk
open Qs
open Go.RowKit
open Sha Tal
theorem lit16 : (#[.int .u8 0, .int .u8 0, .int .u8 0, .int .u8 0, .int .u8 0, .int .u8 0, .int .u8 0, .int .u8 0, .int .u8 0, .int .u8 0, .int .u8 0, .int .u8 0, .int .u8 0, .int .u8 0, .int .u8 0, .int .u8 0] : Array Value) = (v8 zeros16).toArray := by rfl
def tagV (ds : List (List Int)) (N c n : Int) (s : ByteArray) : List Int × Int :=
 if N < 0 ∨ 64 < N ∨ (ds.length : Int) - N ≤ c then (zeros16, 2) else signOf ds (N + c) (strOf (bodyL c n s))
theorem two_made (w : World) (q z : List Value) : Below w.heap.size w ((w.alloc (.cells q.toArray 81)).alloc (.cells z.toArray 23)) ∧
  ((w.alloc (.cells q.toArray 81)).alloc (.cells z.toArray 23)).rangeAt w.heap.size 0 q ∧ ((w.alloc (.cells q.toArray 81)).alloc (.cells z.toArray 23)).there (w.heap.size + 1) 0 z.length ∧
  w.heap.size + 1 < ((w.alloc (.cells q.toArray 81)).alloc (.cells z.toArray 23)).heap.size := by
 have b1 : Below w.heap.size w (w.alloc (.cells q.toArray 81)) := (Below.refl _ _).alloc (Nat.le_refl _) _
 have b2 : Below (w.alloc (.cells q.toArray 81)).heap.size (w.alloc (.cells q.toArray 81)) ((w.alloc (.cells q.toArray 81)).alloc (.cells z.toArray 23)) := (Below.refl _ _).alloc (Nat.le_refl _) _
 refine ⟨b1.trans (b2.mono b1.size), range_below (range_new w q.toArray 81) b2 (by simp), ?_, by simp⟩
 have := there_new (w.alloc (.cells q.toArray 81)) z.toArray 23
 simpa using this
set_option maxRecDepth 100000 in
set_option maxHeartbeats 2000000 in
theorem tag_noA (p : Option Addr) (ds : List (List Int)) (N c n : Int) (s : ByteArray) (t : List Int) (w : World) (h : KeysAt w p ds) (hN : N < 0) :
   Calls Tryz.prog 62 #[.pointer p, .int .i64 N, .agg (reqL c n s t).toArray] w fun e w' => e = .returned (.tuple #[.agg (v8 zeros16).toArray, .int .i64 2]) ∧ Below w.heap.size w w' := by
  obtain ⟨zs, hzs⟩ : ∃ zs, Hid (v8 zeros16 = zs) := ⟨_, hide rfl⟩
  have hqc := fun w' b => @reqL_0 w' b c n s t
  obtain ⟨q, hq⟩ : ∃ q, Hid (reqL c n s t = q) := ⟨_, hide rfl⟩
  obtain ⟨hB, hR, hT, hz⟩ := two_made w q zs
  have hlit := lit16
  have hi : (Tryz.prog.info? 23).map (·.size) = some (v8 zeros16).toArray.size := info16 zeros16 rfl
  have ho := all_oneCell_toArray (v8_one zeros16)
  have hl : (v8 zeros16).length = 16 := rfl
  have hi' : (Tryz.prog.info? 23).map (·.size) = some (v8 zeros16).length := by rw [hl]; exact iszT
  rw [hzs.out] at hlit hi ho hl hi'
  have HL : Hid (zs.length = 16) := hl
  clear hl
  rw [hzs.out]
  simp only [hq.out] at hqc
  rw [hq.out]
  go_enter Tryz.func62, Tryz.ntmps62
  go_wp2_with fail
  go_name_world w2 hw2
  rw [hw2] at hB hR hT hz
  clear hw2
  have hB4 := hB.drew
  have hR4 : w2.drew.rangeAt w.heap.size 0 q := (World.rangeAt_drew _ _ _ _).2 hR
  have hT4 : w2.drew.there (w.heap.size + 1) 0 zs.toArray.size := (World.there_drew _ _ _ _).2 hT
  have hz4 : w.heap.size + 1 < w2.drew.heap.size := hz
  have h4 := h.below hB4
  clear hB hR hT hz h
  obtain ⟨X, hX⟩ : ∃ X, Hid (w.heap.size = X) := ⟨_, hide rfl⟩
  rw [hX.out] at hR4 hT4 hz4 ⊢
  obtain ⟨w5, hw5⟩ : ∃ w5, w2.drew = w5 := ⟨_, rfl⟩
  rw [hw5] at hB4 hR4 hT4 hz4 h4
  have c0 : ∀ w', Below w5.heap.size w5 w' → w'.cell? ⟨X, 0, none⟩ = some (.int .i64 c) := fun w' hw' => (hqc w' X (range_below hR4 hw' (by omega))).1
  refine hs_begin (S := (Below w5.heap.size w5)) 15 rfl (by kernel_rfl) ?_
  rw [hw5]
  clear hw5
  have hS : (Below w5.heap.size w5) w5 := Below.refl _ _
  refine hs_t 0 8 (?_) rfl (by kernel_rfl) (by kernel_rfl) (by kernel_rfl) (by rfl) ?_ hS rfl ?_
  rotate_left
  · intro w' hw
    go_simp
    try with_reducible rfl
  simp only [nz]
  refine hs_t 1 9 (.bool true) rfl (by kernel_rfl) (by kernel_rfl) (by kernel_rfl) (by rfl) (fun w' hw => by go_simp) hS rfl ?_
  simp only [nz]
  refine hs_t 2 10 (?_) rfl (by kernel_rfl) (by kernel_rfl) (by kernel_rfl) (by rfl) ?_ hS rfl ?_
  rotate_left
  · intro w' hw
    go_simp
    try with_reducible rfl
  simp only [nz]
  refine hs_skip (i := 3) (d := some 11) rfl (by kernel_rfl) (by kernel_rfl) (by kernel_rfl) (by rfl) hS rfl ?_
  simp only [nz]
  refine hs_skip (i := 4) (d := some 12) rfl (by kernel_rfl) (by kernel_rfl) (by kernel_rfl) (by rfl) hS rfl ?_
  simp only [nz]
  refine hs_t 5 13 (?_) rfl (by kernel_rfl) (by kernel_rfl) (by kernel_rfl) (by rfl) ?_ hS rfl ?_
  rotate_left
  · intro w' hw
    go_simp
    try with_reducible rfl
  simp only [nz]
  refine hs_t 6 14 (?_) rfl (by kernel_rfl) (by kernel_rfl) (by kernel_rfl) (by rfl) ?_ hS rfl ?_
  rotate_left
  · intro w' hw
    go_simp
    try with_reducible rfl
  simp only [nz]
  refine hs_skip (i := 7) (d := some 15) rfl (by kernel_rfl) (by kernel_rfl) (by kernel_rfl) (by rfl) hS rfl ?_
  simp only [nz]
  refine hs_skip (i := 8) (d := some 16) rfl (by kernel_rfl) (by kernel_rfl) (by kernel_rfl) (by rfl) hS rfl ?_
  simp only [nz]
  refine hs_skip (i := 9) (d := some 17) rfl (by kernel_rfl) (by kernel_rfl) (by kernel_rfl) (by rfl) hS rfl ?_
  simp only [nz]
  refine hs_skip (i := 10) (d := some 18) rfl (by kernel_rfl) (by kernel_rfl) (by kernel_rfl) (by rfl) hS rfl ?_
  simp only [nz]
  refine hs_skip (i := 11) (d := some 19) rfl (by kernel_rfl) (by kernel_rfl) (by kernel_rfl) (by rfl) hS rfl ?_
  simp only [nz]
  refine hs_skip (i := 12) (d := some 20) rfl (by kernel_rfl) (by kernel_rfl) (by kernel_rfl) (by rfl) hS rfl ?_
  simp only [nz]
  refine hs_skip (i := 13) (d := some 21) rfl (by kernel_rfl) (by kernel_rfl) (by kernel_rfl) (by rfl) hS rfl ?_
  simp only [nz]
  refine hs_t 14 22 (?_) rfl (by kernel_rfl) (by kernel_rfl) (by kernel_rfl) (by rfl) ?_ hS rfl ?_
  rotate_left
  · intro w' hw
    go_simp
    try with_reducible rfl
  simp only [nz]
  refine hs_done (by kernel_rfl) ?_
  clear c0 hR4 h4 hqc
  have hrs := run_loadVar_mid (P := Tryz.prog) (w5.setCells (X + 1) 0 zs) (X + 1) 0 23 zs _ (World.rangeAt_setCells_same w5 (X + 1) 0 zs (by have := hT4; simpa using this)) Tryz.underlying23 rfl hi'
  have hBl : Below w.heap.size w (w5.setCells (X + 1) 0 zs) := below_sets (by rw [hX.out]; omega) _ 0 w5 hB4
  go_wp2_with (refine wpList_store_mid rfl 23 _ _ rfl _ _ zs.toArray rfl rfl hT4 hi ho ?_)
  exact bodyPost_ret (v := .tuple #[.agg zs.toArray, .int .i64 2]) (by simp [results, Tryz.results62, asAddr, hrs]) rfl ⟨rfl, hBl⟩
set_option maxRecDepth 100000 in
set_option maxHeartbeats 2000000 in
theorem tag_noB (p : Option Addr) (ds : List (List Int)) (N c n : Int) (s : ByteArray) (t : List Int) (w : World) (h : KeysAt w p ds) (hN : ¬ N < 0) (hN2 : 64 < N) :
   Calls Tryz.prog 62 #[.pointer p, .int .i64 N, .agg (reqL c n s t).toArray] w fun e w' => e = .returned (.tuple #[.agg (v8 zeros16).toArray, .int .i64 2]) ∧ Below w.heap.size w w' := by
  obtain ⟨zs, hzs⟩ : ∃ zs, Hid (v8 zeros16 = zs) := ⟨_, hide rfl⟩
  have hqc := fun w' b => @reqL_0 w' b c n s t
  obtain ⟨q, hq⟩ : ∃ q, Hid (reqL c n s t = q) := ⟨_, hide rfl⟩
  obtain ⟨hB, hR, hT, hz⟩ := two_made w q zs
  have hlit := lit16
  have hi : (Tryz.prog.info? 23).map (·.size) = some (v8 zeros16).toArray.size := info16 zeros16 rfl
  have ho := all_oneCell_toArray (v8_one zeros16)
  have hl : (v8 zeros16).length = 16 := rfl
  have hi' : (Tryz.prog.info? 23).map (·.size) = some (v8 zeros16).length := by rw [hl]; exact iszT
  rw [hzs.out] at hlit hi ho hl hi'
  have HL : Hid (zs.length = 16) := hl
  clear hl
  rw [hzs.out]
  simp only [hq.out] at hqc
  rw [hq.out]
  go_enter Tryz.func62, Tryz.ntmps62
  go_wp2_with fail
  go_name_world w2 hw2
  rw [hw2] at hB hR hT hz
  clear hw2
  have hB4 := hB.drew
  have hR4 : w2.drew.rangeAt w.heap.size 0 q := (World.rangeAt_drew _ _ _ _).2 hR
  have hT4 : w2.drew.there (w.heap.size + 1) 0 zs.toArray.size := (World.there_drew _ _ _ _).2 hT
  have hz4 : w.heap.size + 1 < w2.drew.heap.size := hz
  have h4 := h.below hB4
  clear hB hR hT hz h
  obtain ⟨X, hX⟩ : ∃ X, Hid (w.heap.size = X) := ⟨_, hide rfl⟩
  rw [hX.out] at hR4 hT4 hz4 ⊢
  obtain ⟨w5, hw5⟩ : ∃ w5, w2.drew = w5 := ⟨_, rfl⟩
  rw [hw5] at hB4 hR4 hT4 hz4 h4
  have c0 : ∀ w', Below w5.heap.size w5 w' → w'.cell? ⟨X, 0, none⟩ = some (.int .i64 c) := fun w' hw' => (hqc w' X (range_below hR4 hw' (by omega))).1
  refine hs_begin (S := (Below w5.heap.size w5)) 15 rfl (by kernel_rfl) ?_
  rw [hw5]
  clear hw5
  have hS : (Below w5.heap.size w5) w5 := Below.refl _ _
  refine hs_t 0 8 (?_) rfl (by kernel_rfl) (by kernel_rfl) (by kernel_rfl) (by rfl) ?_ hS rfl ?_
  rotate_left
  · intro w' hw
    go_simp
    try with_reducible rfl
  simp only [nz]
  refine hs_t 1 9 (.bool false) rfl (by kernel_rfl) (by kernel_rfl) (by kernel_rfl) (by rfl) (fun w' hw => by go_simp) hS rfl ?_
  simp only [nz]
  refine hs_t 2 10 (?_) rfl (by kernel_rfl) (by kernel_rfl) (by kernel_rfl) (by rfl) ?_ hS rfl ?_
  rotate_left
  · intro w' hw
    go_simp
    try with_reducible rfl
  simp only [nz]
  refine hs_t 3 11 (?_) rfl (by kernel_rfl) (by kernel_rfl) (by kernel_rfl) (by rfl) ?_ hS rfl ?_
  rotate_left
  · intro w' hw
    go_simp
    try with_reducible rfl
  simp only [nz]
  refine hs_t 4 12 (.bool true) rfl (by kernel_rfl) (by kernel_rfl) (by kernel_rfl) (by rfl) (fun w' hw => by go_simp) hS rfl ?_
  simp only [nz]
  refine hs_t 5 13 (?_) rfl (by kernel_rfl) (by kernel_rfl) (by kernel_rfl) (by rfl) ?_ hS rfl ?_
  rotate_left
  · intro w' hw
    go_simp
    try with_reducible rfl
  simp only [nz]
  refine hs_t 6 14 (?_) rfl (by kernel_rfl) (by kernel_rfl) (by kernel_rfl) (by rfl) ?_ hS rfl ?_
  rotate_left
  · intro w' hw
    go_simp
    try with_reducible rfl
  simp only [nz]
  refine hs_skip (i := 7) (d := some 15) rfl (by kernel_rfl) (by kernel_rfl) (by kernel_rfl) (by rfl) hS rfl ?_
  simp only [nz]
  refine hs_skip (i := 8) (d := some 16) rfl (by kernel_rfl) (by kernel_rfl) (by kernel_rfl) (by rfl) hS rfl ?_
  simp only [nz]
  refine hs_skip (i := 9) (d := some 17) rfl (by kernel_rfl) (by kernel_rfl) (by kernel_rfl) (by rfl) hS rfl ?_
  simp only [nz]
  refine hs_skip (i := 10) (d := some 18) rfl (by kernel_rfl) (by kernel_rfl) (by kernel_rfl) (by rfl) hS rfl ?_
  simp only [nz]
  refine hs_skip (i := 11) (d := some 19) rfl (by kernel_rfl) (by kernel_rfl) (by kernel_rfl) (by rfl) hS rfl ?_
  simp only [nz]
  refine hs_skip (i := 12) (d := some 20) rfl (by kernel_rfl) (by kernel_rfl) (by kernel_rfl) (by rfl) hS rfl ?_
  simp only [nz]
  refine hs_skip (i := 13) (d := some 21) rfl (by kernel_rfl) (by kernel_rfl) (by kernel_rfl) (by rfl) hS rfl ?_
  simp only [nz]
  refine hs_t 14 22 (?_) rfl (by kernel_rfl) (by kernel_rfl) (by kernel_rfl) (by rfl) ?_ hS rfl ?_
  rotate_left
  · intro w' hw
    go_simp
    try with_reducible rfl
  simp only [nz]
  refine hs_done (by kernel_rfl) ?_
  clear c0 hR4 h4 hqc
  have hrs := run_loadVar_mid (P := Tryz.prog) (w5.setCells (X + 1) 0 zs) (X + 1) 0 23 zs _ (World.rangeAt_setCells_same w5 (X + 1) 0 zs (by have := hT4; simpa using this)) Tryz.underlying23 rfl hi'
  have hBl : Below w.heap.size w (w5.setCells (X + 1) 0 zs) := below_sets (by rw [hX.out]; omega) _ 0 w5 hB4
  go_wp2_with (refine wpList_store_mid rfl 23 _ _ rfl _ _ zs.toArray rfl rfl hT4 hi ho ?_)
  exact bodyPost_ret (v := .tuple #[.agg zs.toArray, .int .i64 2]) (by simp [results, Tryz.results62, asAddr, hrs]) rfl ⟨rfl, hBl⟩
set_option maxRecDepth 100000 in
set_option maxHeartbeats 2000000 in
theorem tag_noC (p : Option Addr) (ds : List (List Int)) (N c n : Int) (s : ByteArray) (t : List Int) (w : World) (h : KeysAt w p ds) (hN : ¬ N < 0) (hN2 : ¬ 64 < N) (hc : (ds.length : Int) - N ≤ c) :
   Calls Tryz.prog 62 #[.pointer p, .int .i64 N, .agg (reqL c n s t).toArray] w fun e w' => e = .returned (.tuple #[.agg (v8 zeros16).toArray, .int .i64 2]) ∧ Below w.heap.size w w' := by
  obtain ⟨zs, hzs⟩ : ∃ zs, Hid (v8 zeros16 = zs) := ⟨_, hide rfl⟩
  have hqc := fun w' b => @reqL_0 w' b c n s t
  obtain ⟨q, hq⟩ : ∃ q, Hid (reqL c n s t = q) := ⟨_, hide rfl⟩
  obtain ⟨hB, hR, hT, hz⟩ := two_made w q zs
  have hlit := lit16
  have hi : (Tryz.prog.info? 23).map (·.size) = some (v8 zeros16).toArray.size := info16 zeros16 rfl
  have ho := all_oneCell_toArray (v8_one zeros16)
  have hl : (v8 zeros16).length = 16 := rfl
  have hi' : (Tryz.prog.info? 23).map (·.size) = some (v8 zeros16).length := by rw [hl]; exact iszT
  rw [hzs.out] at hlit hi ho hl hi'
  have HL : Hid (zs.length = 16) := hl
  clear hl
  have hdl := h.len
  have hw64 : IntKind.i64.wrap ((ds.length : Int) - N) = (ds.length : Int) - N := by rw [IntKind.wrap_i64]; omega
  rw [hzs.out]
  simp only [hq.out] at hqc
  rw [hq.out]
  go_enter Tryz.func62, Tryz.ntmps62
  go_wp2_with fail
  go_name_world w2 hw2
  rw [hw2] at hB hR hT hz
  clear hw2
  have hB4 := hB.drew
  have hR4 : w2.drew.rangeAt w.heap.size 0 q := (World.rangeAt_drew _ _ _ _).2 hR
  have hT4 : w2.drew.there (w.heap.size + 1) 0 zs.toArray.size := (World.there_drew _ _ _ _).2 hT
  have hz4 : w.heap.size + 1 < w2.drew.heap.size := hz
  have h4 := h.below hB4
  clear hB hR hT hz h
  obtain ⟨X, hX⟩ : ∃ X, Hid (w.heap.size = X) := ⟨_, hide rfl⟩
  rw [hX.out] at hR4 hT4 hz4 ⊢
  obtain ⟨w5, hw5⟩ : ∃ w5, w2.drew = w5 := ⟨_, rfl⟩
  rw [hw5] at hB4 hR4 hT4 hz4 h4
  have c0 : ∀ w', Below w5.heap.size w5 w' → w'.cell? ⟨X, 0, none⟩ = some (.int .i64 c) := fun w' hw' => (hqc w' X (range_below hR4 hw' (by omega))).1
  refine hs_begin (S := (Below w5.heap.size w5)) 15 rfl (by kernel_rfl) ?_
  rw [hw5]
  clear hw5
  have hS : (Below w5.heap.size w5) w5 := Below.refl _ _
  refine hs_t 0 8 (?_) rfl (by kernel_rfl) (by kernel_rfl) (by kernel_rfl) (by rfl) ?_ hS rfl ?_
  rotate_left
  · intro w' hw
    go_simp
    try with_reducible rfl
  simp only [nz]
  refine hs_t 1 9 (.bool false) rfl (by kernel_rfl) (by kernel_rfl) (by kernel_rfl) (by rfl) (fun w' hw => by go_simp) hS rfl ?_
  simp only [nz]
  refine hs_t 2 10 (?_) rfl (by kernel_rfl) (by kernel_rfl) (by kernel_rfl) (by rfl) ?_ hS rfl ?_
  rotate_left
  · intro w' hw
    go_simp
    try with_reducible rfl
  simp only [nz]
  refine hs_t 3 11 (?_) rfl (by kernel_rfl) (by kernel_rfl) (by kernel_rfl) (by rfl) ?_ hS rfl ?_
  rotate_left
  · intro w' hw
    go_simp
    try with_reducible rfl
  simp only [nz]
  refine hs_t 4 12 (.bool false) rfl (by kernel_rfl) (by kernel_rfl) (by kernel_rfl) (by rfl) (fun w' hw => by go_simp) hS rfl ?_
  simp only [nz]
  refine hs_t 5 13 (?_) rfl (by kernel_rfl) (by kernel_rfl) (by kernel_rfl) (by rfl) ?_ hS rfl ?_
  rotate_left
  · intro w' hw
    go_simp
    try with_reducible rfl
  simp only [nz]
  refine hs_t 6 14 (?_) rfl (by kernel_rfl) (by kernel_rfl) (by kernel_rfl) (by rfl) ?_ hS rfl ?_
  rotate_left
  · intro w' hw
    go_simp
    try with_reducible rfl
  simp only [nz]
  refine hs_t 7 15 (?_) rfl (by kernel_rfl) (by kernel_rfl) (by kernel_rfl) (by rfl) ?_ hS rfl ?_
  rotate_left
  · intro w' hw
    go_simp
    try with_reducible rfl
  simp only [nz]
  refine hs_t 8 16 (?_) rfl (by kernel_rfl) (by kernel_rfl) (by kernel_rfl) (by rfl) ?_ hS rfl ?_
  rotate_left
  · intro w' hw
    have hc := c0 w' hw
    go_simp
    try with_reducible rfl
  simp only [nz]
  refine hs_t 9 17 (?_) rfl (by kernel_rfl) (by kernel_rfl) (by kernel_rfl) (by rfl) ?_ hS rfl ?_
  rotate_left
  · intro w' hw
    go_simp
    try with_reducible rfl
  simp only [nz]
  refine hs_t 11 19 (?_) rfl (by kernel_rfl) (by kernel_rfl) (by kernel_rfl) (by rfl) ?_ hS rfl ?_
  rotate_left
  · intro w' hw
    go_simp
    try with_reducible rfl
  simp only [nz]
  have ck := klen_any p ds w5 h4
  refine hs_call (i := 10) (d := some 18) rfl (by kernel_rfl) (by rfl) (by go_simp; first | done | exact ⟨rfl, rfl⟩ | with_reducible rfl) rfl ?_
  refine (ck).mono ?_
  rintro e' w9 ⟨rfl, hx9⟩
  have hS : (Below w5.heap.size w5) w9 := by rw [hx9]; exact hS
  refine ⟨_, rfl, hS, ?_⟩
  simp only [nz]
  obtain rfl := hx9.symm
  clear ck hx9
  refine hs_t 12 20 (.int .i64 ((ds.length : Int) - N)) rfl (by kernel_rfl) (by kernel_rfl) (by kernel_rfl) (by rfl) (fun w' hw => by go_simp) hS rfl ?_
  simp only [nz]
  refine hs_t 13 21 (.bool true) rfl (by kernel_rfl) (by kernel_rfl) (by kernel_rfl) (by rfl) (fun w' hw => by go_simp) hS rfl ?_
  simp only [nz]
  refine hs_t 14 22 (?_) rfl (by kernel_rfl) (by kernel_rfl) (by kernel_rfl) (by rfl) ?_ hS rfl ?_
  rotate_left
  · intro w' hw
    go_simp
    try with_reducible rfl
  simp only [nz]
  refine hs_done (by kernel_rfl) ?_
  clear c0 hR4 h4 hqc
  have hrs := run_loadVar_mid (P := Tryz.prog) (w5.setCells (X + 1) 0 zs) (X + 1) 0 23 zs _ (World.rangeAt_setCells_same w5 (X + 1) 0 zs (by have := hT4; simpa using this)) Tryz.underlying23 rfl hi'
  have hBl : Below w.heap.size w (w5.setCells (X + 1) 0 zs) := below_sets (by rw [hX.out]; omega) _ 0 w5 hB4
  go_wp2_with (refine wpList_store_mid rfl 23 _ _ rfl _ _ zs.toArray rfl rfl hT4 hi ho ?_)
  exact bodyPost_ret (v := .tuple #[.agg zs.toArray, .int .i64 2]) (by simp [results, Tryz.results62, asAddr, hrs]) rfl ⟨rfl, hBl⟩
set_option maxRecDepth 100000 in
set_option maxHeartbeats 2000000 in
theorem tag_yes (p : Option Addr) (ds : List (List Int)) (N c n : Int) (s : ByteArray) (t : List Int) (w : World) (h : KeysAt w p ds) (hG : Glob w) (ht : t.length = 16) (hN : ¬ N < 0) (hN2 : ¬ 64 < N) (hc : ¬ (ds.length : Int) - N ≤ c) (hc0 : -1000000 ≤ c) (hn : n ≤ 9223372036854775807) (hs : s.size ≤ 100000) (hbsz : (strOf (bodyL c n s)).size ≤ 100000) :
   Calls Tryz.prog 62 #[.pointer p, .int .i64 N, .agg (reqL c n s t).toArray] w fun e w' => e = .returned (.tuple #[.agg (v8 (signOf ds (N + c) (strOf (bodyL c n s))).1).toArray, .int .i64 (signOf ds (N + c) (strOf (bodyL c n s))).2]) ∧ Below w.heap.size w w' := by
  obtain ⟨zs, hzs⟩ : ∃ zs, Hid (v8 zeros16 = zs) := ⟨_, hide rfl⟩
  have hqc := fun w' b => @reqL_0 w' b c n s t
  obtain ⟨q, hq⟩ : ∃ q, Hid (reqL c n s t = q) := ⟨_, hide rfl⟩
  obtain ⟨hB, hR, hT, hz⟩ := two_made w q zs
  have hlit := lit16
  have hi : (Tryz.prog.info? 23).map (·.size) = some (v8 zeros16).toArray.size := info16 zeros16 rfl
  have ho := all_oneCell_toArray (v8_one zeros16)
  have hl : (v8 zeros16).length = 16 := rfl
  have hi' : (Tryz.prog.info? 23).map (·.size) = some (v8 zeros16).length := by rw [hl]; exact iszT
  rw [hzs.out] at hlit hi ho hl hi'
  have HL : Hid (zs.length = 16) := hl
  clear hl
  have hdl := h.len
  have hw64 : IntKind.i64.wrap ((ds.length : Int) - N) = (ds.length : Int) - N := by rw [IntKind.wrap_i64]; omega
  have hw65 : IntKind.i64.wrap (N + c) = N + c := by rw [IntKind.wrap_i64]; omega
  have hiq : (Tryz.prog.info? 81).map (·.size) = some (reqL c n s t).length := by rw [reqL_length c n s t ht]; exact iszR
  rw [hq.out] at hiq
  have cb := fun w0 => body_any c n s t w0 ht (by omega) hn hs
  simp only [hq.out] at cb
  have hbs := hbsz
  obtain ⟨bd, hbd⟩ : ∃ bd, Hid (strOf (bodyL c n s) = bd) := ⟨_, hide rfl⟩
  simp only [hbd.out] at cb
  rw [hbd.out] at hbs
  rw [hbd.out]
  have cs := fun w0 hG0 h0 => ksign_any p ds (N + c) bd w0 hG0 h0 (.inr hbs)
  have hrl0 := signOf_length ds (N + c) bd
  obtain ⟨er, her⟩ : ∃ er, Hid ((signOf ds (N + c) bd).2 = er) := ⟨_, hide rfl⟩
  obtain ⟨r0, hr0⟩ : ∃ r0, Hid ((signOf ds (N + c) bd).1 = r0) := ⟨_, hide rfl⟩
  simp only [her.out, hr0.out] at cs
  rw [hr0.out] at hrl0
  rw [her.out, hr0.out]
  have hir := info16 r0 hrl0
  have hor := all_oneCell_toArray (v8_one r0)
  have hir' : (Tryz.prog.info? 23).map (·.size) = some (v8 r0).length := by rw [v8_length, hrl0]; exact iszT
  have hrl : Hid ((v8 r0).length = 16) := by show _ = _; rw [v8_length, hrl0]
  obtain ⟨r, hr⟩ : ∃ r, Hid (v8 r0 = r) := ⟨_, hide rfl⟩
  simp only [hr.out] at cs
  rw [hr.out] at hir hor hir' hrl
  rw [hr.out]
  clear hrl0 hbsz hbs
  simp only [hq.out] at hqc
  rw [hq.out]
  go_enter Tryz.func62, Tryz.ntmps62
  go_wp2_with fail
  go_name_world w2 hw2
  rw [hw2] at hB hR hT hz
  clear hw2
  have hB4 := hB.drew
  have hR4 : w2.drew.rangeAt w.heap.size 0 q := (World.rangeAt_drew _ _ _ _).2 hR
  have hT4 : w2.drew.there (w.heap.size + 1) 0 zs.toArray.size := (World.there_drew _ _ _ _).2 hT
  have hz4 : w.heap.size + 1 < w2.drew.heap.size := hz
  have h4 := h.below hB4
  clear hB hR hT hz h
  obtain ⟨X, hX⟩ : ∃ X, Hid (w.heap.size = X) := ⟨_, hide rfl⟩
  rw [hX.out] at hR4 hT4 hz4 ⊢
  obtain ⟨w5, hw5⟩ : ∃ w5, w2.drew = w5 := ⟨_, rfl⟩
  rw [hw5] at hB4 hR4 hT4 hz4 h4
  have c0 : ∀ w', Below w5.heap.size w5 w' → w'.cell? ⟨X, 0, none⟩ = some (.int .i64 c) := fun w' hw' => (hqc w' X (range_below hR4 hw' (by omega))).1
  refine hs_begin (S := (Below w5.heap.size w5)) 15 rfl (by kernel_rfl) ?_
  rw [hw5]
  clear hw5
  have hS : (Below w5.heap.size w5) w5 := Below.refl _ _
  refine hs_t 0 8 (?_) rfl (by kernel_rfl) (by kernel_rfl) (by kernel_rfl) (by rfl) ?_ hS rfl ?_
  rotate_left
  · intro w' hw
    go_simp
    try with_reducible rfl
  simp only [nz]
  refine hs_t 1 9 (.bool false) rfl (by kernel_rfl) (by kernel_rfl) (by kernel_rfl) (by rfl) (fun w' hw => by go_simp) hS rfl ?_
  simp only [nz]
  refine hs_t 2 10 (?_) rfl (by kernel_rfl) (by kernel_rfl) (by kernel_rfl) (by rfl) ?_ hS rfl ?_
  rotate_left
  · intro w' hw
    go_simp
    try with_reducible rfl
  simp only [nz]
  refine hs_t 3 11 (?_) rfl (by kernel_rfl) (by kernel_rfl) (by kernel_rfl) (by rfl) ?_ hS rfl ?_
  rotate_left
  · intro w' hw
    go_simp
    try with_reducible rfl
  simp only [nz]
  refine hs_t 4 12 (.bool false) rfl (by kernel_rfl) (by kernel_rfl) (by kernel_rfl) (by rfl) (fun w' hw => by go_simp) hS rfl ?_
  simp only [nz]
  refine hs_t 5 13 (?_) rfl (by kernel_rfl) (by kernel_rfl) (by kernel_rfl) (by rfl) ?_ hS rfl ?_
  rotate_left
  · intro w' hw
    go_simp
    try with_reducible rfl
  simp only [nz]
  refine hs_t 6 14 (?_) rfl (by kernel_rfl) (by kernel_rfl) (by kernel_rfl) (by rfl) ?_ hS rfl ?_
  rotate_left
  · intro w' hw
    go_simp
    try with_reducible rfl
  simp only [nz]
  refine hs_t 7 15 (?_) rfl (by kernel_rfl) (by kernel_rfl) (by kernel_rfl) (by rfl) ?_ hS rfl ?_
  rotate_left
  · intro w' hw
    go_simp
    try with_reducible rfl
  simp only [nz]
  refine hs_t 8 16 (?_) rfl (by kernel_rfl) (by kernel_rfl) (by kernel_rfl) (by rfl) ?_ hS rfl ?_
  rotate_left
  · intro w' hw
    have hc := c0 w' hw
    go_simp
    try with_reducible rfl
  simp only [nz]
  refine hs_t 9 17 (?_) rfl (by kernel_rfl) (by kernel_rfl) (by kernel_rfl) (by rfl) ?_ hS rfl ?_
  rotate_left
  · intro w' hw
    go_simp
    try with_reducible rfl
  simp only [nz]
  refine hs_t 11 19 (?_) rfl (by kernel_rfl) (by kernel_rfl) (by kernel_rfl) (by rfl) ?_ hS rfl ?_
  rotate_left
  · intro w' hw
    go_simp
    try with_reducible rfl
  simp only [nz]
  have ck := klen_any p ds w5 h4
  refine hs_call (i := 10) (d := some 18) rfl (by kernel_rfl) (by rfl) (by go_simp; first | done | exact ⟨rfl, rfl⟩ | with_reducible rfl) rfl ?_
  refine (ck).mono ?_
  rintro e' w9 ⟨rfl, hx9⟩
  have hS : (Below w5.heap.size w5) w9 := by rw [hx9]; exact hS
  refine ⟨_, rfl, hS, ?_⟩
  simp only [nz]
  obtain rfl := hx9.symm
  clear ck hx9
  refine hs_t 12 20 (.int .i64 ((ds.length : Int) - N)) rfl (by kernel_rfl) (by kernel_rfl) (by kernel_rfl) (by rfl) (fun w' hw => by go_simp) hS rfl ?_
  simp only [nz]
  refine hs_t 13 21 (.bool false) rfl (by kernel_rfl) (by kernel_rfl) (by kernel_rfl) (by rfl) (fun w' hw => by go_simp) hS rfl ?_
  simp only [nz]
  refine hs_t 14 22 (?_) rfl (by kernel_rfl) (by kernel_rfl) (by kernel_rfl) (by rfl) ?_ hS rfl ?_
  rotate_left
  · intro w' hw
    go_simp
    try with_reducible rfl
  simp only [nz]
  refine hs_done (by kernel_rfl) ?_
  clear c0
  have hB6 := hB4.drew
  have hR6 : w5.drew.rangeAt X 0 q := (World.rangeAt_drew _ _ _ _).2 hR4
  have hT6 : w5.drew.there (X + 1) 0 zs.toArray.size := (World.there_drew _ _ _ _).2 hT4
  have hz6 : X + 1 < w5.drew.heap.size := hz4
  have h6 := h4.below (Below.refl w5.heap.size w5).drew
  clear hB4 hR4 hT4 hz4 h4
  go_wp2_with fail
  obtain ⟨w6, hw6⟩ : ∃ w6, w5.drew = w6 := ⟨_, rfl⟩
  rw [hw6] at hB6 hR6 hT6 hz6 h6
  refine hs_begin (S := (fun W : World => W.rangeAt X 0 q ∧ Below w.heap.size w W)) 12 rfl (by kernel_rfl) ?_
  rw [hw6]
  clear hw6
  have hS : (fun W : World => W.rangeAt X 0 q ∧ Below w.heap.size w W) w6 := ⟨hR6, hB6⟩
  refine hs_t 0 24 (?_) rfl (by kernel_rfl) (by kernel_rfl) (by kernel_rfl) (by rfl) ?_ hS rfl ?_
  rotate_left
  · intro w' hw
    go_simp
    try with_reducible rfl
  simp only [nz]
  refine hs_t 1 25 (?_) rfl (by kernel_rfl) (by kernel_rfl) (by kernel_rfl) (by rfl) ?_ hS rfl ?_
  rotate_left
  · intro w' hw
    go_simp
    try with_reducible rfl
  simp only [nz]
  refine hs_t 2 26 (?_) rfl (by kernel_rfl) (by kernel_rfl) (by kernel_rfl) (by rfl) ?_ hS rfl ?_
  rotate_left
  · intro w' hw
    go_simp
    try with_reducible rfl
  simp only [nz]
  refine hs_t 3 27 (?_) rfl (by kernel_rfl) (by kernel_rfl) (by kernel_rfl) (by rfl) ?_ hS rfl ?_
  rotate_left
  · intro w' hw
    have hc := (hqc w' X hw.1).1
    go_simp
    try with_reducible rfl
  simp only [nz]
  refine hs_t 4 28 (.int .i64 (N + c)) rfl (by kernel_rfl) (by kernel_rfl) (by kernel_rfl) (by rfl) (fun w' hw => by go_simp) hS rfl ?_
  simp only [nz]
  refine hs_t 5 29 (.agg q.toArray) rfl (by kernel_rfl) (by kernel_rfl) (by kernel_rfl) (by rfl) (fun w' hw => exec_load rfl rfl (run_loadVar_mid (P := Tryz.prog) w' X 0 81 q _ hw.1 Tryz.underlying81 rfl hiq)) hS rfl ?_
  simp only [nz]
  have cb6 := cb w6
  refine hs_call (i := 6) (d := some 30) rfl (by kernel_rfl) (by rfl) (by go_simp; first | done | exact ⟨rfl, rfl⟩ | with_reducible rfl) rfl ?_
  refine (cb6).mono ?_
  rintro e' w7 ⟨rfl, hw7⟩
  have hS : (fun W : World => W.rangeAt X 0 q ∧ Below w.heap.size w W) w7 := ⟨range_below hS.1 hw7 (by omega), hS.2.trans (hw7.mono hS.2.size)⟩
  refine ⟨_, rfl, hS, ?_⟩
  simp only [nz]
  have hT7 := there_below hT6 hw7 hz6
  have hz7 := Nat.lt_of_lt_of_le hz6 hw7.size
  have cs7 := cs w7 (hG.below hS.2) (h6.below hw7)
  clear cb6 hw7 hT6 hz6 h6
  refine hs_call (i := 7) (d := some 31) rfl (by kernel_rfl) (by rfl) (by go_simp; first | done | exact ⟨rfl, rfl⟩ | with_reducible rfl) rfl ?_
  refine (cs7).mono ?_
  rintro e' w8 ⟨rfl, hw8⟩
  have hS : (fun W : World => W.rangeAt X 0 q ∧ Below w.heap.size w W) w8 := ⟨range_below hS.1 hw8 (by omega), hS.2.trans (hw8.mono hS.2.size)⟩
  refine ⟨_, rfl, hS, ?_⟩
  simp only [nz]
  have hT8 := there_below hT7 hw8 hz7
  clear cs7 hw8 hT7 hz7
  refine hs_t 8 32 (?_) rfl (by kernel_rfl) (by kernel_rfl) (by kernel_rfl) (by rfl) ?_ hS rfl ?_
  rotate_left
  · intro w' hw
    go_simp
    try with_reducible rfl
  simp only [nz]
  refine hs_t 9 33 (?_) rfl (by kernel_rfl) (by kernel_rfl) (by kernel_rfl) (by rfl) ?_ hS rfl ?_
  rotate_left
  · intro w' hw
    go_simp
    try with_reducible rfl
  simp only [nz]
  have hTr : w8.there (X + 1) 0 r.toArray.size := by
    have e : r.toArray.size = zs.toArray.size := by rw [List.size_toArray, List.size_toArray, hrl.out, HL.out]
    rw [e]; exact hT8
  have hBl : Below w.heap.size w (w8.setCells (X + 1) 0 r) := below_sets (by rw [hX.out]; omega) _ 0 w8 hS.2
  have hrs := run_loadVar_mid (P := Tryz.prog) (w8.setCells (X + 1) 0 r) (X + 1) 0 23 r _ (World.rangeAt_setCells_same w8 (X + 1) 0 r (by have := hTr; simpa using this)) Tryz.underlying23 rfl hir'
  have hst := run_storeVar_mid (P := Tryz.prog) w8 (X + 1) 0 23 r.toArray hTr hir hor
  refine hs_store (i := 10) (w' := (w8.setCells (X + 1) 0 r)) rfl (by kernel_rfl) (by rfl) (exec_store rfl rfl rfl hst) rfl ⟨World.rangeAt_setCells_apart hS.1 (X + 1) 0 r (.inl (by omega)), hBl⟩ ?_
  have hS : (fun W : World => W.rangeAt X 0 q ∧ Below w.heap.size w W) (w8.setCells (X + 1) 0 r) := ⟨World.rangeAt_setCells_apart hS.1 (X + 1) 0 r (.inl (by omega)), hBl⟩
  refine hs_t 11 7 (?_) rfl (by kernel_rfl) (by kernel_rfl) (by kernel_rfl) (by rfl) ?_ hS rfl ?_
  rotate_left
  · intro w' hw
    go_simp
    try with_reducible rfl
  simp only [nz]
  refine hs_done (by kernel_rfl) ?_
  go_wp2_with fail
  exact bodyPost_ret (v := .tuple #[.agg r.toArray, .int .i64 er]) (by simp [results, Tryz.results62, asAddr, hrs]) rfl ⟨rfl, hBl⟩
theorem body_small (c n : Int) (s : ByteArray) (hc : c ≤ 9223372036854775807) (hn : n ≤ 9223372036854775807) (hs : s.size ≤ 90000) : (bodyL c n s).length ≤ 100000 := by
 have h1 := putL_length c (by omega)
 have h2 := putL_length n (by omega)
 have h3 := putL_length s.size (by omega)
 simp only [bodyL, textL, List.length_append, strL_length, List.length_cons, List.length_nil]
 omega
theorem reqL_put {w : World} {b : Nat} {c n : Int} {s : ByteArray} {t u : List Int} (h : w.rangeAt b 0 (reqL c n s t)) (hu : u.length = 16) (hT : w.there b 0 19) : (w.setCells b 3 (v8 u)).rangeAt b 0 (reqL c n s u) := by
 have e : ∀ x, reqL c n s x = [.int .i64 c, .int .i64 n, .string s] ++ v8 x := fun _ => rfl
 rw [e] at h ⊢
 refine range_join (World.rangeAt_setCells_apart (range_left h) b 3 (v8 u) (.inr (.inl (by simp)))) ?_
 exact World.rangeAt_setCells_same w b 3 (v8 u) (there_part hT 3 _ (by rw [v8_length, hu]; omega))
theorem tag_any (p : Option Addr) (ds : List (List Int)) (N c n : Int) (s : ByteArray) (t : List Int) (w : World) (h : KeysAt w p ds) (hG : Glob w) (ht : t.length = 16) (hc0 : 0 ≤ c) (hcm : c ≤ 9223372036854775807) (hn : n ≤ 9223372036854775807) (hs : s.size ≤ 64) :
   Calls Tryz.prog 62 #[.pointer p, .int .i64 N, .agg (reqL c n s t).toArray] w fun e w' => e = .returned (.tuple #[.agg (v8 (tagV ds N c n s).1).toArray, .int .i64 (tagV ds N c n s).2]) ∧ Below w.heap.size w w' := by
  unfold tagV
  by_cases hN : N < 0
  · rw [if_pos (.inl hN)]; exact tag_noA p ds N c n s t w h hN
  · by_cases hN2 : 64 < N
    · rw [if_pos (.inr (.inl hN2))]; exact tag_noB p ds N c n s t w h hN hN2
    · by_cases hc : (ds.length : Int) - N ≤ c
      · rw [if_pos (.inr (.inr hc))]; exact tag_noC p ds N c n s t w h hN hN2 hc
      · rw [if_neg (by omega)]
        exact tag_yes p ds N c n s t w h hG ht hN hN2 hc (by omega) hn (by omega) (by rw [strOf_size]; exact body_small c n s hcm hn (by omega))
theorem tagV_length (ds : List (List Int)) (N c n : Int) (s : ByteArray) : (tagV ds N c n s).1.length = 16 := by
 unfold tagV; split
 ·rfl
 ·exact signOf_length _ _ _
set_option maxRecDepth 100000 in
set_option maxHeartbeats 2000000 in
theorem make_yes (p : Option Addr) (ds : List (List Int)) (N c n : Int) (s : ByteArray) (w : World) (h : KeysAt w p ds) (hG : Glob w) (hd : 0 < ds.length) (hm : 0 ≤ c ∧ c < 8 ∧ 1 ≤ n ∧ n ≤ 1099511627776 ∧ s.size ≤ 64) (hne : (tagV ds N c n s).2 = 0) :
   Calls Tryz.prog 24 #[.pointer p, .int .i64 N, .int .i64 c, .int .i64 n, .string s] w fun e w' => e = .returned (.tuple #[.agg (reqL c n s (tagV ds N c n s).1).toArray, .int .i64 0]) ∧ Below w.heap.size w w' := by
  have ct := fun w0 h0 hG0 => tag_any p ds N c n s zeros16 w0 h0 hG0 rfl (by omega) (by omega) (by omega) (by omega)
  have hrl0 := tagV_length ds N c n s
  obtain ⟨er, her⟩ : ∃ er, Hid ((tagV ds N c n s).2 = er) := ⟨_, hide rfl⟩
  obtain ⟨r0, hr0⟩ : ∃ r0, Hid ((tagV ds N c n s).1 = r0) := ⟨_, hide rfl⟩
  simp only [her.out, hr0.out] at ct
  rw [hr0.out] at hrl0
  rw [her.out] at hne
  rw [hr0.out]
  subst hne
  have hir := info16 r0 hrl0
  have hor := all_oneCell_toArray (v8_one r0)
  have hir' : (Tryz.prog.info? 23).map (·.size) = some (v8 r0).length := by rw [v8_length, hrl0]; exact iszT
  have hput := fun (w0 : World) (b0 : Nat) h1 h2 => @reqL_put w0 b0 c n s zeros16 r0 h1 hrl0 h2
  have hiR : (Tryz.prog.info? 81).map (·.size) = some (reqL c n s r0).toArray.size := by rw [List.size_toArray, reqL_length c n s r0 hrl0]; exact iszR
  have hoR := all_oneCell_toArray (reqL_one c n s r0)
  have hRl : (reqL c n s r0).toArray.size = 19 := by rw [List.size_toArray, reqL_length c n s r0 hrl0]
  have hrl : Hid ((v8 r0).length = 16) := by show _ = _; rw [v8_length, hrl0]
  obtain ⟨r, hr⟩ : ∃ r, Hid (v8 r0 = r) := ⟨_, hide rfl⟩
  obtain ⟨Q, hQ⟩ : ∃ Q, Hid (reqL c n s r0 = Q) := ⟨_, hide rfl⟩
  simp only [hr.out] at ct
  rw [hr.out] at hir hor hir' hrl
  rw [hQ.out] at hiR hoR hRl
  simp only [hr.out, hQ.out] at hput
  have hRl' := hide hRl
  have hiR' : (Tryz.prog.info? 81).map (·.size) = some Q.length := by simpa using hiR
  clear hrl0 hRl
  rw [hQ.out]
  have hi0 : (Tryz.prog.info? 81).map (·.size) = some (reqL c n s zeros16).toArray.size := by rw [List.size_toArray, reqL_length _ _ _ _ rfl]; exact iszR
  have h1c := all_oneCell_toArray (reqL_one c n s zeros16)
  have hB0 : Below w.heap.size w (w.alloc (.cells #[.int .i64 0, .int .i64 0, .string ⟨#[]⟩, .int .u8 0, .int .u8 0, .int .u8 0, .int .u8 0, .int .u8 0, .int .u8 0, .int .u8 0, .int .u8 0, .int .u8 0, .int .u8 0, .int .u8 0, .int .u8 0, .int .u8 0, .int .u8 0, .int .u8 0, .int .u8 0] 81)) := (Below.refl _ _).alloc (Nat.le_refl _) _
  have ht0 : (w.alloc (.cells #[.int .i64 0, .int .i64 0, .string ⟨#[]⟩, .int .u8 0, .int .u8 0, .int .u8 0, .int .u8 0, .int .u8 0, .int .u8 0, .int .u8 0, .int .u8 0, .int .u8 0, .int .u8 0, .int .u8 0, .int .u8 0, .int .u8 0, .int .u8 0, .int .u8 0, .int .u8 0] 81)).there w.heap.size 0 19 := there_new w #[.int .i64 0, .int .i64 0, .string ⟨#[]⟩, .int .u8 0, .int .u8 0, .int .u8 0, .int .u8 0, .int .u8 0, .int .u8 0, .int .u8 0, .int .u8 0, .int .u8 0, .int .u8 0, .int .u8 0, .int .u8 0, .int .u8 0, .int .u8 0, .int .u8 0, .int .u8 0] 81
  have hz0 : w.heap.size < (w.alloc (.cells #[.int .i64 0, .int .i64 0, .string ⟨#[]⟩, .int .u8 0, .int .u8 0, .int .u8 0, .int .u8 0, .int .u8 0, .int .u8 0, .int .u8 0, .int .u8 0, .int .u8 0, .int .u8 0, .int .u8 0, .int .u8 0, .int .u8 0, .int .u8 0, .int .u8 0, .int .u8 0] 81)).heap.size := by simp
  go_enter Tryz.func24, Tryz.ntmps24
  go_upto_region 1 with fail
  go_name_world w1 hw1
  rw [show w.alloc (.cells #[.int .i64 0, .int .i64 0, .string ⟨#[]⟩, .int .u8 0, .int .u8 0, .int .u8 0, .int .u8 0, .int .u8 0, .int .u8 0, .int .u8 0, .int .u8 0, .int .u8 0, .int .u8 0, .int .u8 0, .int .u8 0, .int .u8 0, .int .u8 0, .int .u8 0, .int .u8 0] 81) = w1 from hw1] at ht0 hB0 hz0
  clear hw1
  have F := fresh_store w1 #[.int .i64 0, .int .i64 0, .string ⟨#[]⟩, .int .u8 0, .int .u8 0, .int .u8 0, .int .u8 0, .int .u8 0, .int .u8 0, .int .u8 0, .int .u8 0, .int .u8 0, .int .u8 0, .int .u8 0, .int .u8 0, .int .u8 0, .int .u8 0, .int .u8 0, .int .u8 0] 81 (reqL c n s zeros16) (by rw [reqL_length _ _ _ _ rfl]; rfl)
  have hN1 : (w1.alloc (.cells #[.int .i64 0, .int .i64 0, .string ⟨#[]⟩, .int .u8 0, .int .u8 0, .int .u8 0, .int .u8 0, .int .u8 0, .int .u8 0, .int .u8 0, .int .u8 0, .int .u8 0, .int .u8 0, .int .u8 0, .int .u8 0, .int .u8 0, .int .u8 0, .int .u8 0, .int .u8 0] 81)).there w1.heap.size 0 (reqL c n s zeros16).toArray.size := there_new w1 #[.int .i64 0, .int .i64 0, .string ⟨#[]⟩, .int .u8 0, .int .u8 0, .int .u8 0, .int .u8 0, .int .u8 0, .int .u8 0, .int .u8 0, .int .u8 0, .int .u8 0, .int .u8 0, .int .u8 0, .int .u8 0, .int .u8 0, .int .u8 0, .int .u8 0, .int .u8 0] 81
  go_upto_region 2 with (refine wpList_store_mid (op := ⟨none, .store 81 (.tmp 12) (.tmp 18), _, _, _, none⟩) rfl 81 _ _ rfl _ _ (reqL c n s zeros16).toArray rfl rfl hN1 hi0 h1c ?_)
  go_name_world w2 hw2
  rw [show (w1.alloc (.cells #[.int .i64 0, .int .i64 0, .string ⟨#[]⟩, .int .u8 0, .int .u8 0, .int .u8 0, .int .u8 0, .int .u8 0, .int .u8 0, .int .u8 0, .int .u8 0, .int .u8 0, .int .u8 0, .int .u8 0, .int .u8 0, .int .u8 0, .int .u8 0, .int .u8 0, .int .u8 0] 81)).setCells w1.heap.size 0 (reqL c n s zeros16) = w2 from hw2] at F
  clear hw2 hN1 h1c
  obtain ⟨hR2, hF2, hz2, hT2⟩ := F
  have hT2 : w2.there w1.heap.size 0 19 := hT2
  have hB2 := hB0.trans (hF2.mono hB0.size)
  have ht2 := there_below ht0 hF2 hz0
  have hi0' : (Tryz.prog.info? 81).map (·.size) = some (reqL c n s zeros16).length := by rw [reqL_length _ _ _ _ rfl]; exact iszR
  clear hB0 ht0 hF2 hi0
  simp only [Act.put]
  generalize Value.agg #[Value.int IntKind.i64 c, Value.int IntKind.i64 n, Value.string s, Value.int IntKind.u8 0, Value.int IntKind.u8 0, Value.int IntKind.u8 0, Value.int IntKind.u8 0, Value.int IntKind.u8 0, Value.int IntKind.u8 0, Value.int IntKind.u8 0, Value.int IntKind.u8 0, Value.int IntKind.u8 0, Value.int IntKind.u8 0, Value.int IntKind.u8 0, Value.int IntKind.u8 0, Value.int IntKind.u8 0, Value.int IntKind.u8 0, Value.int IntKind.u8 0, Value.int IntKind.u8 0] = v18
  obtain ⟨X, hX⟩ : ∃ X, Hid (w.heap.size = X) := ⟨_, hide rfl⟩
  obtain ⟨Y, hY⟩ : ∃ Y, Hid (w1.heap.size = Y) := ⟨_, hide rfl⟩
  have hXY : X < Y := by rw [← hX.out, ← hY.out]; exact hz0
  have hY2 : Y < w2.heap.size := by rw [hz2, hY.out]; omega
  clear hz0 hz2
  rw [hX.out] at ht2 ⊢
  rw [hY.out] at hR2 hT2 ⊢
  have ck := klen_any p ds w2 (h.below hB2)
  have cm := fun w0 => mayBe_any c n 8 s zeros16 w0
  have hmb : decide (0 ≤ c ∧ c < 8 ∧ 1 ≤ n ∧ n ≤ 1099511627776 ∧ s.size ≤ 64) = true := decide_eq_true hm
  simp only [hmb] at cm
  clear hmb
  obtain ⟨q, hq⟩ : ∃ q, Hid (reqL c n s zeros16 = q) := ⟨_, hide rfl⟩
  rw [hq.out] at hR2 hi0'
  simp only [hq.out] at cm ct
  simp only [hq.out] at hput
  have hd0 : ((ds.length : Int) == 0) = false := by simp; exact List.ne_nil_of_length_pos hd
  have hd1 : ¬ (ds.length : Int) = 0 := by omega
  have HD := hide hd
  clear hd
  go_wp2_with fail
  refine ck.mono ?_
  rintro e w3 ⟨rfl, hx⟩
  obtain rfl := hx.symm
  clear hx ck
  go_upto_region 4 with fail
  try simp only [Act.put]
  refine wp_region_list ?_
  refine wpList_load_mid rfl 81 _ rfl _ _ rfl q _ hR2 Tryz.underlying81 rfl hi0' ?_
  go_wp2_with fail
  refine (cm w2).mono ?_
  rintro e w3 ⟨rfl, hw3⟩
  have hB3 := hB2.trans (hw3.mono hB2.size)
  have hR3 := range_below hR2 hw3 hY2
  have ht3 := there_below ht2 hw3 (by omega)
  have hY3 := Nat.lt_of_lt_of_le hY2 hw3.size
  have hB23 := hw3
  have hY2' := hY2
  clear hB2 hR2 ht2 hY2 cm hw3
  have ct3 := ct w3 (h.below hB3) (hG.below hB3)
  clear ct
  go_upto_region 6 with fail
  try simp only [Act.put]
  refine wp_region_list ?_
  refine wpList_step fun K hK => ?_
  go_simp
  refine hK _ _ ?_
  clear hK K
  refine wpList_step fun K hK => ?_
  go_simp
  refine hK _ _ ?_
  clear hK K
  refine wpList_load_mid rfl 81 _ rfl _ _ rfl q _ hR3 Tryz.underlying81 rfl hi0' ?_
  go_wp2_with fail
  refine ct3.mono ?_
  rintro e w4 ⟨rfl, hw4⟩
  clear ct3
  have hB4 := hB3.trans (hw4.mono hB3.size)
  have hR4 := range_below hR3 hw4 hY3
  have ht4 := there_below ht3 hw4 (by omega)
  have hY4 := Nat.lt_of_lt_of_le hY3 hw4.size
  have hT4 := there_below hT2 (hB23.trans (hw4.mono hB23.size)) hY2'
  clear hB3 hR3 ht3 hY3 hw4 hT2 hB23 hY2'
  have F := fresh_store w4 (Array.replicate 16 (.int .u8 0)) 23 r (by simpa using hrl.out)
  have hN4 : (w4.alloc (.cells (Array.replicate 16 (.int .u8 0)) 23)).there w4.heap.size 0 r.toArray.size := by
    have := there_new w4 (Array.replicate 16 (.int .u8 0)) 23
    have e : r.toArray.size = 16 := by have := hrl.out; simpa using this
    rw [e]; exact this
  go_upto_region 7 with (refine wpList_store_mid (op := ⟨none, .store 23 (.tmp 13) (.tmp 34), _, _, _, none⟩) rfl 23 _ _ rfl _ _ r.toArray rfl rfl hN4 hir hor ?_)
  go_name_world w5 hw5
  rw [show (w4.alloc (.cells (Array.replicate 16 (.int .u8 0)) 23)).setCells w4.heap.size 0 r = w5 from hw5] at F
  clear hw5 hN4
  obtain ⟨hR5t, hF5, hz5, _⟩ := F
  have hB5 := hB4.trans (hF5.mono hB4.size)
  have hR5 := range_below hR4 hF5 hY4
  have ht5 := there_below ht4 hF5 (by omega)
  have hT5 := there_below hT4 hF5 hY4
  obtain ⟨Z, hZ⟩ : ∃ Z, Hid (w4.heap.size = Z) := ⟨_, hide rfl⟩
  rw [hZ.out] at hR5t hY4 hz5 ⊢
  clear hB4 hR4 ht4 hF5 hT4
  try simp only [Act.put]
  have hR6 := hput w5 Y hR5 hT5
  have er16 : r.toArray.size = 16 := by have := hrl.out; simpa using this
  have hT6 : w5.there Y 3 r.toArray.size := by have := there_part hT5 3 16 (by omega); rw [er16]; simpa using this
  clear er16
  have hB6 : Below w.heap.size w (w5.setCells Y 3 r) := below_sets (by rw [hX.out]; omega) _ 3 w5 hB5
  have ht6 : (w5.setCells Y 3 r).there X 0 19 := World.there_setCells ht5 _ _ _
  go_upto_region 9 with fail
  try simp only [Act.put]
  refine wp_region_list ?_
  refine wpList_load_mid rfl 23 _ rfl _ _ rfl r _ hR5t Tryz.underlying23 rfl hir' ?_
  refine wpList_step fun K hK => ?_
  go_simp
  refine hK _ _ ?_
  clear hK K
  refine wpList_store_mid rfl 23 _ _ rfl _ _ r.toArray rfl rfl hT6 hir hor ?_
  obtain ⟨w6, hw6⟩ : ∃ w6, w5.setCells Y 3 r = w6 := ⟨_, rfl⟩
  rw [show w5.setCells Y 3 r.toArray.toList = w6 from hw6]
  rw [hw6] at hR6 hB6 ht6
  clear hw6 hR5t hR5 hT5 ht5 hB5 hT6
  go_upto_region 10 with fail
  try simp only [Act.put]
  refine wp_region_list ?_
  refine wpList_load_mid rfl 81 _ rfl _ _ rfl Q _ hR6 Tryz.underlying81 rfl hiR' ?_
  rw [← hRl'.out] at ht6
  have hrs := run_loadVar_mid (P := Tryz.prog) (w6.setCells X 0 Q) X 0 81 Q _ (World.rangeAt_setCells_same w6 X 0 Q (by have := ht6; simpa using this)) Tryz.underlying81 rfl hiR'
  have hBl : Below w.heap.size w (w6.setCells X 0 Q) := below_sets (by rw [hX.out]; exact Nat.le_refl _) _ 0 w6 hB6
  refine wpList_store_mid rfl 81 _ _ rfl _ _ Q.toArray rfl rfl ht6 hiR hoR ?_
  go_wp2_with fail
  exact bodyPost_ret (v := .tuple #[.agg Q.toArray, .int .i64 0]) (by simp [results, Tryz.results24, asAddr, hrs]) rfl ⟨rfl, hBl⟩
end Go.Proofs.YtcbpbkefggekmaaGreatDoor.Rk
namespace Go.Proofs.YtcbpbkefggekmaaGreatDoor
open Go.RowKit
open Sha Tal
set_option linter.unusedVariables false
set_option linter.unusedSimpArgs false
def batC (N : Int) (rs : List Rq) : List Ev := rs.map fun r => ⟨IntKind.i64.wrap (N + r.c), strOf (Rk.bodyL r.c r.n r.s), r.t⟩
def cerC (v : Vt) (ss : List Sg) : List Ev := ss.map fun s => ⟨s.n, optS v.may (voteL v), s.t⟩
def sgC (ss : List Sg) : List Ev := ss.map fun s => ⟨s.n, ⟨#[]⟩, s.t⟩
def addV (O : Nat) : Value := .func (.func 52) #[] #[.pointer (some ⟨O, 0, none⟩)]
theorem wrapIn (z : Int) : -9223372036854775808 ≤ IntKind.i64.wrap z ∧ IntKind.i64.wrap z ≤ 9223372036854775807 := by rw [IntKind.wrap_i64]; omega
theorem strOf_sizeV (zs : List Int) : (strOf zs).size = zs.length := strOf_size zs
theorem batC_ok {N : Int} {r : Rq} (h : r.ok) (hs : r.s.size ≤ 100000) : Ev.ok ⟨IntKind.i64.wrap (N + r.c), strOf (Rk.bodyL r.c r.n r.s), r.t⟩ :=
 ⟨h.tl, h.tb, by
  have := Rk.bodyL_length r.c r.n r.s h.ch h.nh hs
  show (strOf (Rk.bodyL r.c r.n r.s)).size ≤ maxLen
  rw [strOf_sizeV]
  unfold maxLen
  omega, (wrapIn _).1, (wrapIn _).2⟩
theorem optS_size {v : Vt} (h : v.ok) : (optS v.may (voteL v)).size ≤ 1000 := by
 unfold optS
 split
 ·rw [strOf_sizeV]; exact voteL_len h
 ·decide
theorem cerC_ok {v : Vt} (hv : v.ok) {s : Sg} (h : s.ok) : Ev.ok ⟨s.n, optS v.may (voteL v), s.t⟩ :=
 ⟨h.tl, h.tb, Nat.le_trans (optS_size hv) (by unfold maxLen; decide), h.nl, h.nh⟩
theorem sgC_ok {s : Sg} (h : s.ok) : Ev.ok ⟨s.n, ⟨#[]⟩, s.t⟩ := ⟨h.tl, h.tb, Nat.zero_le _, h.nl, h.nh⟩
theorem take_succ_map {α β : Type} {f : α → β} {xs : List α} {k : Nat} (hk : k < xs.length) : (xs.map f).take (k + 1) = (xs.map f).take k ++ [f xs[k]] := by
 rw [List.take_add_one]
 simp [List.getElem?_eq_getElem hk]
theorem Grow.range {w w' : World} {O b o : Nat} {v v' : Value} {cs : List Value} (g : Grow w w' O v v') (hb : b < w.heap.size) (hc : Clr O v b) (h : w.rangeAt b o cs) : w'.rangeAt b o cs := fun j u hu => by
 rw [(cell_block (g.block b hb hc.1 hc.2)).1]
 exact h j u hu
structure CI (w wr : World) (O : Nat) (v vk : Value) (cs : List Ev) : Prop where
 out : OutC wr O vk cs
 grow : Grow w wr O v vk
theorem CI.later {w wr w' : World} {O : Nat} {v vk : Value} {cs : List Ev} (h : CI w wr O v vk cs) (hb : Below wr.heap.size wr w') : CI w w' O v vk cs := ⟨h.out.below hb, h.grow.trans (Grow.of hb _ _)⟩
theorem CI.add {w wr w' : World} {O : Nat} {v vk v' : Value} {cs ds : List Ev} (h : CI w wr O v vk cs) (ho : OutC w' O v' ds) (hg : Grow wr w' O vk v') : CI w w' O v v' ds := ⟨ho, h.grow.trans hg⟩
theorem clr_new {w wr : World} {O : Nat} {v vk : Value} {cs : List Ev} (h : CI w wr O v vk cs) {b : Nat} (hb : wr.heap.size ≤ b) : Clr O vk b := ⟨by have := h.out.lt; omega, fun e => by have := (h.out.own.lt b e).2; omega⟩
set_option maxRecDepth 100000 in
set_option maxHeartbeats 1000000 in
theorem bclaims_any (N : Int) (q : Bool) (x : Sl Rq) (O : Nat) (v : Value) (cs : List Ev) (w : World) (h : OutC w O v cs) (hx : x.At RqE w) (hc : x.Bk (Clr O v)) (hn : cs.length + x.xs.length ≤ 1000000000) (hb : ∀ r ∈ x.xs, r.s.size ≤ 100000) :
  Calls Tryz.prog 80 #[.int .i64 N, .agg #[.bool q, x.val], addV O] w fun en w' => en = .returned (.tuple #[]) ∧ ∃ v', OutC w' O v' (cs ++ batC N x.xs) ∧ Grow w w' O v v' := by
 obtain ⟨z19, hzl, hzr⟩ : ∃ z : List Value, z.length = 19 ∧ (∀ w : World, (zeroValue 81).run Tryz.prog w = .ok (.agg z.toArray) w) := ⟨[.int .i64 0, .int .i64 0, .string ⟨#[]⟩] ++ v8 (List.replicate 16 0), rfl, fun w => by kernel_rfl⟩
 have ca := fun w0 vk ds e he h0 hl => cadd_any O vk ds e w0 h0 he hl
 obtain ⟨B1, r1, s1⟩ := boxed_new w [.bool q, x.val] 39
 have pr : (w.alloc (.cells [Value.bool q, x.val].toArray 39)).cell? ⟨w.heap.size, 1, none⟩ = some x.val := by have := r1 1 _ rfl; rwa [Nat.zero_add] at this
 have HC0 : CI w (w.alloc (.cells [Value.bool q, x.val].toArray 39)) O v v (cs ++ (batC N x.xs).take 0) := ⟨by rw [List.take_zero, List.append_nil]; exact h.below B1, Grow.of B1 _ _⟩
 have hx1 := hx
 obtain ⟨xa, xc, xs⟩ := x
 obtain ⟨n, hxn⟩ : ∃ n, xs.length = n := ⟨_, rfl⟩
 have hval : (Sl.mk xa xc xs).val = .slice xa n xc := by unfold Sl.val; rw [← hxn]
 rw [hval] at r1 pr HC0 B1 s1 ⊢
 clear hval r1
 have HN := hide hxn
 have HXX : Hid (Sl.At RqE w ⟨xa, xc, xs⟩) := hide hx
 have HCC := hide hc
 have HB : Hid (∀ r ∈ xs, r.s.size ≤ 100000) := hide hb
 have hn : cs.length + xs.length ≤ 1000000000 := hn
 have HNN := hide hn
 clear hx hx1 hc hb hn hxn h
 go_enter Tryz.func80, Tryz.ntmps80
 go_upto_region 1 with fail
 go_name_world W hW
 rw [show w.alloc (.cells #[.bool q, .slice xa n xc] 39) = W from hW] at B1 pr s1 HC0
 clear hW
 have HC1 := hide HC0
 clear HC0
 unfold addV
 go_wp2_with fail
 go_loopw [11] (fun iv wr => ∃ (k : Nat) (vk : Value), k ≤ n ∧ iv = .int .i64 (k : Int) ∧ Hid (CI w wr O v vk (cs ++ (batC N xs).take k))) (fun iv _ => n - (intOf iv).toNat)
 case atStart => exact ⟨0, v, by omega, rfl, HC1⟩
 case round =>
  clear HC1 pr
  obtain ⟨k, vk, hk, rfl, HK⟩ := hrel
  by_cases hlt : k < n
  ·have k1 : (k : Int) < n := by omega
   have hn9 : n ≤ 1000000000 := by have h1 := HNN.out; have h2 := HN.out; omega
   have hkx : k < xs.length := by rw [HN.out]; exact hlt
   obtain ⟨b, off, hab, hbw, hre⟩ := (HXX.out.grow HK.out.grow HCC.out).elem k hkx
   have hab : xa = some ⟨b, off, none⟩ := hab
   have hre : wr.rangeAt b (off + k * 19) (RqE.f xs[k]) := hre
   have okx : Rq.ok xs[k] := HXX.out.2.1 _ (List.getElem_mem hkx)
   have hsz := HB.out _ (List.getElem_mem hkx)
   have HT : Hid ((batC N xs).take (k + 1) = (batC N xs).take k ++ [⟨IntKind.i64.wrap (N + (xs[k]).c), strOf (Rk.bodyL (xs[k]).c (xs[k]).n (xs[k]).s), (xs[k]).t⟩]) := hide (take_succ_map hkx)
   have HL : (cs ++ (batC N xs).take k).length ≤ 1000000000 := by have := HNN.out; simp only [List.length_append, List.length_take]; omega
   obtain ⟨g, hg⟩ : ∃ g, xs[k] = g := ⟨_, rfl⟩
   rw [hg] at hre okx hsz HT
   clear hg
   have hok := batC_ok (N := N) okx hsz
   have ca := fun w0 vk ds h0 hl => ca w0 vk ds _ hok h0 hl
   have cb := fun w0 => Rk.body_any g.c g.n g.s g.t w0 okx.tl okx.ch okx.nh hsz
   have cb : ∀ w0, Calls Tryz.prog 101 #[.agg (RqE.f g).toArray] w0 fun e w' => e = .returned (.string (strOf (Rk.bodyL g.c g.n g.s))) ∧ Below w0.heap.size w0 w' := cb
   have hu0 : (RqE.f g)[0]? = some (.int .i64 g.c) := rfl
   have hut : RqE.f g = .int .i64 g.c :: .int .i64 g.n :: .string g.s :: v8 g.t := rfl
   have it16 : (Tryz.prog.info? 23).map (·.size) = some (v8 g.t).length := by rw [v8_length, okx.tl]; exact iszT
   have tgof : ∀ {w' : World}, w'.rangeAt wr.heap.size 0 (RqE.f g) → w'.rangeAt wr.heap.size 3 (v8 g.t) := fun {w'} hw j u hu => by
    have := hw (j + 3) u (by rw [hut]; exact hu)
    rw [show 0 + (j + 3) = 3 + j by omega] at this
    exact this
   have c0of : ∀ {w' : World}, w'.rangeAt wr.heap.size 0 (RqE.f g) → (RqE.f g)[0]? = some (.int .i64 g.c) → w'.cell? ⟨wr.heap.size, 0, none⟩ = some (.int .i64 g.c) := fun {w'} hw _ => by have := hw 0 _ rfl; rwa [Nat.zero_add] at this
   have iu : (Tryz.prog.info? 81).map (·.size) = some (RqE.f g).length := by rw [RqE.len g okx]; kernel_rfl
   have hul : (RqE.f g).length = 19 := RqE.len g okx
   have hu1 := RqE.one g
   obtain ⟨id, hid⟩ : ∃ i, IntKind.i64.wrap (N + g.c) = i := ⟨_, rfl⟩
   rw [hid] at HT hok
   simp only [hid] at ca
   obtain ⟨bd, hbd⟩ : ∃ i, Hid (strOf (Rk.bodyL g.c g.n g.s) = i) := ⟨_, hide rfl⟩
   rw [hbd.out] at HT hok
   simp only [hbd.out] at ca cb
   obtain ⟨tg, htg⟩ : ∃ t, Hid (g.t = t) := ⟨_, hide rfl⟩
   rw [htg.out] at HT hok it16
   simp only [htg.out] at ca tgof
   clear hut okx hok hsz htg hbd
   generalize RqE.f g = u at *
   rw [hab]
   go_upto_region 3 with fail
   obtain ⟨r5, hF, hF3, -⟩ := fresh_store wr z19.toArray 81 u (by simp [hzl, hul])
   try simp only [Act.put]
   refine pl_begin ?_
   refine pl_t 13 (?_) (by rfl) ?_ rfl ?_
   rotate_left
   ·go_simp
    try with_reducible rfl
   simp only [nz]
   refine pl_t 14 (.agg u.toArray) (by rfl) (ex_mid rfl rfl hre Tryz.underlying81 rfl iu) rfl ?_
   simp only [nz]
   refine pl_run (d := some 7) (v := .pointer (some ⟨wr.heap.size, 0, none⟩)) (w' := wr.alloc (.cells z19.toArray 81)) (by rfl) (ex_alloc rfl (hzr _)) rfl ?_
   simp only [nz]
   refine pl_store (w' := (wr.alloc (.cells z19.toArray 81)).setCells wr.heap.size 0 u) (by rfl) (ex_put (cs := u.toArray) rfl rfl rfl (there_newN _ _ _ (by simp [hzl, hul])) (by simpa using iu) (all_one hu1)) rfl ?_
   refine pl_nil ?_
   have HC := HK.out.later hF
   have HX := clr_new HK.out (Nat.le_refl _)
   clear HK
   obtain ⟨X, hX⟩ : ∃ X, wr.heap.size = X := ⟨_, rfl⟩
   simp only [hX] at r5 HC HX hF3 tgof c0of ⊢
   obtain ⟨w5, hw5⟩ : ∃ W, (wr.alloc (.cells z19.toArray 81)).setCells X 0 u = W := ⟨_, rfl⟩
   rw [hw5] at r5 HC hF3 ⊢
   have sX : X < w5.heap.size := by omega
   clear hw5 hX hF hF3 hre hab
   go_upto_region 4 with fail
   have hdr : Below w5.heap.size w5 w5.drew := (Below.refl _ _).drew
   have r5 := range_below r5 hdr sX
   have HC := HC.later hdr
   have sX := Nat.lt_of_lt_of_le sX hdr.size
   refine hs_begin (S := fun W' : World => W'.rangeAt X 0 u) 10 rfl (by kernel_rfl) ?_
   obtain ⟨w8, hw8⟩ : ∃ W, w5.drew = W := ⟨_, rfl⟩
   rw [hw8] at r5 HC sX ⊢
   clear hdr hw8
   have hS : w8.rangeAt X 0 u := r5
   refine hs_t 0 15 (?_) rfl (by kernel_rfl) (by kernel_rfl) (by kernel_rfl) (by rfl) ?_ hS rfl ?_
   rotate_left
   ·intro w' hw
    go_simp
    try with_reducible rfl
   simp only [nz]
   refine hs_t 1 16 (?_) rfl (by kernel_rfl) (by kernel_rfl) (by kernel_rfl) (by rfl) ?_ hS rfl ?_
   rotate_left
   ·intro w' hw
    go_simp
    try with_reducible rfl
   simp only [nz]
   refine hs_t 2 17 (?_) rfl (by kernel_rfl) (by kernel_rfl) (by kernel_rfl) (by rfl) ?_ hS rfl ?_
   rotate_left
   ·intro w' hw
    go_simp
    try with_reducible rfl
   simp only [nz]
   refine hs_t 3 18 (.int .i64 g.c) rfl (by kernel_rfl) (by kernel_rfl) (by kernel_rfl) (by rfl) (fun w' hw => pl_one rfl rfl (c0of hw hu0) Tryz.underlying3 rfl) hS rfl ?_
   simp only [nz]
   refine hs_t 4 19 (.int .i64 id) rfl (by kernel_rfl) (by kernel_rfl) (by kernel_rfl) (by rfl) (fun w' hw => by go_simp <;> (try simp [hid])) hS rfl ?_
   simp only [nz]
   refine hs_t 5 20 (.agg u.toArray) rfl (by kernel_rfl) (by kernel_rfl) (by kernel_rfl) (by rfl) (fun w' hw => ex_mid rfl rfl hw Tryz.underlying81 rfl iu) hS rfl ?_
   simp only [nz]
   refine hs_t 7 22 (?_) rfl (by kernel_rfl) (by kernel_rfl) (by kernel_rfl) (by rfl) ?_ hS rfl ?_
   rotate_left
   ·intro w' hw
    go_simp
    try with_reducible rfl
   simp only [nz]
   refine hs_t 8 23 (.agg (v8 tg).toArray) rfl (by kernel_rfl) (by kernel_rfl) (by kernel_rfl) (by rfl) (fun w' hw => ex_mid rfl rfl (tgof hw) Tryz.underlying23 rfl it16) hS rfl ?_
   simp only [nz]
   refine hs_call (i := 6) (d := some 21) rfl (by kernel_rfl) (by rfl) (by go_simp; first | done | exact ⟨rfl, rfl⟩ | with_reducible rfl) rfl ?_
   refine (cb w8).mono ?_
   rintro _ wb ⟨rfl, hbb⟩
   have hS : wb.rangeAt X 0 u := range_below hS hbb sX
   have HC := HC.later hbb
   have sX := Nat.lt_of_lt_of_le sX hbb.size
   refine ⟨_, rfl, hS, ?_⟩
   simp only [nz]
   refine hs_call (i := 9) (d := some 24) rfl (by kernel_rfl) (by rfl) (by go_simp; first | done | exact ⟨rfl, rfl⟩ | with_reducible rfl) rfl ?_
   refine (ca wb vk (cs ++ (batC N xs).take k) HC.out HL).mono ?_
   rintro _ wc ⟨rfl, v', ho', hg'⟩
   have hS : wc.rangeAt X 0 u := hg'.range sX HX hS
   refine ⟨_, rfl, hS, ?_⟩
   simp only [nz]
   refine hs_done (by kernel_rfl) ?_
   have HD : Hid (CI w wc O v v' (cs ++ (batC N xs).take (k + 1))) := hide (by
    rw [HT.out, ← List.append_assoc]
    exact HC.add ho' hg')
   clear HC ho' hg' hS HX r5 hbb cb ca tgof c0of HT iu it16 hu0 hu1 hul hzr hzl hid
   go_wp2_with fail
   go_roundw
   case rel => exact ⟨k + 1, v', by omega, by go_num, HD⟩
   case measure => simp [intOf]; omega
  ·obtain rfl : k = n := by omega
   have HE : Hid (OutC wr O vk (cs ++ batC N xs) ∧ Grow w wr O v vk) := hide (by
    have h1 := HK.out.out
    rw [List.take_of_length_le (by unfold batC; rw [List.length_map, HN.out]; exact Nat.le_refl _)] at h1
    exact ⟨h1, HK.out.grow⟩)
   clear HK ca hlt
   go_wp2_with fail
   go_end0
   exact ⟨rfl, vk, HE.out⟩
theorem HdsAt.grow {w w' : World} {O : Nat} {v v' : Value} {x : Sl Hd} (h : HdsAt w x) (k : Grow w w' O v v') (hb : x.Bk (Clr O v)) (hb2 : ∀ y ∈ x.xs, y.Bk (Clr O v)) : HdsAt w' x :=
 ⟨h.1.grow k hb, fun y hy => ⟨(h.2 y hy).1.grow k (hb2 y hy).1, (h.2 y hy).2.grow k (hb2 y hy).2⟩⟩
def hdC (N : Int) (h : Hp) : List Ev := batC N h.rs ++ cerC h.vt h.sg
def heC (N : Int) (hs : List Hp) : List Ev := hs.flatMap (hdC N)
def ownC (N : Int) (m : Mp) : List Ev := batC N m.rs ++ cerC m.ct m.cs ++ heC N m.he ++ sgC m.sg
theorem heC_succ {N : Int} {hs : List Hp} {k : Nat} (hk : k < hs.length) : heC N (hs.take (k + 1)) = heC N (hs.take k) ++ hdC N hs[k] := by
 have e : hs.take (k + 1) = hs.take k ++ [hs[k]] := by rw [List.take_add_one, List.getElem?_eq_getElem hk]; rfl
 unfold heC
 rw [e, List.flatMap_append]
 simp
theorem heC_le (N : Int) (hs : List Hp) (k : Nat) : (heC N (hs.take k)).length ≤ (heC N hs).length := by
 have : heC N hs = heC N (hs.take k) ++ heC N (hs.drop k) := by
  unfold heC
  rw [← List.flatMap_append, List.take_append_drop]
 rw [this, List.length_append]
 omega
theorem batC_len (N : Int) (rs : List Rq) : (batC N rs).length = rs.length := by simp [batC]
theorem cerC_len (v : Vt) (ss : List Sg) : (cerC v ss).length = ss.length := by simp [cerC]
theorem sgC_len (ss : List Sg) : (sgC ss).length = ss.length := by simp [sgC]
theorem zeroSg17 (w : World) : (zeroValue 133).run Tryz.prog w = .ok (.agg ([Value.int .i64 0] ++ v8 (List.replicate 16 0)).toArray) w := zeroSgE w
set_option maxRecDepth 100000 in
set_option maxHeartbeats 1000000 in
theorem cclaims_any (vt : Vt) (x : Sl Sg) (O : Nat) (v : Value) (cs : List Ev) (w : World) (h : OutC w O v cs) (hvt : vt.ok) (hx : x.At SgE w) (hc : x.Bk (Clr O v)) (hn : cs.length + x.xs.length ≤ 1000000000) :
  Calls Tryz.prog 81 #[.agg (certL vt x).toArray, addV O] w fun en w' => en = .returned (.tuple #[]) ∧ ∃ v', OutC w' O v' (cs ++ cerC vt x.xs) ∧ Grow w w' O v v' := by
 obtain ⟨z17, hzl, hzr⟩ : ∃ z : List Value, z.length = 17 ∧ (∀ w : World, (zeroValue 133).run Tryz.prog w = .ok (.agg z.toArray) w) := ⟨_, rfl, zeroSg17⟩
 have ca := fun w0 vk ds e he h0 hl => cadd_any O vk ds e w0 h0 he hl
 have cv := fun w0 => vote13_any vt hvt w0
 have hvl := hvt.len
 obtain ⟨B1, r1, s1⟩ := boxed_new w (certL vt x) 50
 have r1v : (w.alloc (.cells (certL vt x).toArray 50)).rangeAt w.heap.size 0 vt.cells := range_left r1
 have pr : (w.alloc (.cells (certL vt x).toArray 50)).cell? ⟨w.heap.size, 36, none⟩ = some x.val := by
  have := range_right r1 0 _ rfl
  simpa [hvl] using this
 have HC0 : CI w (w.alloc (.cells (certL vt x).toArray 50)) O v v cs := ⟨h.below B1, Grow.of B1 _ _⟩
 have iv : (Tryz.prog.info? 43).map (·.size) = some vt.cells.length := by rw [hvl]; kernel_rfl
 obtain ⟨bv, hbv⟩ : ∃ b, Hid (optS vt.may (voteL vt) = b) := ⟨_, hide rfl⟩
 simp only [hbv.out] at cv
 obtain ⟨xa, xc, xs⟩ := x
 obtain ⟨n, hxn⟩ : ∃ n, xs.length = n := ⟨_, rfl⟩
 have hval : (Sl.mk xa xc xs).val = .slice xa n xc := by unfold Sl.val; rw [← hxn]
 have hn : cs.length + xs.length ≤ 1000000000 := hn
 rw [hval] at pr
 obtain ⟨q, hq⟩ : ∃ q, Hid (certL vt ⟨xa, xc, xs⟩ = q) := ⟨_, hide rfl⟩
 rw [hq.out] at B1 pr s1 HC0 r1v ⊢
 obtain ⟨vc, hvc⟩ : ∃ q, Hid (vt.cells = q) := ⟨_, hide rfl⟩
 rw [hvc.out] at iv r1v
 simp only [hvc.out] at cv
 clear hval r1 hvl hq hvc
 have HN := hide hxn
 have HXX : Hid (Sl.At SgE w ⟨xa, xc, xs⟩) := hide hx
 have HCC := hide hc
 have HNN := hide hn
 have HVT := hide hvt
 clear hx hc hn hxn h hvt
 go_enter Tryz.func81, Tryz.ntmps81
 go_upto_region 1 with fail
 go_name_world W hW
 rw [show w.alloc (.cells q.toArray 50) = W from hW] at B1 pr s1 HC0 r1v
 clear hW
 try simp only [Act.put]
 refine pl_begin ?_
 refine pl_t 7 (?_) (by rfl) ?_ rfl ?_
 rotate_left
 ·go_simp
  try with_reducible rfl
 simp only [nz]
 refine pl_t 8 (.agg vc.toArray) (by rfl) (ex_mid rfl rfl r1v Tryz.underlying43 rfl iv) rfl ?_
 simp only [nz]
 refine pl_call (d := some 9) (by rfl) (by go_simp; first | done | exact ⟨rfl, rfl⟩ | with_reducible rfl) rfl ?_
 refine (cv W).mono ?_
 rintro _ w1 ⟨rfl, hb1⟩
 refine ⟨_, rfl, ?_⟩
 simp only [nz]
 refine pl_t 4 (?_) (by rfl) ?_ rfl ?_
 rotate_left
 ·go_simp
  try with_reducible rfl
 simp only [nz]
 refine pl_nil ?_
 have pr := (hb1.cell (p := ⟨w.heap.size, 36, none⟩) s1).trans pr
 have HC1 := hide (HC0.later hb1)
 clear HC0 r1v cv iv hb1 B1
 go_upto_region 2 with fail
 try simp only [Act.put]
 refine pl_begin ?_
 refine pl_t 10 (?_) (by rfl) ?_ rfl ?_
 rotate_left
 ·go_simp
  try with_reducible rfl
 simp only [nz]
 refine pl_t 11 (.slice xa n xc) (by rfl) (pl_one rfl rfl pr Tryz.underlying48 rfl) rfl ?_
 simp only [nz]
 refine pl_t 12 (?_) (by rfl) ?_ rfl ?_
 rotate_left
 ·go_simp
  try with_reducible rfl
 simp only [nz]
 refine pl_t 13 (?_) (by rfl) ?_ rfl ?_
 rotate_left
 ·go_simp
  try with_reducible rfl
 simp only [nz]
 refine pl_nil ?_
 clear pr s1
 have HC1 : Hid (CI w w1 O v v (cs ++ (cerC vt xs).take 0)) := hide (by rw [List.take_zero, List.append_nil]; exact HC1.out)
 unfold addV
 go_wp2_with fail
 go_loopw [13] (fun iv wr => ∃ (k : Nat) (vk : Value), k ≤ n ∧ iv = .int .i64 (k : Int) ∧ Hid (CI w wr O v vk (cs ++ (cerC vt xs).take k))) (fun iv _ => n - (intOf iv).toNat)
 case atStart => exact ⟨0, v, by omega, rfl, HC1⟩
 case round =>
  clear HC1
  obtain ⟨k, vk, hk, rfl, HK⟩ := hrel
  by_cases hlt : k < n
  ·have k1 : (k : Int) < n := by omega
   have hn9 : n ≤ 1000000000 := by have h1 := HNN.out; have h2 := HN.out; omega
   have hkx : k < xs.length := by rw [HN.out]; exact hlt
   obtain ⟨b, off, hab, hbw, hre⟩ := (HXX.out.grow HK.out.grow HCC.out).elem k hkx
   have hab : xa = some ⟨b, off, none⟩ := hab
   have hre : wr.rangeAt b (off + k * 17) (SgE.f xs[k]) := hre
   have okx : Sg.ok xs[k] := HXX.out.2.1 _ (List.getElem_mem hkx)
   have HT : Hid ((cerC vt xs).take (k + 1) = (cerC vt xs).take k ++ [⟨(xs[k]).n, optS vt.may (voteL vt), (xs[k]).t⟩]) := hide (take_succ_map hkx)
   have HL : (cs ++ (cerC vt xs).take k).length ≤ 1000000000 := by have := HNN.out; simp only [List.length_append, List.length_take]; omega
   obtain ⟨g, hg⟩ : ∃ g, xs[k] = g := ⟨_, rfl⟩
   rw [hg] at hre okx HT
   clear hg
   have hok : Ev.ok ⟨g.n, optS vt.may (voteL vt), g.t⟩ := cerC_ok HVT.out okx
   have ca := fun w0 vk ds h0 hl => ca w0 vk ds _ hok h0 hl
   have hut : SgE.f g = .int .i64 g.n :: v8 g.t := rfl
   have it16 : (Tryz.prog.info? 23).map (·.size) = some (v8 g.t).length := by rw [v8_length, okx.tl]; exact iszT
   have iu : (Tryz.prog.info? 133).map (·.size) = some (SgE.f g).length := by rw [SgE.len g okx]; kernel_rfl
   have hul : (SgE.f g).length = 17 := SgE.len g okx
   have hu1 := SgE.one g
   obtain ⟨id, hid⟩ : ∃ i, g.n = i := ⟨_, rfl⟩
   have hbd := hbv
   obtain ⟨tg, htg⟩ : ∃ t, g.t = t := ⟨_, rfl⟩
   rw [hid, htg] at HT
   rw [hid] at hut
   rw [hbd.out] at HT
   rw [htg] at hut it16
   simp only [hid, hbd.out, htg] at ca
   clear hbd
   clear okx hok htg hid
   obtain ⟨u, hu⟩ : ∃ u, Hid (SgE.f g = u) := ⟨_, hide rfl⟩
   rw [hu.out] at hre iu hul hu1 hut
   clear hu
   rw [hab]
   go_upto_region 4 with fail
   obtain ⟨r5, hF, hF3, -⟩ := fresh_store wr z17.toArray 133 u (by simp [hzl, hul])
   try simp only [Act.put]
   refine pl_begin ?_
   refine pl_t 15 (?_) (by rfl) ?_ rfl ?_
   rotate_left
   ·go_simp
    try with_reducible rfl
   simp only [nz]
   refine pl_t 16 (.agg u.toArray) (by rfl) (ex_mid rfl rfl hre Tryz.underlying133 rfl iu) rfl ?_
   simp only [nz]
   refine pl_run (d := some 6) (v := .pointer (some ⟨wr.heap.size, 0, none⟩)) (w' := wr.alloc (.cells z17.toArray 133)) (by rfl) (ex_alloc rfl (hzr _)) rfl ?_
   simp only [nz]
   refine pl_store (w' := (wr.alloc (.cells z17.toArray 133)).setCells wr.heap.size 0 u) (by rfl) (ex_put (cs := u.toArray) rfl rfl rfl (there_newN _ _ _ (by simp [hzl, hul])) (by simpa using iu) (all_one hu1)) rfl ?_
   refine pl_nil ?_
   have HC := HK.out.later hF
   clear HK
   obtain ⟨X, hX⟩ : ∃ X, wr.heap.size = X := ⟨_, rfl⟩
   simp only [hX] at r5 HC hF3 ⊢
   obtain ⟨w5, hw5⟩ : ∃ W, (wr.alloc (.cells z17.toArray 133)).setCells X 0 u = W := ⟨_, rfl⟩
   rw [hw5] at r5 HC hF3 ⊢
   have sX : X < w5.heap.size := by omega
   clear hw5 hX hF hF3 hre hab
   have c0 : w5.cell? ⟨X, 0, none⟩ = some (.int .i64 id) := by simpa using r5 0 _ (by rw [hut]; rfl)
   have ct : w5.rangeAt X 1 (v8 tg) := fun j y hy => by
    have := r5 (j + 1) y (by rw [hut]; exact hy)
    rw [show 0 + (j + 1) = 1 + j by omega] at this
    exact this
   clear r5
   go_upto_region 5 with fail
   try simp only [Act.put]
   refine pl_begin ?_
   refine pl_t 17 (?_) (by rfl) ?_ rfl ?_
   rotate_left
   ·go_simp
    try with_reducible rfl
   simp only [nz]
   refine pl_t 18 (?_) (by rfl) ?_ rfl ?_
   rotate_left
   ·go_simp
    try with_reducible rfl
   simp only [nz]
   refine pl_t 19 (.int .i64 id) (by rfl) (pl_one rfl rfl c0 Tryz.underlying3 rfl) rfl ?_
   simp only [nz]
   refine pl_t 20 (?_) (by rfl) ?_ rfl ?_
   rotate_left
   ·go_simp
    try with_reducible rfl
   simp only [nz]
   refine pl_t 21 (?_) (by rfl) ?_ rfl ?_
   rotate_left
   ·go_simp
    try with_reducible rfl
   simp only [nz]
   refine pl_t 22 (.agg (v8 tg).toArray) (by rfl) (ex_mid rfl rfl ct Tryz.underlying23 rfl it16) rfl ?_
   simp only [nz]
   refine pl_call (d := some 23) (by rfl) (by go_simp; first | done | exact ⟨rfl, rfl⟩ | with_reducible rfl) rfl ?_
   refine (ca w5 vk (cs ++ (cerC vt xs).take k) HC.out HL).mono ?_
   rintro _ wc ⟨rfl, v', ho', hg'⟩
   refine ⟨_, rfl, ?_⟩
   simp only [nz]
   refine pl_nil ?_
   have HD : Hid (CI w wc O v v' (cs ++ (cerC vt xs).take (k + 1))) := hide (by
    rw [HT.out, ← List.append_assoc]
    exact HC.add ho' hg')
   clear HC ho' hg' c0 ct ca HT iu it16 hul hu1 hut hzr hzl
   go_wp2_with fail
   go_roundw
   case rel => exact ⟨k + 1, v', by omega, by go_num, HD⟩
   case measure => simp [intOf]; omega
  ·obtain rfl : k = n := by omega
   have HE : Hid (OutC wr O vk (cs ++ cerC vt xs) ∧ Grow w wr O v vk) := hide (by
    have h1 := HK.out.out
    rw [List.take_of_length_le (by rw [cerC_len, HN.out]; exact Nat.le_refl _)] at h1
    exact ⟨h1, HK.out.grow⟩)
   clear HK ca hlt
   go_wp2_with fail
   go_end0
   exact ⟨rfl, vk, HE.out⟩
theorem pair_at {w : World} {b o : Nat} {x y : Value} (h0 : w.cell? ⟨b, o, none⟩ = some x) (h1 : w.cell? ⟨b, o + 1, none⟩ = some y) : w.rangeAt b o [x, y] := fun j u hu => by
 rcases j with _ | _ | j
 ·simp at hu; subst hu; exact h0
 ·simp at hu; subst hu; exact h1
 ·simp at hu
theorem iszBaV (q : Bool) (x : Value) : (Tryz.prog.info? 39).map (·.size) = some [Value.bool q, x].length := by kernel_rfl
theorem zeroHd39 : ∃ z : List Value, z.length = 39 ∧ (∀ w : World, (zeroValue 113).run Tryz.prog w = .ok (.agg z.toArray) w) := ⟨_, rfl, zeroHdE⟩
structure Small (m : Mg) : Prop where
 rs : ∀ r ∈ m.rs.xs, r.s.size ≤ 100000
 he : ∀ h ∈ m.he.xs, ∀ r ∈ h.rs.xs, r.s.size ≤ 100000
theorem ownC_len (N : Int) (m : Mg) : (ownC N m.pure).length = m.rs.xs.length + m.cs.xs.length + (heC N (m.he.xs.map Hd.pure)).length + m.sg.xs.length := by
 unfold ownC
 simp only [List.length_append, batC_len, cerC_len, sgC_len]
 rfl
set_option maxRecDepth 100000 in
set_option maxHeartbeats 2000000 in
theorem oclaims_any (N : Int) (m : Mg) (O : Nat) (v : Value) (cs : List Ev) (w : World) (h : OutC w O v cs) (mo : m.ok) (ma0 : m.At w) (mb : m.Bk (Clr O v)) (hn : cs.length + (ownC N m.pure).length ≤ 1000000000) (hsm : Small m) :
  Calls Tryz.prog 53 #[.int .i64 N, .agg m.ms.cells.toArray, addV O] w fun en w' => en = .returned (.tuple #[]) ∧ ∃ v', OutC w' O v' (cs ++ ownC N m.pure) ∧ Grow w w' O v v' := by
 obtain ⟨z39, hzl, hzr⟩ := zeroHd39
 obtain ⟨z17, hsl, hsr⟩ : ∃ z : List Value, z.length = 17 ∧ (∀ w : World, (zeroValue 133).run Tryz.prog w = .ok (.agg z.toArray) w) := ⟨_, rfl, zeroSg17⟩
 have ca := fun w0 vk ds e he h0 hl => cadd_any O vk ds e w0 h0 he hl
 rw [ownC_len] at hn
 have HN := hide hn
 obtain ⟨B1, r1, sA⟩ := boxed_new w m.ms.cells 52
 have MA : m.ms.at (w.alloc (.cells m.ms.cells.toArray 52)) w.heap.size := mo.ms.at r1
 have HC0 : CI (w.alloc (.cells m.ms.cells.toArray 52)) (w.alloc (.cells m.ms.cells.toArray 52)) O v v cs := ⟨h.below B1, Grow.refl _ _ _⟩
 have ma := ma0.below B1
 have hcA : Clr O v w.heap.size := ⟨by have := h.lt; omega, fun e => by have := (h.own.lt _ e).2; omega⟩
 have iC : (Tryz.prog.info? 50).map (·.size) = some (certL m.ct m.cs).length := by unfold certL; rw [List.length_append, mo.ct.len]; kernel_rfl
 have HB1 := hide (Grow.of B1 O v)
 have rB : (w.alloc (.cells m.ms.cells.toArray 52)).rangeAt w.heap.size 5 [.bool m.q, m.rs.val] := pair_at MA.q MA.rs
 have rC0 : (w.alloc (.cells m.ms.cells.toArray 52)).rangeAt w.heap.size 80 (certL m.ct m.cs) := MA.ct
 have pH0 : (w.alloc (.cells m.ms.cells.toArray 52)).cell? ⟨w.heap.size, 46, none⟩ = some m.he.val := MA.he
 have pS0 : (w.alloc (.cells m.ms.cells.toArray 52)).cell? ⟨w.heap.size, 118, none⟩ = some m.sg.val := MA.sg
 clear MA r1 ma0 h hn B1
 obtain ⟨q, hq⟩ : ∃ q, m.ms.cells = q := ⟨_, rfl⟩
 rw [hq] at sA HC0 ma HB1 rB rC0 pH0 pS0
 rw [hq]
 clear hq
 go_enter Tryz.func53, Tryz.ntmps53
 go_upto_region 1 with fail
 obtain ⟨W, hW⟩ : ∃ W, w.alloc (.cells q.toArray 52) = W := ⟨_, rfl⟩
 rw [hW] at sA HC0 ma HB1 rB rC0 pH0 pS0 ⊢
 clear hW
 obtain ⟨A, hA⟩ : ∃ A, w.heap.size = A := ⟨_, rfl⟩
 rw [hA] at sA hcA rB rC0 pH0 pS0
 simp only [hA]
 clear hA
 try simp only [Act.put]
 refine pl_begin ?_
 refine pl_t 10 (?_) (by rfl) ?_ rfl ?_
 rotate_left
 ·go_simp
  try with_reducible rfl
 simp only [nz]
 refine pl_t 11 (?_) (by rfl) ?_ rfl ?_
 rotate_left
 ·go_simp
  try with_reducible rfl
 simp only [nz]
 refine pl_t 12 (.agg #[.bool m.q, m.rs.val]) (by rfl) (ex_mid (cs := [.bool m.q, m.rs.val]) rfl rfl rB Tryz.underlying39 rfl (iszBaV _ _)) rfl ?_
 simp only [nz]
 refine pl_t 13 (?_) (by rfl) ?_ rfl ?_
 rotate_left
 ·go_simp
  try with_reducible rfl
 simp only [nz]
 refine pl_call (d := some 14) (by rfl) (by go_simp; first | done | exact ⟨rfl, rfl⟩ | with_reducible rfl) rfl ?_
 refine (bclaims_any N m.q m.rs O v cs W HC0.out ma.rs mb.1 (by have := HN.out; omega) hsm.rs).mono ?_
 rintro _ w1 ⟨rfl, v1, o1, g1⟩
 refine ⟨_, rfl, ?_⟩
 simp only [nz]
 refine pl_nil ?_
 have HC1 := HC0.add o1 g1
 have rC := HC1.grow.range sA hcA rC0
 clear rB o1 g1 HC0
 go_upto_region 2 with fail
 try simp only [Act.put]
 refine pl_begin ?_
 refine pl_t 15 (?_) (by rfl) ?_ rfl ?_
 rotate_left
 ·go_simp
  try with_reducible rfl
 simp only [nz]
 refine pl_t 16 (.agg (certL m.ct m.cs).toArray) (by rfl) (ex_mid rfl rfl rC Tryz.underlying50 rfl iC) rfl ?_
 simp only [nz]
 refine pl_t 17 (?_) (by rfl) ?_ rfl ?_
 rotate_left
 ·go_simp
  try with_reducible rfl
 simp only [nz]
 refine pl_call (d := some 18) (by rfl) (by go_simp; first | done | exact ⟨rfl, rfl⟩ | with_reducible rfl) rfl ?_
 refine (cclaims_any m.ct m.cs O v1 _ w1 HC1.out mo.ct (ma.cs.grow HC1.grow mb.2.2.2.2.1) (mb.2.2.2.2.1.grow ma.cs HC1.grow) (by have := HN.out; rw [List.length_append, batC_len]; omega)).mono ?_
 rintro _ w2 ⟨rfl, v2, o2, g2⟩
 refine ⟨_, rfl, ?_⟩
 simp only [nz]
 refine pl_nil ?_
 have HC2 := HC1.add o2 g2
 have pH := (cell_block (j := 46) (HC2.grow.keep sA hcA).1).1.trans pH0
 obtain ⟨C2, hC2⟩ : ∃ C, Hid (cs ++ batC N m.rs.xs ++ cerC m.ct m.cs.xs = C) := ⟨_, hide rfl⟩
 rw [hC2.out] at HC2
 have hC2l : C2.length = cs.length + m.rs.xs.length + m.cs.xs.length := by rw [← hC2.out]; simp only [List.length_append, batC_len, cerC_len]
 clear rC rC0 pH0 o2 g2 HC1 iC
 obtain ⟨⟨ha, hc, hs⟩, hhe⟩ : ∃ x, m.he = x := ⟨_, rfl⟩
 obtain ⟨hl, hhl⟩ : ∃ n, hs.length = n := ⟨_, rfl⟩
 have hval : (m.he).val = .slice ha hl hc := by rw [hhe]; unfold Sl.val; rw [← hhl]
 rw [hval] at pH
 clear hval
 have HH := hide hhe
 have HL2 : Hid (hs.length = hl) := hide hhl
 have HA := hide ma
 have HB := hide mb
 clear hhe hhl ma
 go_upto_region 3 with fail
 try simp only [Act.put]
 refine pl_begin ?_
 refine pl_t 19 (?_) (by rfl) ?_ rfl ?_
 rotate_left
 ·go_simp
  try with_reducible rfl
 simp only [nz]
 refine pl_t 20 (?_) (by rfl) ?_ rfl ?_
 rotate_left
 ·go_simp
  try with_reducible rfl
 simp only [nz]
 refine pl_t 21 (.slice ha hl hc) (by rfl) (pl_one rfl rfl pH Tryz.underlying44 rfl) rfl ?_
 simp only [nz]
 refine pl_t 22 (?_) (by rfl) ?_ rfl ?_
 rotate_left
 ·go_simp
  try with_reducible rfl
 simp only [nz]
 refine pl_t 23 (?_) (by rfl) ?_ rfl ?_
 rotate_left
 ·go_simp
  try with_reducible rfl
 simp only [nz]
 refine pl_nil ?_
 have HC3 : Hid (CI W w2 O v v2 (C2 ++ heC N ((hs.map Hd.pure).take 0))) := hide (by simpa [heC] using HC2)
 clear HC2 pH
 unfold addV
 go_wp2_with fail
 go_loopw [23] (fun iv wr => ∃ (k : Nat) (vk : Value), k ≤ hl ∧ iv = .int .i64 (k : Int) ∧ Hid (CI W wr O v vk (C2 ++ heC N ((hs.map Hd.pure).take k)))) (fun iv _ => hl - (intOf iv).toNat)
 case atStart => exact ⟨0, v2, by omega, rfl, HC3⟩
 case round =>
  clear HC3
  obtain ⟨k, vk, hk, rfl, HK⟩ := hrel
  by_cases hlt : k < hl
  ·have k1 : (k : Int) < hl := by omega
   have hl9 : hl ≤ 9223372036854775807 := by
    have h1 := HA.out.he.1.1
    rw [HH.out] at h1
    have h2 : hs.length ≤ maxLen := h1
    rw [HL2.out] at h2
    unfold maxLen at h2
    omega
   have hkx : k < hs.length := by rw [HL2.out]; exact hlt
   have hat : HdsAt wr ⟨ha, hc, hs⟩ := by
    have := HA.out.he.grow HK.out.grow HB.out.2.1 HB.out.2.2.1
    rw [HH.out] at this
    exact this
   obtain ⟨b, off, hab, hbw, hre⟩ := hat.1.elem k hkx
   have hab : ha = some ⟨b, off, none⟩ := hab
   have hre : wr.rangeAt b (off + k * 39) (HdE.f hs[k]) := hre
   have hmem : hs[k] ∈ m.he.xs := by rw [HH.out]; exact List.getElem_mem hkx
   have gat := hat.2 _ (List.getElem_mem hkx)
   have gbk0 := HB.out.2.2.1 _ hmem
   have gat0 := HA.out.he.2 _ hmem
   have gbk : (hs[k]).Bk (Clr O vk) := ⟨gbk0.1.grow gat0.1 HK.out.grow, gbk0.2.grow gat0.2 HK.out.grow⟩
   have gsm := hsm.he _ hmem
   have okx : Vt.ok (hs[k]).vt := hat.1.2.1 _ (List.getElem_mem hkx)
   have HT : Hid (heC N ((hs.map Hd.pure).take (k + 1)) = heC N ((hs.map Hd.pure).take k) ++ (batC N (hs[k]).rs.xs ++ cerC (hs[k]).vt (hs[k]).sg.xs)) := hide (by
    rw [heC_succ (by simpa using hkx)]
    simp [hdC, Hd.pure])
   have HL : Hid ((C2 ++ heC N ((hs.map Hd.pure).take k)).length + (hs[k]).rs.xs.length + (hs[k]).sg.xs.length ≤ 1000000000) := hide (by
    have h1 := heC_le N (hs.map Hd.pure) (k + 1)
    rw [HT.out] at h1
    simp only [List.length_append, batC_len, cerC_len] at h1 ⊢
    have h2 := HN.out
    rw [HH.out] at h2
    simp only at h2
    omega)
   clear hat gbk0 gat0
   obtain ⟨g, hg⟩ : ∃ g, hs[k] = g := ⟨_, rfl⟩
   rw [hg] at hre gat gbk gsm okx HT HL
   clear hg hmem
   have gvt := okx
   have hul : (HdE.f g).length = 39 := HdE.len g okx
   have iu : (Tryz.prog.info? 113).map (·.size) = some (HdE.f g).length := by rw [hul]; kernel_rfl
   have hu1 := HdE.one g
   have hgf : HdE.f g = .bool g.q :: g.rs.val :: certL g.vt g.sg := rfl
   have iG : (Tryz.prog.info? 50).map (·.size) = some (certL g.vt g.sg).length := by unfold certL; rw [List.length_append, okx.len]; kernel_rfl
   obtain ⟨u, hu⟩ : ∃ u, Hid (HdE.f g = u) := ⟨_, hide rfl⟩
   rw [hu.out] at hre hul iu hu1 hgf
   clear hu okx
   rw [hab]
   go_upto_region 5 with fail
   obtain ⟨r5, hF, hF3, -⟩ := fresh_store wr z39.toArray 113 u (by simp [hzl, hul])
   try simp only [Act.put]
   refine pl_begin ?_
   refine pl_t 25 (?_) (by rfl) ?_ rfl ?_
   rotate_left
   ·go_simp
    try with_reducible rfl
   simp only [nz]
   refine pl_t 26 (.agg u.toArray) (by rfl) (ex_mid rfl rfl hre Tryz.underlying113 rfl iu) rfl ?_
   simp only [nz]
   refine pl_run (d := some 7) (v := .pointer (some ⟨wr.heap.size, 0, none⟩)) (w' := wr.alloc (.cells z39.toArray 113)) (by rfl) (ex_alloc rfl (hzr _)) rfl ?_
   simp only [nz]
   refine pl_store (w' := (wr.alloc (.cells z39.toArray 113)).setCells wr.heap.size 0 u) (by rfl) (ex_put (cs := u.toArray) rfl rfl rfl (there_newN _ _ _ (by simp [hzl, hul])) (by simpa using iu) (all_one hu1)) rfl ?_
   refine pl_nil ?_
   have HC := HK.out.later hF
   have HX := clr_new HK.out (Nat.le_refl _)
   have gat := gat.below hF
   clear HK
   obtain ⟨X, hX⟩ : ∃ X, wr.heap.size = X := ⟨_, rfl⟩
   simp only [hX] at r5 HC HX hF3 gat ⊢
   obtain ⟨w5, hw5⟩ : ∃ W, (wr.alloc (.cells z39.toArray 113)).setCells X 0 u = W := ⟨_, rfl⟩
   rw [hw5] at r5 HC hF3 gat ⊢
   have sX : X < w5.heap.size := by omega
   clear hw5 hX hF hF3 hre hab
   have rB : w5.rangeAt X 0 [.bool g.q, g.rs.val] := pair_at (by simpa using r5 0 _ (by rw [hgf]; rfl)) (by simpa using r5 1 _ (by rw [hgf]; rfl))
   have rC0 : w5.rangeAt X 2 (certL g.vt g.sg) := fun j y hy => by
    have := r5 (j + 2) y (by rw [hgf]; exact hy)
    rw [show 0 + (j + 2) = 2 + j by omega] at this
    exact this
   clear r5
   go_upto_region 6 with fail
   try simp only [Act.put]
   refine pl_begin ?_
   refine pl_t 27 (?_) (by rfl) ?_ rfl ?_
   rotate_left
   ·go_simp
    try with_reducible rfl
   simp only [nz]
   refine pl_t 28 (?_) (by rfl) ?_ rfl ?_
   rotate_left
   ·go_simp
    try with_reducible rfl
   simp only [nz]
   refine pl_t 29 (.agg #[.bool g.q, g.rs.val]) (by rfl) (ex_mid (cs := [.bool g.q, g.rs.val]) rfl rfl rB Tryz.underlying39 rfl (iszBaV _ _)) rfl ?_
   simp only [nz]
   refine pl_t 30 (?_) (by rfl) ?_ rfl ?_
   rotate_left
   ·go_simp
    try with_reducible rfl
   simp only [nz]
   refine pl_call (d := some 31) (by rfl) (by go_simp; first | done | exact ⟨rfl, rfl⟩ | with_reducible rfl) rfl ?_
   refine (bclaims_any N g.q g.rs O vk _ w5 HC.out gat.1 gbk.1 (by have := HL.out; omega) gsm).mono ?_
   rintro _ w6 ⟨rfl, v6, o6, g6⟩
   refine ⟨_, rfl, ?_⟩
   simp only [nz]
   refine pl_nil ?_
   have rC := g6.range sX HX rC0
   clear rB rC0
   go_upto_region 7 with fail
   try simp only [Act.put]
   refine pl_begin ?_
   refine pl_t 32 (?_) (by rfl) ?_ rfl ?_
   rotate_left
   ·go_simp
    try with_reducible rfl
   simp only [nz]
   refine pl_t 33 (.agg (certL g.vt g.sg).toArray) (by rfl) (ex_mid rfl rfl rC Tryz.underlying50 rfl iG) rfl ?_
   simp only [nz]
   refine pl_t 34 (?_) (by rfl) ?_ rfl ?_
   rotate_left
   ·go_simp
    try with_reducible rfl
   simp only [nz]
   refine pl_call (d := some 35) (by rfl) (by go_simp; first | done | exact ⟨rfl, rfl⟩ | with_reducible rfl) rfl ?_
   refine (cclaims_any g.vt g.sg O v6 _ w6 o6 gvt (gat.2.grow g6 gbk.2) (gbk.2.grow gat.2 g6) (by have := HL.out; rw [List.length_append, batC_len]; omega)).mono ?_
   rintro _ w7 ⟨rfl, v7, o7, g7⟩
   refine ⟨_, rfl, ?_⟩
   simp only [nz]
   refine pl_nil ?_
   have HD : Hid (CI W w7 O v v7 (C2 ++ heC N ((hs.map Hd.pure).take (k + 1)))) := hide (by
    rw [HT.out, ← List.append_assoc, ← List.append_assoc]
    exact (HC.add o6 g6).add o7 g7)
   clear HC o6 g6 o7 g7 rC HT HL iu iG hul hu1 hgf gat gbk gsm gvt hsl hsr hzl hzr pS0
   go_wp2_with fail
   go_roundw
   case rel => exact ⟨k + 1, v7, by omega, by go_num, HD⟩
   case measure => simp [intOf]; omega
  ·obtain rfl : k = hl := by omega
   have HC4 : CI W wr O v vk (C2 ++ heC N (hs.map Hd.pure)) := by
    have h1 := HK.out
    rw [List.take_of_length_le (by rw [List.length_map, HL2.out]; exact Nat.le_refl _)] at h1
    exact h1
   obtain ⟨C3, hC3⟩ : ∃ C, Hid (C2 ++ heC N (hs.map Hd.pure) = C) := ⟨_, hide rfl⟩
   rw [hC3.out] at HC4
   have pS := (cell_block (j := 118) (HC4.grow.keep sA hcA).1).1.trans pS0
   obtain ⟨⟨xa, xc, xs⟩, hsg⟩ : ∃ x, m.sg = x := ⟨_, rfl⟩
   obtain ⟨n, hxn⟩ : ∃ n, xs.length = n := ⟨_, rfl⟩
   have hval : (m.sg).val = .slice xa n xc := by rw [hsg]; unfold Sl.val; rw [← hxn]
   rw [hval] at pS
   have HNN : Hid (C3.length + xs.length ≤ 1000000000) := hide (by
    have h2 := HN.out
    rw [HH.out, hsg] at h2
    simp only at h2
    rw [← hC3.out]
    simp only [List.length_append]
    omega)
   have HXX : Hid (Sl.At SgE W ⟨xa, xc, xs⟩) := hide (by have := HA.out.sg; rw [hsg] at this; exact this)
   have HCC : Hid (Sl.Bk (Sl.mk xa xc xs) (Clr O v)) := hide (by have := HB.out.2.2.2.2.2; rw [hsg] at this; exact this)
   have HSG := hide hsg
   have HX3 := hide hxn
   have HN2 := HN
   clear HN hval hsg hxn HK hlt hk
   have HN := HX3
   go_upto_region 9 with fail
   try simp only [Act.put]
   refine pl_begin ?_
   refine pl_t 37 (?_) (by rfl) ?_ rfl ?_
   rotate_left
   ·go_simp
    try with_reducible rfl
   simp only [nz]
   refine pl_t 38 (.slice xa n xc) (by rfl) (pl_one rfl rfl pS Tryz.underlying48 rfl) rfl ?_
   simp only [nz]
   refine pl_t 39 (?_) (by rfl) ?_ rfl ?_
   rotate_left
   ·go_simp
    try with_reducible rfl
   simp only [nz]
   refine pl_t 40 (?_) (by rfl) ?_ rfl ?_
   rotate_left
   ·go_simp
    try with_reducible rfl
   simp only [nz]
   refine pl_nil ?_
   have HC5 : Hid (CI W wr O v vk (C3 ++ (sgC xs).take 0)) := hide (by rw [List.take_zero, List.append_nil]; exact HC4)
   clear pS HC4 pS0
   go_wp2_with fail
   go_loopw [40] (fun iv wr => ∃ (k : Nat) (vk : Value), k ≤ n ∧ iv = .int .i64 (k : Int) ∧ Hid (CI W wr O v vk (C3 ++ (sgC xs).take k))) (fun iv _ => n - (intOf iv).toNat)
   case atStart => exact ⟨0, vk, by omega, rfl, HC5⟩
   case round =>
    clear HC5
    obtain ⟨k, vk, hk, rfl, HK⟩ := hrel
    by_cases hlt : k < n
    ·have k1 : (k : Int) < n := by omega
     have hn9 : n ≤ 1000000000 := by have h1 := HNN.out; have h2 := HN.out; omega
     have hkx : k < xs.length := by rw [HN.out]; exact hlt
     obtain ⟨b, off, hab, hbw, hre⟩ := (HXX.out.grow HK.out.grow HCC.out).elem k hkx
     have hab : xa = some ⟨b, off, none⟩ := hab
     have hre : wr.rangeAt b (off + k * 17) (SgE.f xs[k]) := hre
     have okx : Sg.ok xs[k] := HXX.out.2.1 _ (List.getElem_mem hkx)
     have HT : Hid ((sgC xs).take (k + 1) = (sgC xs).take k ++ [⟨(xs[k]).n, (⟨#[]⟩ : ByteArray), (xs[k]).t⟩]) := hide (take_succ_map hkx)
     have HL : (C3 ++ (sgC xs).take k).length ≤ 1000000000 := by have := HNN.out; simp only [List.length_append, List.length_take]; omega
     obtain ⟨g, hg⟩ : ∃ g, xs[k] = g := ⟨_, rfl⟩
     rw [hg] at hre okx HT
     clear hg
     have hok : Ev.ok ⟨g.n, (⟨#[]⟩ : ByteArray), g.t⟩ := sgC_ok okx
     have ca := fun w0 vk ds h0 hl => ca w0 vk ds _ hok h0 hl
     have hut : SgE.f g = .int .i64 g.n :: v8 g.t := rfl
     have it16 : (Tryz.prog.info? 23).map (·.size) = some (v8 g.t).length := by rw [v8_length, okx.tl]; exact iszT
     have iu : (Tryz.prog.info? 133).map (·.size) = some (SgE.f g).length := by rw [SgE.len g okx]; kernel_rfl
     have hul : (SgE.f g).length = 17 := SgE.len g okx
     have hu1 := SgE.one g
     obtain ⟨id, hid⟩ : ∃ i, g.n = i := ⟨_, rfl⟩
     obtain ⟨tg, htg⟩ : ∃ t, g.t = t := ⟨_, rfl⟩
     rw [hid, htg] at HT
     rw [hid] at hut
     rw [htg] at hut it16
     simp only [hid, htg] at ca
     clear okx hok htg hid
     obtain ⟨u, hu⟩ : ∃ u, Hid (SgE.f g = u) := ⟨_, hide rfl⟩
     rw [hu.out] at hre iu hul hu1 hut
     clear hu
     rw [hab]
     go_upto_region 11 with fail
     obtain ⟨r5, hF, hF3, -⟩ := fresh_store wr z17.toArray 133 u (by simp [hsl, hul])
     try simp only [Act.put]
     refine pl_begin ?_
     refine pl_t 42 (?_) (by rfl) ?_ rfl ?_
     rotate_left
     ·go_simp
      try with_reducible rfl
     simp only [nz]
     refine pl_t 43 (.agg u.toArray) (by rfl) (ex_mid rfl rfl hre Tryz.underlying133 rfl iu) rfl ?_
     simp only [nz]
     refine pl_run (d := some 9) (v := .pointer (some ⟨wr.heap.size, 0, none⟩)) (w' := wr.alloc (.cells z17.toArray 133)) (by rfl) (ex_alloc rfl (hsr _)) rfl ?_
     simp only [nz]
     refine pl_store (w' := (wr.alloc (.cells z17.toArray 133)).setCells wr.heap.size 0 u) (by rfl) (ex_put (cs := u.toArray) rfl rfl rfl (there_newN _ _ _ (by simp [hsl, hul])) (by simpa using iu) (all_one hu1)) rfl ?_
     refine pl_nil ?_
     have HC := HK.out.later hF
     clear HK
     obtain ⟨X, hX⟩ : ∃ X, wr.heap.size = X := ⟨_, rfl⟩
     simp only [hX] at r5 HC hF3 ⊢
     obtain ⟨w5, hw5⟩ : ∃ W, (wr.alloc (.cells z17.toArray 133)).setCells X 0 u = W := ⟨_, rfl⟩
     rw [hw5] at r5 HC hF3 ⊢
     have sX : X < w5.heap.size := by omega
     clear hw5 hX hF hF3 hre hab
     have c0 : w5.cell? ⟨X, 0, none⟩ = some (.int .i64 id) := by simpa using r5 0 _ (by rw [hut]; rfl)
     have ct : w5.rangeAt X 1 (v8 tg) := fun j y hy => by
      have := r5 (j + 1) y (by rw [hut]; exact hy)
      rw [show 0 + (j + 1) = 1 + j by omega] at this
      exact this
     clear r5
     go_upto_region 12 with fail
     try simp only [Act.put]
     refine pl_begin ?_
     refine pl_t 44 (?_) (by rfl) ?_ rfl ?_
     rotate_left
     ·go_simp
      try with_reducible rfl
     simp only [nz]
     refine pl_t 45 (?_) (by rfl) ?_ rfl ?_
     rotate_left
     ·go_simp
      try with_reducible rfl
     simp only [nz]
     refine pl_t 46 (.int .i64 id) (by rfl) (pl_one rfl rfl c0 Tryz.underlying3 rfl) rfl ?_
     simp only [nz]
     refine pl_t 47 (?_) (by rfl) ?_ rfl ?_
     rotate_left
     ·go_simp
      try with_reducible rfl
     simp only [nz]
     refine pl_t 48 (.agg (v8 tg).toArray) (by rfl) (ex_mid rfl rfl ct Tryz.underlying23 rfl it16) rfl ?_
     simp only [nz]
     refine pl_call (d := some 49) (by rfl) (by go_simp; first | done | exact ⟨rfl, rfl⟩ | with_reducible rfl) rfl ?_
     refine (ca w5 vk (C3 ++ (sgC xs).take k) HC.out HL).mono ?_
     rintro _ wc ⟨rfl, v', ho', hg'⟩
     refine ⟨_, rfl, ?_⟩
     simp only [nz]
     refine pl_nil ?_
     have HD : Hid (CI W wc O v v' (C3 ++ (sgC xs).take (k + 1))) := hide (by
      rw [HT.out, ← List.append_assoc]
      exact HC.add ho' hg')
     clear HC ho' hg' c0 ct ca HT iu it16 hul hu1 hut hsr hsl
     go_wp2_with fail
     go_roundw
     case rel => exact ⟨k + 1, v', by omega, by go_num, HD⟩
     case measure => simp [intOf]; omega
    ·obtain rfl : k = n := by omega
     have HE : Hid (OutC wr O vk (cs ++ ownC N m.pure) ∧ Grow w wr O v vk) := hide (by
      have h1 := HK.out.out
      rw [List.take_of_length_le (by rw [sgC_len, HN.out]; exact Nat.le_refl _), ← hC3.out, ← hC2.out] at h1
      have e : cs ++ ownC N m.pure = cs ++ batC N m.rs.xs ++ cerC m.ct m.cs.xs ++ heC N (hs.map Hd.pure) ++ sgC xs := by
       unfold ownC Mg.pure
       rw [HH.out, HSG.out]
       simp only [List.append_assoc]
      rw [e]
      exact ⟨h1, HB1.out.trans HK.out.grow⟩)
     clear HK ca hlt
     go_wp2_with fail
     go_end0
     exact ⟨rfl, vk, HE.out⟩
structure OutX (w : World) (B : Nat) (v : Value) (cs : List Ev) : Prop where
 own : w.ownsRow B 70 18 v cs.length (cs.flatMap Ev.cells)
 ok : ∀ c ∈ cs, c.ok
 le : B ≤ w.heap.size
structure Kp (w : World) (v : Value) (W : World) : Prop where
 size : w.heap.size ≤ W.heap.size
 block : ∀ i, i < w.heap.size → v.ownBlock ≠ some i → W.heap[i]? = w.heap[i]?
structure GrX (w w' : World) (v v' : Value) : Prop where
 os : w'.os = w.os
 tape : w'.tape = w.tape
 output : w'.output = w.output
 kp : Kp w v w'
 own : ∀ g, v'.ownBlock = some g → v.ownBlock = some g ∨ w.heap.size ≤ g
structure CX (B : Nat) (w wr : World) (v vk : Value) (cs : List Ev) : Prop where
 out : OutX wr B vk cs
 grow : GrX w wr v vk
def ownX (N : Int) (m : Mp) : List Ev := batC N m.rs ++ heC N m.he ++ (if m.k = 7 then cerC m.ct m.cs else []) ++ sgC m.sg
structure XS (w : World) (X A B n : Nat) (q : List Value) (W : World) : Prop where
 row : W.rangeAt B 0 q
 box : W.there B 0 n
 ans : W.there A 0 n
 grown : w.grownBy W (some X)
 la : A < W.heap.size
 lb : B < W.heap.size
 na : w.heap.size ≤ A
 nb : w.heap.size ≤ B
 ne : A ≠ B
 lx : X < w.heap.size
theorem RSt.err {D X : Nat} {w : World} {zs : List Int} {e : Int} (h : RSt D w X zs e) : w.cell? ⟨X, 2, none⟩ = some (.int .i64 e) := by
 obtain ⟨_, _, hR, _⟩ := h
 exact hR.2.2.2.1
def kdE (rest : List Int) (e most : Int) : Int := if (numS rest e most).2.2 == 0 then (if (numS rest e most).1 == 0 then 130 else (numS rest e most).2.2) else (numS rest e most).2.2
def xvtS (rest : List Int) (e : Int) : Vt × List Int × Int :=
 let x0 := numS rest e 2
 let x1 := numS x0.2.1 (kdE rest e 2) 1048576
 let x2 := numS x1.2.1 x1.2.2 1099511627776
 let x3 := numS x2.2.1 x2.2.2 1099511627776
 let x4 := rawS x3.2.1 x3.2.2 32
 (⟨x0.1, x1.1, x2.1, x3.1, padN 32 x4.1⟩, x4.2.1, x4.2.2)
theorem rst_low {D : Nat} {w w' : World} {R B : Nat} {rest : List Int} {e : Int} (h : RSt D w R rest e) (hb : Below B w w') (hR : R < B) : RSt D w' R rest e := by
 have key : ∀ b, b < B → w'.heap[b]? = w.heap[b]? := fun b hbb => hb.block b hbb
 obtain ⟨zs, p, ⟨h0, ⟨a, cap, g1, g2, g3, g4, g5⟩, h2, h3, f0, f1, f2⟩, hd⟩ := h
 have cR := fun o => @cell_block w w' R o (key R hR)
 refine ⟨zs, p, ⟨Nat.lt_of_lt_of_le h0 hb.size, ⟨a, cap, by rw [(cR 0).1]; exact g1, g2, g3, ⟨g4.1, g4.2.1, ?_⟩, g5⟩, by rw [(cR 1).1]; exact h2, by rw [(cR 2).1]; exact h3, by rw [(cR 0).2]; exact f0, by rw [(cR 1).2]; exact f1, by rw [(cR 2).2]; exact f2⟩, hd⟩
 rcases g4.2.2 with g | ⟨b, off, rfl, g6, g7⟩
 ·exact .inl g
 ·have hbR := (g5 _ rfl).2
  exact .inr ⟨b, off, rfl, Nat.lt_of_lt_of_le g6 hb.size, fun j v hv => by rw [(@cell_block w w' b (off + j) (key b (by simp at hbR; omega))).1]; exact g7 j v hv⟩
abbrev Xst := List Int × Int
structure XR (w : World) (D X : Nat) (s : Xst) : Prop where
 st : RSt D w X s.1 s.2
 lx : X < w.heap.size
 ld : D ≤ X
theorem XR.gb {w w' : World} {D X : Nat} {s s' : Xst} (h : XR w D X s) (hg : w.grownBy w' (some X)) (hs : RSt D w' X s'.1 s'.2) : XR w' D X s' := ⟨hs, Nat.lt_of_lt_of_le h.lx hg.size, h.ld⟩
theorem XR.low {w w' : World} {D X n : Nat} {s : Xst} (h : XR w D X s) (hb : Below n w w') (hX : X < n) : XR w' D X s := ⟨rst_low h.st hb hX, Nat.lt_of_lt_of_le h.lx hb.size, h.ld⟩
theorem XR.below {w w' : World} {D X : Nat} {s : Xst} (h : XR w D X s) (hb : Below w.heap.size w w') : XR w' D X s := h.low hb h.lx
def xnuS (most : Int) (s : Xst) : Int × Xst := numS s.1 s.2 most
def xtgS (s : Xst) : List Int × Xst := (padN 16 (rawS s.1 s.2 16).1, (rawS s.1 s.2 16).2)
def xtxS (most : Int) (s : Xst) : ByteArray × Xst := (strOf (textS s.1 s.2 most).1, (textS s.1 s.2 most).2)
def xsiS (s : Xst) : Sg × Xst := (⟨(xnuS 64 s).1, (xtgS (xnuS 64 s).2).1⟩, (xtgS (xnuS 64 s).2).2)
def xvoS (s : Xst) : Vt × Xst := xvtS s.1 s.2
def xbaS (s : Xst) : (Bool × List Rq) × Xst := (((getB s.1 s.2).q, (getB s.1 s.2).rs.map BRq.un), (getB s.1 s.2).rest, (getB s.1 s.2).err)
def xitG {α : Type} (one : Xst → α × Xst) (s : Xst) : Nat → List α × Xst
  | 0 => ([], s)
  | k + 1 => if (xitG one s k).2.2 = 0 then ((xitG one s k).1 ++ [(one (xitG one s k).2).1], (one (xitG one s k).2).2) else xitG one s k
def xlsS {α : Type} (most : Int) (one : Xst → α × Xst) (s : Xst) : List α × Xst := xitG one (xnuS most s).2 (xnuS most s).1.toNat
theorem xnumS (D X : Nat) (most : Int) (s : Xst) (w : World) (h : XR w D X s) : Calls Tryz.prog 44 #[.pointer (some ⟨X, 0, none⟩), .int .i64 most] w fun en w' => en = .returned (.int .i64 (xnuS most s).1) ∧ XR w' D X (xnuS most s).2 ∧ w.grownBy w' (some X) :=
 (refNum_any (B := D) X s.1 s.2 most w h.st).mono (by rintro _ w1 ⟨rfl, h1, h2⟩; exact ⟨rfl, h.gb h2 h1, h2⟩)
theorem xtextS (D X : Nat) (most : Int) (s : Xst) (w : World) (h : XR w D X s) : Calls Tryz.prog 45 #[.pointer (some ⟨X, 0, none⟩), .int .i64 most] w fun en w' => en = .returned (.string (xtxS most s).1) ∧ XR w' D X (xtxS most s).2 ∧ w.grownBy w' (some X) :=
 (refText_any (B := D) X s.1 s.2 most w h.st).mono (by rintro _ w1 ⟨rfl, h1, h2⟩; exact ⟨rfl, h.gb h2 h1, h2⟩)
def xceS (s : Xst) : (Vt × List Sg) × Xst := (((xvoS s).1, (xlsS 64 xsiS (xvoS s).2).1), (xlsS 64 xsiS (xvoS s).2).2)
def xheS (s : Xst) : Hp × Xst := (⟨(xbaS s).1.1, (xbaS s).1.2, (xceS (xbaS s).2).1.1, (xceS (xbaS s).2).1.2⟩, (xceS (xbaS s).2).2)
structure XV (w : World) (X A B n : Nat) (q : List Value) (W : World) : Prop where
 row : W.rangeAt B 0 q
 box : W.there B 0 n
 ans : W.there A 0 n
 gr : w.grownBy W (some X)
 lb : B < W.heap.size
 na : w.heap.size ≤ A
 ab : A < B
 lx : X < w.heap.size
structure XH (w : World) (D X A B : Nat) (a b c : Int) (t : Xst) (k : Nat) (W : World) : Prop where
 ex : ∃ (v : Value) (ys : List Hd), XV w X A B 4 [.int .i64 a, .int .i64 b, .int .i64 c, v] W ∧ ys.map Hd.pure = (xitG xheS t k).1 ∧ W.ownsRow (B + 1) 113 39 v ys.length (ys.flatMap Hd.cells) ∧ ∀ y ∈ ys, y.vt.ok ∧ y.At W ∧ y.Bk (fun b => B < b ∧ b < W.heap.size ∧ v.ownBlock ≠ some b)
 rs : XR W D X (xitG xheS t k).2
structure XW (w : World) (D X A B n : Nat) (q : List Value) (s : Xst) (W : World) : Prop where
 row : W.rangeAt B 0 q
 box : W.there B 0 n
 ans : W.there A 0 n
 gr : w.grownBy W (some X)
 rs : XR W D X s
 la : A < W.heap.size
 lb : B < W.heap.size
 na : w.heap.size ≤ A
 nb : w.heap.size ≤ B
 ne : A ≠ B
 lx : X < w.heap.size
end Go.Proofs.YtcbpbkefggekmaaGreatDoor
