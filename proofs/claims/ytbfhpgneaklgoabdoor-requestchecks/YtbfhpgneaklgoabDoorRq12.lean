/- The law of checking requests: the walk -/
import Derived.Test.YtbfhpgneaklgoabDoorRq9
import Derived.Test.YtbfhpgneaklgoabDoorRq11
import Derived.Test.YtbfhpgneaklgoabDoorBucket
namespace Go.Proofs.YtbfhpgneaklgoabDoor
open Go.RowKit
open Sha Tal
theorem ask_req (w : World) (A q : List Value) : Below w.heap.size w ((w.alloc (.cells A.toArray 23)).alloc (.cells q.toArray 33)) ∧
    ((w.alloc (.cells A.toArray 23)).alloc (.cells q.toArray 33)).rangeAt w.heap.size 0 A ∧ ((w.alloc (.cells A.toArray 23)).alloc (.cells q.toArray 33)).rangeAt (w.heap.size + 1) 0 q ∧
    w.heap.size + 1 < ((w.alloc (.cells A.toArray 23)).alloc (.cells q.toArray 33)).heap.size := by
  have b1 : Below w.heap.size w (w.alloc (.cells A.toArray 23)) := (Below.refl _ _).alloc (Nat.le_refl _) _
  refine ⟨b1.alloc b1.size _, World.rangeAt_alloc (by have := range_new w A.toArray 23; simpa using this) _, ?_, by simp⟩
  have := range_new (w.alloc (.cells A.toArray 23)) q.toArray 33
  rw [World.size_alloc] at this
  simpa using this
set_option maxRecDepth 100000 in
set_option maxHeartbeats 4000000 in
theorem checks_big (N M c0 n0 : Int) (s0 : ByteArray) (c n : Int) (s : ByteArray) (t : List Int) (k : Int) (w : World) (hG : Glob w) (hb : 2000 < s.size) :
   Calls Tryd.prog 4 #[.agg (askL N M c0 n0 s0).toArray, .agg (reqL c n s t).toArray, .int .i64 k] w fun e w' => e = .returned (.bool true) ∧ Below w.heap.size w w' := by
  have haL := fun (w0 : World) (b0 : Nat) h0 => @askL_at w0 b0 N M c0 n0 s0 h0
  have hq0 := fun (w0 : World) (b0 : Nat) h0 => @reqL_0 w0 b0 c n s t h0
  obtain ⟨A, hA⟩ : ∃ A, Hid (askL N M c0 n0 s0 = A) := ⟨_, hide rfl⟩
  obtain ⟨q, hq⟩ : ∃ q, Hid (reqL c n s t = q) := ⟨_, hide rfl⟩
  rw [hA.out, hq.out]
  simp only [hA.out] at haL
  simp only [hq.out] at hq0
  obtain ⟨hB0, hA0, hR0, hz0⟩ := ask_req w A q
  go_enter Tryd.func4, Tryd.ntmps4
  go_upto_region 1 with fail
  go_name_world w1 hw1
  rw [hw1] at hB0 hA0 hR0 hz0
  clear hw1
  obtain ⟨V, hV⟩ : ∃ V, Hid (w.heap.size = V) := ⟨_, hide rfl⟩
  obtain ⟨X, hX⟩ : ∃ X, Hid (w.heap.size + 1 = X) := ⟨_, hide rfl⟩
  have hVX : V < X := by rw [← hV.out, ← hX.out]; omega
  rw [hX.out] at hR0 hz0 ⊢
  rw [hV.out] at hA0 ⊢
  obtain ⟨q0, q1, q2⟩ := hq0 w1 X hR0
  try simp only [Act.put]
  have hb' : (2000 : Int) < s.size := by omega
  go_wp2_with (go_at_call 8; refine (lives6_any w1 (hG.below hB0)).mono ?_; rintro e w9 ⟨rfl, hw9⟩)
  go_ret
  exact ⟨rfl, hB0.trans (hw9.mono hB0.size)⟩
set_option maxRecDepth 100000 in
set_option maxHeartbeats 4000000 in
theorem checks_lt (N M c0 n0 : Int) (s0 : ByteArray) (c n : Int) (s : ByteArray) (t : List Int) (k : Int) (w : World) (hG : Glob w) (ht : t.length = 16) (hc : c ≤ 9223372036854775807) (hn : n ≤ 9223372036854775807) (hk : (Lit.int .i64 k).wf = true) (hb : s.size ≤ 2000) (hk1 : k < 1) :
   Calls Tryd.prog 4 #[.agg (askL N M c0 n0 s0).toArray, .agg (reqL c n s t).toArray, .int .i64 k] w fun e w' => e = .returned (.bool true) ∧ Below w.heap.size w w' := by
  have haL := fun (w0 : World) (b0 : Nat) h0 => @askL_at w0 b0 N M c0 n0 s0 h0
  have hq0 := fun (w0 : World) (b0 : Nat) h0 => @reqL_0 w0 b0 c n s t h0
  have cbk := fun w0 hG0 => bucket_any c n k w0 hG0 hc hn hk
  have crb := fun w0 => refBucket_any c n k w0 hc hn hk
  obtain ⟨hbk0, hbk1⟩ := bucketV_range c n k
  obtain ⟨bk, hbk⟩ : ∃ bk, Hid (bucketV c n k = bk) := ⟨_, hide rfl⟩
  simp only [hbk.out] at cbk crb
  rw [hbk.out] at hbk0 hbk1
  have cbd := fun w0 => body_any c n s t w0 ht hc hn (by omega)
  have crd := fun w0 => refBody_any c n s t w0 hc hn (by omega)
  obtain ⟨bd, hbd⟩ : ∃ bd, Hid (strOf (bodyL c n s) = bd) := ⟨_, hide rfl⟩
  simp only [hbd.out] at cbd crd
  have cgd := fun p w0 h0 hG0 => good_any p (keysOf seedR 72) N M c n s t w0 h0 hG0 ht hc
  have crg := fun w0 => refGood_any N M c n s t w0 ht
  obtain ⟨gv, hgv⟩ : ∃ gv, Hid (goodV (keysOf seedR 72) N M c n s t = gv) := ⟨_, hide rfl⟩
  simp only [hgv.out] at cgd crg
  have cgn := fun w0 hG0 => good_any none [] N M c n s t w0 (.inl ⟨rfl, rfl⟩) hG0 ht hc
  have hgn : goodV [] N M c n s t = 1 := rfl
  simp only [hgn] at cgn
  clear hgn
  have hiR' : (Tryd.prog.info? 33).map (·.size) = some (reqL c n s t).length := by rw [reqL_length _ _ _ _ ht]; exact iszR
  have hiK : (Tryd.prog.info? 27).map (·.size) = some rkL.toArray.size := iszK
  have hiK' : (Tryd.prog.info? 27).map (·.size) = some rkL.length := iszK
  have hoK : (rkL.toArray.all fun x => x.oneCell') = true := by simp [rkL, Value.oneCell']
  obtain ⟨A, hA⟩ : ∃ A, Hid (askL N M c0 n0 s0 = A) := ⟨_, hide rfl⟩
  obtain ⟨q, hq⟩ : ∃ q, Hid (reqL c n s t = q) := ⟨_, hide rfl⟩
  rw [hA.out, hq.out]
  simp only [hA.out] at haL
  simp only [hq.out] at hq0
  simp only [hq.out] at cbd crd cgd crg cgn
  rw [hq.out] at hiR'
  obtain ⟨hB0, hA0, hR0, hz0⟩ := ask_req w A q
  go_enter Tryd.func4, Tryd.ntmps4
  go_upto_region 1 with fail
  go_name_world w1 hw1
  rw [hw1] at hB0 hA0 hR0 hz0
  clear hw1
  obtain ⟨V, hV⟩ : ∃ V, Hid (w.heap.size = V) := ⟨_, hide rfl⟩
  obtain ⟨X, hX⟩ : ∃ X, Hid (w.heap.size + 1 = X) := ⟨_, hide rfl⟩
  have hVX : V < X := by rw [← hV.out, ← hX.out]; omega
  rw [hX.out] at hR0 hz0 ⊢
  rw [hV.out] at hA0 ⊢
  obtain ⟨q0, q1, q2⟩ := hq0 w1 X hR0
  try simp only [Act.put]
  clear hbk1
  have hb' : ¬ (2000 : Int) < s.size := by omega
  go_wp2_with fail
  refine (keys6_any w1 (hG.below hB0)).mono ?_
  rintro e w2 ⟨p, rfl, hp, hk2, hw2⟩
  have hB2 := hB0.trans (hw2.mono hB0.size)
  have hA2 := range_below hA0 hw2 (by omega)
  have hR2 := range_below hR0 hw2 hz0
  have hz2 := Nat.lt_of_lt_of_le hz0 hw2.size
  clear hB0 hA0 hR0 hz0 hw2 q0 q1 q2 hb'
  have F := fresh_store w2 #[.string ⟨#[]⟩, .int .i64 0] 27 rkL rfl
  have hN2 : (w2.alloc (.cells #[.string ⟨#[]⟩, .int .i64 0] 27)).there w2.heap.size 0 rkL.toArray.size := there_new w2 #[.string ⟨#[]⟩, .int .i64 0] 27
  go_upto_region 4 with (refine wpList_store_mid (op := ⟨none, .store 27 (.tmp 8) (.tmp 18), _, _, _, none⟩) rfl 27 _ _ rfl _ _ rkL.toArray rfl rfl hN2 hiK hoK ?_)
  go_name_world w3 hw3
  rw [show (w2.alloc (.cells #[.string ⟨#[]⟩, .int .i64 0] 27)).setCells w2.heap.size 0 rkL = w3 from hw3] at F
  clear hw3 hN2 hiK hoK
  obtain ⟨hK3, hF3, hz3, _⟩ := F
  have hB3 := hB2.trans (hF3.mono hB2.size)
  have hA3 := range_below hA2 hF3 (by omega)
  have hR3 := range_below hR2 hF3 hz2
  have hk3 := hk2.below hF3
  obtain ⟨Y, hY⟩ : ∃ Y, Hid (w2.heap.size = Y) := ⟨_, hide rfl⟩
  have hXY : X < Y := by rw [← hY.out]; exact hz2
  rw [hY.out] at hK3 hz3 ⊢
  have hY3' : Y < w3.heap.size := by omega
  clear hB2 hA2 hR2 hk2 hF3 hz2 hz3
  obtain ⟨q0, q1, q2⟩ := hq0 w3 X hR3
  try simp only [Act.put]
  go_wp2_with fail
  refine (cbk w3 (hG.below hB3)).mono ?_
  rintro e w4 ⟨rfl, hw4⟩
  clear q0 q1 q2 cbk
  have hB4 := (hB3.trans (hw4.mono hB3.size)).drew
  have hA4 : w4.drew.rangeAt V 0 A := (World.rangeAt_drew _ _ _ _).2 (range_below hA3 hw4 (by omega))
  have hR4 : w4.drew.rangeAt X 0 q := (World.rangeAt_drew _ _ _ _).2 (range_below hR3 hw4 (by omega))
  have hK4 : w4.drew.rangeAt Y 0 rkL := (World.rangeAt_drew _ _ _ _).2 (range_below hK3 hw4 (by omega))
  have hk4 := (hk3.below hw4).below (Below.refl w4.heap.size w4).drew
  have hY4' : Y < w4.drew.heap.size := Nat.lt_of_lt_of_le hY3' hw4.size
  clear hB3 hA3 hR3 hK3 hk3 hY3' hw4
  go_wp2_with fail
  obtain ⟨w6, hw6⟩ : ∃ w6, w4.drew = w6 := ⟨_, rfl⟩
  rw [hw6] at hB4 hA4 hR4 hK4 hk4 hY4'
  refine hs_begin (S := (Below w6.heap.size w6)) 58 rfl (by kernel_rfl) ?_
  rw [hw6]
  clear hw6
  have hS : (Below w6.heap.size w6) w6 := Below.refl _ _
  have hX4 : X < w6.heap.size := by omega
  have hV4 : V < w6.heap.size := by omega
  have aN : ∀ w', Below w6.heap.size w6 w' → w'.cell? ⟨V, 0, none⟩ = some (.int .i64 N) := fun w' hw' => (haL w' V (range_below hA4 hw' hV4)).1
  have aM : ∀ w', Below w6.heap.size w6 w' → w'.cell? ⟨V, 1, none⟩ = some (.int .i64 M) := fun w' hw' => (haL w' V (range_below hA4 hw' hV4)).2.1
  have qc : ∀ w', Below w6.heap.size w6 w' → w'.cell? ⟨X, 0, none⟩ = some (.int .i64 c) := fun w' hw' => (hq0 w' X (range_below hR4 hw' hX4)).1
  have qn : ∀ w', Below w6.heap.size w6 w' → w'.cell? ⟨X, 1, none⟩ = some (.int .i64 n) := fun w' hw' => (hq0 w' X (range_below hR4 hw' hX4)).2.1
  clear hq0 haL hA4
  refine hs_take (i := 0) (d := some 25) (v := .agg q.toArray) rfl (by kernel_rfl) (by kernel_rfl) (by kernel_rfl) (by rfl) (fun w' hw => exec_load rfl rfl (run_loadVar_mid (P := Tryd.prog) w' X 0 33 q _ (range_below hR4 hw hX4) Tryd.underlying33 rfl hiR')) hS rfl ?_
  simp only [Act.put, List.setIfInBounds_toArray, List.set_cons_zero, List.set_cons_succ]
  refine hs_take (i := 2) (d := some 27) (v := .agg q.toArray) rfl (by kernel_rfl) (by kernel_rfl) (by kernel_rfl) (by rfl) (fun w' hw => exec_load rfl rfl (run_loadVar_mid (P := Tryd.prog) w' X 0 33 q _ (range_below hR4 hw hX4) Tryd.underlying33 rfl hiR')) hS rfl ?_
  simp only [Act.put, List.setIfInBounds_toArray, List.set_cons_zero, List.set_cons_succ]
  refine hs_call (i := 1) (d := some 26) rfl (by kernel_rfl) (by rfl) (by go_simp; first | done | exact ⟨rfl, rfl⟩ | with_reducible rfl) rfl ?_
  refine (cbd w6).mono ?_
  rintro e' w7 ⟨rfl, hw7⟩
  have hS : (Below w6.heap.size w6) w7 := hS.trans (hw7.mono hS.size)
  refine ⟨_, rfl, hS, ?_⟩
  simp only [Act.put, List.setIfInBounds_toArray, List.set_cons_zero, List.set_cons_succ]
  refine hs_call (i := 3) (d := some 28) rfl (by kernel_rfl) (by rfl) (by go_simp; first | done | exact ⟨rfl, rfl⟩ | with_reducible rfl) rfl ?_
  refine (crd w7).mono ?_
  rintro e' w8 ⟨rfl, hw8⟩
  have hS : (Below w6.heap.size w6) w8 := hS.trans (hw8.mono hS.size)
  refine ⟨_, rfl, hS, ?_⟩
  simp only [Act.put, List.setIfInBounds_toArray, List.set_cons_zero, List.set_cons_succ]
  refine hs_take (i := 4) (d := some 29) (v := .bool true) rfl (by kernel_rfl) (by kernel_rfl) (by kernel_rfl) (by rfl) (fun w' hw => by go_simp) hS rfl ?_
  simp only [Act.put, List.setIfInBounds_toArray, List.set_cons_zero, List.set_cons_succ]
  refine hs_take (i := 5) (d := some 30) (v := ?_) rfl (by kernel_rfl) (by kernel_rfl) (by kernel_rfl) (by rfl) ?_ hS rfl ?_
  rotate_left
  · intro w' hw
    go_simp
    try with_reducible rfl
  simp only [Act.put, List.setIfInBounds_toArray, List.set_cons_zero, List.set_cons_succ]
  refine hs_take (i := 6) (d := some 31) (v := ?_) rfl (by kernel_rfl) (by kernel_rfl) (by kernel_rfl) (by rfl) ?_ hS rfl ?_
  rotate_left
  · intro w' hw
    go_simp
    try with_reducible rfl
  simp only [Act.put, List.setIfInBounds_toArray, List.set_cons_zero, List.set_cons_succ]
  refine hs_take (i := 7) (d := some 32) (v := ?_) rfl (by kernel_rfl) (by kernel_rfl) (by kernel_rfl) (by rfl) ?_ hS rfl ?_
  rotate_left
  · intro w' hw
    go_simp
    try with_reducible rfl
  simp only [Act.put, List.setIfInBounds_toArray, List.set_cons_zero, List.set_cons_succ]
  refine hs_take (i := 8) (d := some 33) (v := ?_) rfl (by kernel_rfl) (by kernel_rfl) (by kernel_rfl) (by rfl) ?_ hS rfl ?_
  rotate_left
  · intro w' hw
    have h := aN w' hw
    go_simp
    try with_reducible rfl
  simp only [Act.put, List.setIfInBounds_toArray, List.set_cons_zero, List.set_cons_succ]
  refine hs_take (i := 9) (d := some 34) (v := ?_) rfl (by kernel_rfl) (by kernel_rfl) (by kernel_rfl) (by rfl) ?_ hS rfl ?_
  rotate_left
  · intro w' hw
    go_simp
    try with_reducible rfl
  simp only [Act.put, List.setIfInBounds_toArray, List.set_cons_zero, List.set_cons_succ]
  refine hs_take (i := 10) (d := some 35) (v := ?_) rfl (by kernel_rfl) (by kernel_rfl) (by kernel_rfl) (by rfl) ?_ hS rfl ?_
  rotate_left
  · intro w' hw
    have h := aM w' hw
    go_simp
    try with_reducible rfl
  simp only [Act.put, List.setIfInBounds_toArray, List.set_cons_zero, List.set_cons_succ]
  refine hs_take (i := 11) (d := some 36) (v := .agg q.toArray) rfl (by kernel_rfl) (by kernel_rfl) (by kernel_rfl) (by rfl) (fun w' hw => exec_load rfl rfl (run_loadVar_mid (P := Tryd.prog) w' X 0 33 q _ (range_below hR4 hw hX4) Tryd.underlying33 rfl hiR')) hS rfl ?_
  simp only [Act.put, List.setIfInBounds_toArray, List.set_cons_zero, List.set_cons_succ]
  refine hs_take (i := 13) (d := some 38) (v := .agg rkL.toArray) rfl (by kernel_rfl) (by kernel_rfl) (by kernel_rfl) (by rfl) (fun w' hw => exec_load rfl rfl (run_loadVar_mid (P := Tryd.prog) w' Y 0 27 _ _ (range_below hK4 hw hY4') Tryd.underlying27 rfl hiK')) hS rfl ?_
  simp only [Act.put, List.setIfInBounds_toArray, List.set_cons_zero, List.set_cons_succ]
  refine hs_take (i := 14) (d := some 39) (v := ?_) rfl (by kernel_rfl) (by kernel_rfl) (by kernel_rfl) (by rfl) ?_ hS rfl ?_
  rotate_left
  · intro w' hw
    go_simp
    try with_reducible rfl
  simp only [Act.put, List.setIfInBounds_toArray, List.set_cons_zero, List.set_cons_succ]
  refine hs_take (i := 15) (d := some 40) (v := ?_) rfl (by kernel_rfl) (by kernel_rfl) (by kernel_rfl) (by rfl) ?_ hS rfl ?_
  rotate_left
  · intro w' hw
    have h := aN w' hw
    go_simp
    try with_reducible rfl
  simp only [Act.put, List.setIfInBounds_toArray, List.set_cons_zero, List.set_cons_succ]
  refine hs_take (i := 16) (d := some 41) (v := ?_) rfl (by kernel_rfl) (by kernel_rfl) (by kernel_rfl) (by rfl) ?_ hS rfl ?_
  rotate_left
  · intro w' hw
    go_simp
    try with_reducible rfl
  simp only [Act.put, List.setIfInBounds_toArray, List.set_cons_zero, List.set_cons_succ]
  refine hs_take (i := 17) (d := some 42) (v := ?_) rfl (by kernel_rfl) (by kernel_rfl) (by kernel_rfl) (by rfl) ?_ hS rfl ?_
  rotate_left
  · intro w' hw
    have h := aM w' hw
    go_simp
    try with_reducible rfl
  simp only [Act.put, List.setIfInBounds_toArray, List.set_cons_zero, List.set_cons_succ]
  refine hs_take (i := 18) (d := some 43) (v := .agg q.toArray) rfl (by kernel_rfl) (by kernel_rfl) (by kernel_rfl) (by rfl) (fun w' hw => exec_load rfl rfl (run_loadVar_mid (P := Tryd.prog) w' X 0 33 q _ (range_below hR4 hw hX4) Tryd.underlying33 rfl hiR')) hS rfl ?_
  simp only [Act.put, List.setIfInBounds_toArray, List.set_cons_zero, List.set_cons_succ]
  refine hs_call (i := 12) (d := some 37) rfl (by kernel_rfl) (by rfl) (by go_simp; first | done | exact ⟨rfl, rfl⟩ | with_reducible rfl) rfl ?_
  refine (cgd p w8 (hk4.below hS) (hG.below (hB4.trans (hS.mono hB4.size)))).mono ?_
  rintro e' w9 ⟨rfl, hw9⟩
  have hS : (Below w6.heap.size w6) w9 := hS.trans (hw9.mono hS.size)
  refine ⟨_, rfl, hS, ?_⟩
  simp only [Act.put, List.setIfInBounds_toArray, List.set_cons_zero, List.set_cons_succ]
  refine hs_call (i := 19) (d := some 44) rfl (by kernel_rfl) (by rfl) (by go_simp; first | done | exact ⟨rfl, rfl⟩ | with_reducible rfl) rfl ?_
  refine (crg w9).mono ?_
  rintro e' w10 ⟨rfl, hw10⟩
  have hS : (Below w6.heap.size w6) w10 := hS.trans (hw10.mono hS.size)
  refine ⟨_, rfl, hS, ?_⟩
  simp only [Act.put, List.setIfInBounds_toArray, List.set_cons_zero, List.set_cons_succ]
  refine hs_take (i := 20) (d := some 45) (v := .bool true) rfl (by kernel_rfl) (by kernel_rfl) (by kernel_rfl) (by rfl) (fun w' hw => by go_simp) hS rfl ?_
  simp only [Act.put, List.setIfInBounds_toArray, List.set_cons_zero, List.set_cons_succ]
  refine hs_take (i := 21) (d := some 46) (v := ?_) rfl (by kernel_rfl) (by kernel_rfl) (by kernel_rfl) (by rfl) ?_ hS rfl ?_
  rotate_left
  · intro w' hw
    go_simp
    try with_reducible rfl
  simp only [Act.put, List.setIfInBounds_toArray, List.set_cons_zero, List.set_cons_succ]
  refine hs_take (i := 22) (d := some 47) (v := ?_) rfl (by kernel_rfl) (by kernel_rfl) (by kernel_rfl) (by rfl) ?_ hS rfl ?_
  rotate_left
  · intro w' hw
    go_simp
    try with_reducible rfl
  simp only [Act.put, List.setIfInBounds_toArray, List.set_cons_zero, List.set_cons_succ]
  refine hs_take (i := 23) (d := some 48) (v := ?_) rfl (by kernel_rfl) (by kernel_rfl) (by kernel_rfl) (by rfl) ?_ hS rfl ?_
  rotate_left
  · intro w' hw
    go_simp
    try with_reducible rfl
  simp only [Act.put, List.setIfInBounds_toArray, List.set_cons_zero, List.set_cons_succ]
  refine hs_take (i := 24) (d := some 49) (v := ?_) rfl (by kernel_rfl) (by kernel_rfl) (by kernel_rfl) (by rfl) ?_ hS rfl ?_
  rotate_left
  · intro w' hw
    have h := aN w' hw
    go_simp
    try with_reducible rfl
  simp only [Act.put, List.setIfInBounds_toArray, List.set_cons_zero, List.set_cons_succ]
  refine hs_take (i := 25) (d := some 50) (v := ?_) rfl (by kernel_rfl) (by kernel_rfl) (by kernel_rfl) (by rfl) ?_ hS rfl ?_
  rotate_left
  · intro w' hw
    go_simp
    try with_reducible rfl
  simp only [Act.put, List.setIfInBounds_toArray, List.set_cons_zero, List.set_cons_succ]
  refine hs_take (i := 26) (d := some 51) (v := ?_) rfl (by kernel_rfl) (by kernel_rfl) (by kernel_rfl) (by rfl) ?_ hS rfl ?_
  rotate_left
  · intro w' hw
    have h := aM w' hw
    go_simp
    try with_reducible rfl
  simp only [Act.put, List.setIfInBounds_toArray, List.set_cons_zero, List.set_cons_succ]
  refine hs_take (i := 27) (d := some 52) (v := .agg q.toArray) rfl (by kernel_rfl) (by kernel_rfl) (by kernel_rfl) (by rfl) (fun w' hw => exec_load rfl rfl (run_loadVar_mid (P := Tryd.prog) w' X 0 33 q _ (range_below hR4 hw hX4) Tryd.underlying33 rfl hiR')) hS rfl ?_
  simp only [Act.put, List.setIfInBounds_toArray, List.set_cons_zero, List.set_cons_succ]
  refine hs_call (i := 28) (d := some 53) rfl (by kernel_rfl) (by rfl) (by go_simp; first | done | exact ⟨rfl, rfl⟩ | with_reducible rfl) rfl ?_
  refine (cgn w10 (hG.below (hB4.trans (hS.mono hB4.size)))).mono ?_
  rintro e' w11 ⟨rfl, hw11⟩
  have hS : (Below w6.heap.size w6) w11 := hS.trans (hw11.mono hS.size)
  refine ⟨_, rfl, hS, ?_⟩
  simp only [Act.put, List.setIfInBounds_toArray, List.set_cons_zero, List.set_cons_succ]
  refine hs_take (i := 29) (d := some 54) (v := .bool true) rfl (by kernel_rfl) (by kernel_rfl) (by kernel_rfl) (by rfl) (fun w' hw => by go_simp) hS rfl ?_
  simp only [Act.put, List.setIfInBounds_toArray, List.set_cons_zero, List.set_cons_succ]
  refine hs_take (i := 30) (d := some 55) (v := ?_) rfl (by kernel_rfl) (by kernel_rfl) (by kernel_rfl) (by rfl) ?_ hS rfl ?_
  rotate_left
  · intro w' hw
    go_simp
    try with_reducible rfl
  simp only [Act.put, List.setIfInBounds_toArray, List.set_cons_zero, List.set_cons_succ]
  refine hs_take (i := 31) (d := some 56) (v := ?_) rfl (by kernel_rfl) (by kernel_rfl) (by kernel_rfl) (by rfl) ?_ hS rfl ?_
  rotate_left
  · intro w' hw
    go_simp
    try with_reducible rfl
  simp only [Act.put, List.setIfInBounds_toArray, List.set_cons_zero, List.set_cons_succ]
  refine hs_take (i := 32) (d := some 57) (v := ?_) rfl (by kernel_rfl) (by kernel_rfl) (by kernel_rfl) (by rfl) ?_ hS rfl ?_
  rotate_left
  · intro w' hw
    go_simp
    try with_reducible rfl
  simp only [Act.put, List.setIfInBounds_toArray, List.set_cons_zero, List.set_cons_succ]
  refine hs_take (i := 33) (d := some 58) (v := ?_) rfl (by kernel_rfl) (by kernel_rfl) (by kernel_rfl) (by rfl) ?_ hS rfl ?_
  rotate_left
  · intro w' hw
    go_simp
    try with_reducible rfl
  simp only [Act.put, List.setIfInBounds_toArray, List.set_cons_zero, List.set_cons_succ]
  refine hs_take (i := 34) (d := some 59) (v := ?_) rfl (by kernel_rfl) (by kernel_rfl) (by kernel_rfl) (by rfl) ?_ hS rfl ?_
  rotate_left
  · intro w' hw
    have h := qc w' hw
    go_simp
    try with_reducible rfl
  simp only [Act.put, List.setIfInBounds_toArray, List.set_cons_zero, List.set_cons_succ]
  refine hs_take (i := 35) (d := some 60) (v := ?_) rfl (by kernel_rfl) (by kernel_rfl) (by kernel_rfl) (by rfl) ?_ hS rfl ?_
  rotate_left
  · intro w' hw
    go_simp
    try with_reducible rfl
  simp only [Act.put, List.setIfInBounds_toArray, List.set_cons_zero, List.set_cons_succ]
  refine hs_take (i := 36) (d := some 61) (v := ?_) rfl (by kernel_rfl) (by kernel_rfl) (by kernel_rfl) (by rfl) ?_ hS rfl ?_
  rotate_left
  · intro w' hw
    have h := qn w' hw
    go_simp
    try with_reducible rfl
  simp only [Act.put, List.setIfInBounds_toArray, List.set_cons_zero, List.set_cons_succ]
  refine hs_take (i := 37) (d := some 62) (v := ?_) rfl (by kernel_rfl) (by kernel_rfl) (by kernel_rfl) (by rfl) ?_ hS rfl ?_
  rotate_left
  · intro w' hw
    go_simp
    try with_reducible rfl
  simp only [Act.put, List.setIfInBounds_toArray, List.set_cons_zero, List.set_cons_succ]
  refine hs_call (i := 38) (d := some 63) rfl (by kernel_rfl) (by rfl) (by go_simp; first | done | exact ⟨rfl, rfl⟩ | with_reducible rfl) rfl ?_
  refine (crb w11).mono ?_
  rintro e' w12 ⟨rfl, hw12⟩
  have hS : (Below w6.heap.size w6) w12 := hS.trans (hw12.mono hS.size)
  refine ⟨_, rfl, hS, ?_⟩
  simp only [Act.put, List.setIfInBounds_toArray, List.set_cons_zero, List.set_cons_succ]
  refine hs_take (i := 39) (d := some 64) (v := .bool true) rfl (by kernel_rfl) (by kernel_rfl) (by kernel_rfl) (by rfl) (fun w' hw => by go_simp) hS rfl ?_
  simp only [Act.put, List.setIfInBounds_toArray, List.set_cons_zero, List.set_cons_succ]
  refine hs_take (i := 40) (d := some 65) (v := ?_) rfl (by kernel_rfl) (by kernel_rfl) (by kernel_rfl) (by rfl) ?_ hS rfl ?_
  rotate_left
  · intro w' hw
    go_simp
    try with_reducible rfl
  simp only [Act.put, List.setIfInBounds_toArray, List.set_cons_zero, List.set_cons_succ]
  refine hs_take (i := 41) (d := some 66) (v := ?_) rfl (by kernel_rfl) (by kernel_rfl) (by kernel_rfl) (by rfl) ?_ hS rfl ?_
  rotate_left
  · intro w' hw
    go_simp
    try with_reducible rfl
  simp only [Act.put, List.setIfInBounds_toArray, List.set_cons_zero, List.set_cons_succ]
  refine hs_take (i := 42) (d := some 67) (v := ?_) rfl (by kernel_rfl) (by kernel_rfl) (by kernel_rfl) (by rfl) ?_ hS rfl ?_
  rotate_left
  · intro w' hw
    go_simp
    try with_reducible rfl
  simp only [Act.put, List.setIfInBounds_toArray, List.set_cons_zero, List.set_cons_succ]
  refine hs_take (i := 43) (d := some 68) (v := .bool true) rfl (by kernel_rfl) (by kernel_rfl) (by kernel_rfl) (by rfl) (fun w' hw => by go_simp) hS rfl ?_
  simp only [Act.put, List.setIfInBounds_toArray, List.set_cons_zero, List.set_cons_succ]
  refine hs_take (i := 44) (d := some 69) (v := ?_) rfl (by kernel_rfl) (by kernel_rfl) (by kernel_rfl) (by rfl) ?_ hS rfl ?_
  rotate_left
  · intro w' hw
    go_simp
    try with_reducible rfl
  simp only [Act.put, List.setIfInBounds_toArray, List.set_cons_zero, List.set_cons_succ]
  refine hs_take (i := 45) (d := some 70) (v := ?_) rfl (by kernel_rfl) (by kernel_rfl) (by kernel_rfl) (by rfl) ?_ hS rfl ?_
  rotate_left
  · intro w' hw
    go_simp
    try with_reducible rfl
  simp only [Act.put, List.setIfInBounds_toArray, List.set_cons_zero, List.set_cons_succ]
  refine hs_take (i := 46) (d := some 71) (v := ?_) rfl (by kernel_rfl) (by kernel_rfl) (by kernel_rfl) (by rfl) ?_ hS rfl ?_
  rotate_left
  · intro w' hw
    go_simp
    try with_reducible rfl
  simp only [Act.put, List.setIfInBounds_toArray, List.set_cons_zero, List.set_cons_succ]
  refine hs_take (i := 47) (d := some 72) (v := .bool true) rfl (by kernel_rfl) (by kernel_rfl) (by kernel_rfl) (by rfl) (fun w' hw => by go_simp) hS rfl ?_
  simp only [Act.put, List.setIfInBounds_toArray, List.set_cons_zero, List.set_cons_succ]
  refine hs_take (i := 48) (d := some 73) (v := ?_) rfl (by kernel_rfl) (by kernel_rfl) (by kernel_rfl) (by rfl) ?_ hS rfl ?_
  rotate_left
  · intro w' hw
    go_simp
    try with_reducible rfl
  simp only [Act.put, List.setIfInBounds_toArray, List.set_cons_zero, List.set_cons_succ]
  refine hs_skip (i := 49) (d := some 74) rfl (by kernel_rfl) (by kernel_rfl) (by kernel_rfl) (by rfl) hS rfl ?_
  simp only [Act.put, List.setIfInBounds_toArray, List.set_cons_zero, List.set_cons_succ]
  refine hs_skip (i := 50) (d := some 75) rfl (by kernel_rfl) (by kernel_rfl) (by kernel_rfl) (by rfl) hS rfl ?_
  simp only [Act.put, List.setIfInBounds_toArray, List.set_cons_zero, List.set_cons_succ]
  refine hs_skip (i := 51) (d := some 76) rfl (by kernel_rfl) (by kernel_rfl) (by kernel_rfl) (by rfl) hS rfl ?_
  simp only [Act.put, List.setIfInBounds_toArray, List.set_cons_zero, List.set_cons_succ]
  refine hs_take (i := 52) (d := some 77) (v := ?_) rfl (by kernel_rfl) (by kernel_rfl) (by kernel_rfl) (by rfl) ?_ hS rfl ?_
  rotate_left
  · intro w' hw
    go_simp
    try with_reducible rfl
  simp only [Act.put, List.setIfInBounds_toArray, List.set_cons_zero, List.set_cons_succ]
  refine hs_take (i := 53) (d := some 78) (v := ?_) rfl (by kernel_rfl) (by kernel_rfl) (by kernel_rfl) (by rfl) ?_ hS rfl ?_
  rotate_left
  · intro w' hw
    go_simp
    try with_reducible rfl
  simp only [Act.put, List.setIfInBounds_toArray, List.set_cons_zero, List.set_cons_succ]
  refine hs_take (i := 54) (d := some 79) (v := ?_) rfl (by kernel_rfl) (by kernel_rfl) (by kernel_rfl) (by rfl) ?_ hS rfl ?_
  rotate_left
  · intro w' hw
    go_simp
    try with_reducible rfl
  simp only [Act.put, List.setIfInBounds_toArray, List.set_cons_zero, List.set_cons_succ]
  refine hs_call (i := 55) (d := some 80) rfl (by kernel_rfl) (by rfl) (by go_simp; first | done | exact ⟨rfl, rfl⟩ | with_reducible rfl) rfl ?_
  refine (lives6_any w12 (hG.below (hB4.trans (hS.mono hB4.size)))).mono ?_
  rintro e' w13 ⟨rfl, hw13⟩
  have hS : (Below w6.heap.size w6) w13 := hS.trans (hw13.mono hS.size)
  refine ⟨_, rfl, hS, ?_⟩
  simp only [Act.put, List.setIfInBounds_toArray, List.set_cons_zero, List.set_cons_succ]
  refine hs_take (i := 56) (d := some 81) (v := ?_) rfl (by kernel_rfl) (by kernel_rfl) (by kernel_rfl) (by rfl) ?_ hS rfl ?_
  rotate_left
  · intro w' hw
    go_simp
    try with_reducible rfl
  simp only [Act.put, List.setIfInBounds_toArray, List.set_cons_zero, List.set_cons_succ]
  refine hs_take (i := 57) (d := some 6) (v := ?_) rfl (by kernel_rfl) (by kernel_rfl) (by kernel_rfl) (by rfl) ?_ hS rfl ?_
  rotate_left
  · intro w' hw
    go_simp
    try with_reducible rfl
  simp only [Act.put, List.setIfInBounds_toArray, List.set_cons_zero, List.set_cons_succ]
  refine hs_done (by kernel_rfl) ?_
  have hfin := hB4.trans (hS.mono hB4.size)
  go_wp2_with fail
  go_ret
  exact ⟨rfl, hfin⟩
set_option maxRecDepth 100000 in
set_option maxHeartbeats 4000000 in
theorem checks_ge (N M c0 n0 : Int) (s0 : ByteArray) (c n : Int) (s : ByteArray) (t : List Int) (k : Int) (w : World) (hG : Glob w) (ht : t.length = 16) (hc : c ≤ 9223372036854775807) (hn : n ≤ 9223372036854775807) (hk : (Lit.int .i64 k).wf = true) (hb : s.size ≤ 2000) (hk1 : ¬ k < 1) :
   Calls Tryd.prog 4 #[.agg (askL N M c0 n0 s0).toArray, .agg (reqL c n s t).toArray, .int .i64 k] w fun e w' => e = .returned (.bool true) ∧ Below w.heap.size w w' := by
  have haL := fun (w0 : World) (b0 : Nat) h0 => @askL_at w0 b0 N M c0 n0 s0 h0
  have hq0 := fun (w0 : World) (b0 : Nat) h0 => @reqL_0 w0 b0 c n s t h0
  have cbk := fun w0 hG0 => bucket_any c n k w0 hG0 hc hn hk
  have crb := fun w0 => refBucket_any c n k w0 hc hn hk
  obtain ⟨hbk0, hbk1⟩ := bucketV_range c n k
  obtain ⟨bk, hbk⟩ : ∃ bk, Hid (bucketV c n k = bk) := ⟨_, hide rfl⟩
  simp only [hbk.out] at cbk crb
  rw [hbk.out] at hbk0 hbk1
  have cbd := fun w0 => body_any c n s t w0 ht hc hn (by omega)
  have crd := fun w0 => refBody_any c n s t w0 hc hn (by omega)
  obtain ⟨bd, hbd⟩ : ∃ bd, Hid (strOf (bodyL c n s) = bd) := ⟨_, hide rfl⟩
  simp only [hbd.out] at cbd crd
  have cgd := fun p w0 h0 hG0 => good_any p (keysOf seedR 72) N M c n s t w0 h0 hG0 ht hc
  have crg := fun w0 => refGood_any N M c n s t w0 ht
  obtain ⟨gv, hgv⟩ : ∃ gv, Hid (goodV (keysOf seedR 72) N M c n s t = gv) := ⟨_, hide rfl⟩
  simp only [hgv.out] at cgd crg
  have cgn := fun w0 hG0 => good_any none [] N M c n s t w0 (.inl ⟨rfl, rfl⟩) hG0 ht hc
  have hgn : goodV [] N M c n s t = 1 := rfl
  simp only [hgn] at cgn
  clear hgn
  have hiR' : (Tryd.prog.info? 33).map (·.size) = some (reqL c n s t).length := by rw [reqL_length _ _ _ _ ht]; exact iszR
  have hiK : (Tryd.prog.info? 27).map (·.size) = some rkL.toArray.size := iszK
  have hiK' : (Tryd.prog.info? 27).map (·.size) = some rkL.length := iszK
  have hoK : (rkL.toArray.all fun x => x.oneCell') = true := by simp [rkL, Value.oneCell']
  obtain ⟨A, hA⟩ : ∃ A, Hid (askL N M c0 n0 s0 = A) := ⟨_, hide rfl⟩
  obtain ⟨q, hq⟩ : ∃ q, Hid (reqL c n s t = q) := ⟨_, hide rfl⟩
  rw [hA.out, hq.out]
  simp only [hA.out] at haL
  simp only [hq.out] at hq0
  simp only [hq.out] at cbd crd cgd crg cgn
  rw [hq.out] at hiR'
  obtain ⟨hB0, hA0, hR0, hz0⟩ := ask_req w A q
  go_enter Tryd.func4, Tryd.ntmps4
  go_upto_region 1 with fail
  go_name_world w1 hw1
  rw [hw1] at hB0 hA0 hR0 hz0
  clear hw1
  obtain ⟨V, hV⟩ : ∃ V, Hid (w.heap.size = V) := ⟨_, hide rfl⟩
  obtain ⟨X, hX⟩ : ∃ X, Hid (w.heap.size + 1 = X) := ⟨_, hide rfl⟩
  have hVX : V < X := by rw [← hV.out, ← hX.out]; omega
  rw [hX.out] at hR0 hz0 ⊢
  rw [hV.out] at hA0 ⊢
  obtain ⟨q0, q1, q2⟩ := hq0 w1 X hR0
  try simp only [Act.put]
  have hbk2 : bk < k := by omega
  clear hbk1
  have hb' : ¬ (2000 : Int) < s.size := by omega
  go_wp2_with fail
  refine (keys6_any w1 (hG.below hB0)).mono ?_
  rintro e w2 ⟨p, rfl, hp, hk2, hw2⟩
  have hB2 := hB0.trans (hw2.mono hB0.size)
  have hA2 := range_below hA0 hw2 (by omega)
  have hR2 := range_below hR0 hw2 hz0
  have hz2 := Nat.lt_of_lt_of_le hz0 hw2.size
  clear hB0 hA0 hR0 hz0 hw2 q0 q1 q2 hb'
  have F := fresh_store w2 #[.string ⟨#[]⟩, .int .i64 0] 27 rkL rfl
  have hN2 : (w2.alloc (.cells #[.string ⟨#[]⟩, .int .i64 0] 27)).there w2.heap.size 0 rkL.toArray.size := there_new w2 #[.string ⟨#[]⟩, .int .i64 0] 27
  go_upto_region 4 with (refine wpList_store_mid (op := ⟨none, .store 27 (.tmp 8) (.tmp 18), _, _, _, none⟩) rfl 27 _ _ rfl _ _ rkL.toArray rfl rfl hN2 hiK hoK ?_)
  go_name_world w3 hw3
  rw [show (w2.alloc (.cells #[.string ⟨#[]⟩, .int .i64 0] 27)).setCells w2.heap.size 0 rkL = w3 from hw3] at F
  clear hw3 hN2 hiK hoK
  obtain ⟨hK3, hF3, hz3, _⟩ := F
  have hB3 := hB2.trans (hF3.mono hB2.size)
  have hA3 := range_below hA2 hF3 (by omega)
  have hR3 := range_below hR2 hF3 hz2
  have hk3 := hk2.below hF3
  obtain ⟨Y, hY⟩ : ∃ Y, Hid (w2.heap.size = Y) := ⟨_, hide rfl⟩
  have hXY : X < Y := by rw [← hY.out]; exact hz2
  rw [hY.out] at hK3 hz3 ⊢
  have hY3' : Y < w3.heap.size := by omega
  clear hB2 hA2 hR2 hk2 hF3 hz2 hz3
  obtain ⟨q0, q1, q2⟩ := hq0 w3 X hR3
  try simp only [Act.put]
  go_wp2_with fail
  refine (cbk w3 (hG.below hB3)).mono ?_
  rintro e w4 ⟨rfl, hw4⟩
  clear q0 q1 q2 cbk
  have hB4 := (hB3.trans (hw4.mono hB3.size)).drew
  have hA4 : w4.drew.rangeAt V 0 A := (World.rangeAt_drew _ _ _ _).2 (range_below hA3 hw4 (by omega))
  have hR4 : w4.drew.rangeAt X 0 q := (World.rangeAt_drew _ _ _ _).2 (range_below hR3 hw4 (by omega))
  have hK4 : w4.drew.rangeAt Y 0 rkL := (World.rangeAt_drew _ _ _ _).2 (range_below hK3 hw4 (by omega))
  have hk4 := (hk3.below hw4).below (Below.refl w4.heap.size w4).drew
  have hY4' : Y < w4.drew.heap.size := Nat.lt_of_lt_of_le hY3' hw4.size
  clear hB3 hA3 hR3 hK3 hk3 hY3' hw4
  go_wp2_with fail
  obtain ⟨w6, hw6⟩ : ∃ w6, w4.drew = w6 := ⟨_, rfl⟩
  rw [hw6] at hB4 hA4 hR4 hK4 hk4 hY4'
  refine hs_begin (S := (Below w6.heap.size w6)) 58 rfl (by kernel_rfl) ?_
  rw [hw6]
  clear hw6
  have hS : (Below w6.heap.size w6) w6 := Below.refl _ _
  have hX4 : X < w6.heap.size := by omega
  have hV4 : V < w6.heap.size := by omega
  have aN : ∀ w', Below w6.heap.size w6 w' → w'.cell? ⟨V, 0, none⟩ = some (.int .i64 N) := fun w' hw' => (haL w' V (range_below hA4 hw' hV4)).1
  have aM : ∀ w', Below w6.heap.size w6 w' → w'.cell? ⟨V, 1, none⟩ = some (.int .i64 M) := fun w' hw' => (haL w' V (range_below hA4 hw' hV4)).2.1
  have qc : ∀ w', Below w6.heap.size w6 w' → w'.cell? ⟨X, 0, none⟩ = some (.int .i64 c) := fun w' hw' => (hq0 w' X (range_below hR4 hw' hX4)).1
  have qn : ∀ w', Below w6.heap.size w6 w' → w'.cell? ⟨X, 1, none⟩ = some (.int .i64 n) := fun w' hw' => (hq0 w' X (range_below hR4 hw' hX4)).2.1
  clear hq0 haL hA4
  refine hs_take (i := 0) (d := some 25) (v := .agg q.toArray) rfl (by kernel_rfl) (by kernel_rfl) (by kernel_rfl) (by rfl) (fun w' hw => exec_load rfl rfl (run_loadVar_mid (P := Tryd.prog) w' X 0 33 q _ (range_below hR4 hw hX4) Tryd.underlying33 rfl hiR')) hS rfl ?_
  simp only [Act.put, List.setIfInBounds_toArray, List.set_cons_zero, List.set_cons_succ]
  refine hs_take (i := 2) (d := some 27) (v := .agg q.toArray) rfl (by kernel_rfl) (by kernel_rfl) (by kernel_rfl) (by rfl) (fun w' hw => exec_load rfl rfl (run_loadVar_mid (P := Tryd.prog) w' X 0 33 q _ (range_below hR4 hw hX4) Tryd.underlying33 rfl hiR')) hS rfl ?_
  simp only [Act.put, List.setIfInBounds_toArray, List.set_cons_zero, List.set_cons_succ]
  refine hs_call (i := 1) (d := some 26) rfl (by kernel_rfl) (by rfl) (by go_simp; first | done | exact ⟨rfl, rfl⟩ | with_reducible rfl) rfl ?_
  refine (cbd w6).mono ?_
  rintro e' w7 ⟨rfl, hw7⟩
  have hS : (Below w6.heap.size w6) w7 := hS.trans (hw7.mono hS.size)
  refine ⟨_, rfl, hS, ?_⟩
  simp only [Act.put, List.setIfInBounds_toArray, List.set_cons_zero, List.set_cons_succ]
  refine hs_call (i := 3) (d := some 28) rfl (by kernel_rfl) (by rfl) (by go_simp; first | done | exact ⟨rfl, rfl⟩ | with_reducible rfl) rfl ?_
  refine (crd w7).mono ?_
  rintro e' w8 ⟨rfl, hw8⟩
  have hS : (Below w6.heap.size w6) w8 := hS.trans (hw8.mono hS.size)
  refine ⟨_, rfl, hS, ?_⟩
  simp only [Act.put, List.setIfInBounds_toArray, List.set_cons_zero, List.set_cons_succ]
  refine hs_take (i := 4) (d := some 29) (v := .bool true) rfl (by kernel_rfl) (by kernel_rfl) (by kernel_rfl) (by rfl) (fun w' hw => by go_simp) hS rfl ?_
  simp only [Act.put, List.setIfInBounds_toArray, List.set_cons_zero, List.set_cons_succ]
  refine hs_take (i := 5) (d := some 30) (v := ?_) rfl (by kernel_rfl) (by kernel_rfl) (by kernel_rfl) (by rfl) ?_ hS rfl ?_
  rotate_left
  · intro w' hw
    go_simp
    try with_reducible rfl
  simp only [Act.put, List.setIfInBounds_toArray, List.set_cons_zero, List.set_cons_succ]
  refine hs_take (i := 6) (d := some 31) (v := ?_) rfl (by kernel_rfl) (by kernel_rfl) (by kernel_rfl) (by rfl) ?_ hS rfl ?_
  rotate_left
  · intro w' hw
    go_simp
    try with_reducible rfl
  simp only [Act.put, List.setIfInBounds_toArray, List.set_cons_zero, List.set_cons_succ]
  refine hs_take (i := 7) (d := some 32) (v := ?_) rfl (by kernel_rfl) (by kernel_rfl) (by kernel_rfl) (by rfl) ?_ hS rfl ?_
  rotate_left
  · intro w' hw
    go_simp
    try with_reducible rfl
  simp only [Act.put, List.setIfInBounds_toArray, List.set_cons_zero, List.set_cons_succ]
  refine hs_take (i := 8) (d := some 33) (v := ?_) rfl (by kernel_rfl) (by kernel_rfl) (by kernel_rfl) (by rfl) ?_ hS rfl ?_
  rotate_left
  · intro w' hw
    have h := aN w' hw
    go_simp
    try with_reducible rfl
  simp only [Act.put, List.setIfInBounds_toArray, List.set_cons_zero, List.set_cons_succ]
  refine hs_take (i := 9) (d := some 34) (v := ?_) rfl (by kernel_rfl) (by kernel_rfl) (by kernel_rfl) (by rfl) ?_ hS rfl ?_
  rotate_left
  · intro w' hw
    go_simp
    try with_reducible rfl
  simp only [Act.put, List.setIfInBounds_toArray, List.set_cons_zero, List.set_cons_succ]
  refine hs_take (i := 10) (d := some 35) (v := ?_) rfl (by kernel_rfl) (by kernel_rfl) (by kernel_rfl) (by rfl) ?_ hS rfl ?_
  rotate_left
  · intro w' hw
    have h := aM w' hw
    go_simp
    try with_reducible rfl
  simp only [Act.put, List.setIfInBounds_toArray, List.set_cons_zero, List.set_cons_succ]
  refine hs_take (i := 11) (d := some 36) (v := .agg q.toArray) rfl (by kernel_rfl) (by kernel_rfl) (by kernel_rfl) (by rfl) (fun w' hw => exec_load rfl rfl (run_loadVar_mid (P := Tryd.prog) w' X 0 33 q _ (range_below hR4 hw hX4) Tryd.underlying33 rfl hiR')) hS rfl ?_
  simp only [Act.put, List.setIfInBounds_toArray, List.set_cons_zero, List.set_cons_succ]
  refine hs_take (i := 13) (d := some 38) (v := .agg rkL.toArray) rfl (by kernel_rfl) (by kernel_rfl) (by kernel_rfl) (by rfl) (fun w' hw => exec_load rfl rfl (run_loadVar_mid (P := Tryd.prog) w' Y 0 27 _ _ (range_below hK4 hw hY4') Tryd.underlying27 rfl hiK')) hS rfl ?_
  simp only [Act.put, List.setIfInBounds_toArray, List.set_cons_zero, List.set_cons_succ]
  refine hs_take (i := 14) (d := some 39) (v := ?_) rfl (by kernel_rfl) (by kernel_rfl) (by kernel_rfl) (by rfl) ?_ hS rfl ?_
  rotate_left
  · intro w' hw
    go_simp
    try with_reducible rfl
  simp only [Act.put, List.setIfInBounds_toArray, List.set_cons_zero, List.set_cons_succ]
  refine hs_take (i := 15) (d := some 40) (v := ?_) rfl (by kernel_rfl) (by kernel_rfl) (by kernel_rfl) (by rfl) ?_ hS rfl ?_
  rotate_left
  · intro w' hw
    have h := aN w' hw
    go_simp
    try with_reducible rfl
  simp only [Act.put, List.setIfInBounds_toArray, List.set_cons_zero, List.set_cons_succ]
  refine hs_take (i := 16) (d := some 41) (v := ?_) rfl (by kernel_rfl) (by kernel_rfl) (by kernel_rfl) (by rfl) ?_ hS rfl ?_
  rotate_left
  · intro w' hw
    go_simp
    try with_reducible rfl
  simp only [Act.put, List.setIfInBounds_toArray, List.set_cons_zero, List.set_cons_succ]
  refine hs_take (i := 17) (d := some 42) (v := ?_) rfl (by kernel_rfl) (by kernel_rfl) (by kernel_rfl) (by rfl) ?_ hS rfl ?_
  rotate_left
  · intro w' hw
    have h := aM w' hw
    go_simp
    try with_reducible rfl
  simp only [Act.put, List.setIfInBounds_toArray, List.set_cons_zero, List.set_cons_succ]
  refine hs_take (i := 18) (d := some 43) (v := .agg q.toArray) rfl (by kernel_rfl) (by kernel_rfl) (by kernel_rfl) (by rfl) (fun w' hw => exec_load rfl rfl (run_loadVar_mid (P := Tryd.prog) w' X 0 33 q _ (range_below hR4 hw hX4) Tryd.underlying33 rfl hiR')) hS rfl ?_
  simp only [Act.put, List.setIfInBounds_toArray, List.set_cons_zero, List.set_cons_succ]
  refine hs_call (i := 12) (d := some 37) rfl (by kernel_rfl) (by rfl) (by go_simp; first | done | exact ⟨rfl, rfl⟩ | with_reducible rfl) rfl ?_
  refine (cgd p w8 (hk4.below hS) (hG.below (hB4.trans (hS.mono hB4.size)))).mono ?_
  rintro e' w9 ⟨rfl, hw9⟩
  have hS : (Below w6.heap.size w6) w9 := hS.trans (hw9.mono hS.size)
  refine ⟨_, rfl, hS, ?_⟩
  simp only [Act.put, List.setIfInBounds_toArray, List.set_cons_zero, List.set_cons_succ]
  refine hs_call (i := 19) (d := some 44) rfl (by kernel_rfl) (by rfl) (by go_simp; first | done | exact ⟨rfl, rfl⟩ | with_reducible rfl) rfl ?_
  refine (crg w9).mono ?_
  rintro e' w10 ⟨rfl, hw10⟩
  have hS : (Below w6.heap.size w6) w10 := hS.trans (hw10.mono hS.size)
  refine ⟨_, rfl, hS, ?_⟩
  simp only [Act.put, List.setIfInBounds_toArray, List.set_cons_zero, List.set_cons_succ]
  refine hs_take (i := 20) (d := some 45) (v := .bool true) rfl (by kernel_rfl) (by kernel_rfl) (by kernel_rfl) (by rfl) (fun w' hw => by go_simp) hS rfl ?_
  simp only [Act.put, List.setIfInBounds_toArray, List.set_cons_zero, List.set_cons_succ]
  refine hs_take (i := 21) (d := some 46) (v := ?_) rfl (by kernel_rfl) (by kernel_rfl) (by kernel_rfl) (by rfl) ?_ hS rfl ?_
  rotate_left
  · intro w' hw
    go_simp
    try with_reducible rfl
  simp only [Act.put, List.setIfInBounds_toArray, List.set_cons_zero, List.set_cons_succ]
  refine hs_take (i := 22) (d := some 47) (v := ?_) rfl (by kernel_rfl) (by kernel_rfl) (by kernel_rfl) (by rfl) ?_ hS rfl ?_
  rotate_left
  · intro w' hw
    go_simp
    try with_reducible rfl
  simp only [Act.put, List.setIfInBounds_toArray, List.set_cons_zero, List.set_cons_succ]
  refine hs_take (i := 23) (d := some 48) (v := ?_) rfl (by kernel_rfl) (by kernel_rfl) (by kernel_rfl) (by rfl) ?_ hS rfl ?_
  rotate_left
  · intro w' hw
    go_simp
    try with_reducible rfl
  simp only [Act.put, List.setIfInBounds_toArray, List.set_cons_zero, List.set_cons_succ]
  refine hs_take (i := 24) (d := some 49) (v := ?_) rfl (by kernel_rfl) (by kernel_rfl) (by kernel_rfl) (by rfl) ?_ hS rfl ?_
  rotate_left
  · intro w' hw
    have h := aN w' hw
    go_simp
    try with_reducible rfl
  simp only [Act.put, List.setIfInBounds_toArray, List.set_cons_zero, List.set_cons_succ]
  refine hs_take (i := 25) (d := some 50) (v := ?_) rfl (by kernel_rfl) (by kernel_rfl) (by kernel_rfl) (by rfl) ?_ hS rfl ?_
  rotate_left
  · intro w' hw
    go_simp
    try with_reducible rfl
  simp only [Act.put, List.setIfInBounds_toArray, List.set_cons_zero, List.set_cons_succ]
  refine hs_take (i := 26) (d := some 51) (v := ?_) rfl (by kernel_rfl) (by kernel_rfl) (by kernel_rfl) (by rfl) ?_ hS rfl ?_
  rotate_left
  · intro w' hw
    have h := aM w' hw
    go_simp
    try with_reducible rfl
  simp only [Act.put, List.setIfInBounds_toArray, List.set_cons_zero, List.set_cons_succ]
  refine hs_take (i := 27) (d := some 52) (v := .agg q.toArray) rfl (by kernel_rfl) (by kernel_rfl) (by kernel_rfl) (by rfl) (fun w' hw => exec_load rfl rfl (run_loadVar_mid (P := Tryd.prog) w' X 0 33 q _ (range_below hR4 hw hX4) Tryd.underlying33 rfl hiR')) hS rfl ?_
  simp only [Act.put, List.setIfInBounds_toArray, List.set_cons_zero, List.set_cons_succ]
  refine hs_call (i := 28) (d := some 53) rfl (by kernel_rfl) (by rfl) (by go_simp; first | done | exact ⟨rfl, rfl⟩ | with_reducible rfl) rfl ?_
  refine (cgn w10 (hG.below (hB4.trans (hS.mono hB4.size)))).mono ?_
  rintro e' w11 ⟨rfl, hw11⟩
  have hS : (Below w6.heap.size w6) w11 := hS.trans (hw11.mono hS.size)
  refine ⟨_, rfl, hS, ?_⟩
  simp only [Act.put, List.setIfInBounds_toArray, List.set_cons_zero, List.set_cons_succ]
  refine hs_take (i := 29) (d := some 54) (v := .bool true) rfl (by kernel_rfl) (by kernel_rfl) (by kernel_rfl) (by rfl) (fun w' hw => by go_simp) hS rfl ?_
  simp only [Act.put, List.setIfInBounds_toArray, List.set_cons_zero, List.set_cons_succ]
  refine hs_take (i := 30) (d := some 55) (v := ?_) rfl (by kernel_rfl) (by kernel_rfl) (by kernel_rfl) (by rfl) ?_ hS rfl ?_
  rotate_left
  · intro w' hw
    go_simp
    try with_reducible rfl
  simp only [Act.put, List.setIfInBounds_toArray, List.set_cons_zero, List.set_cons_succ]
  refine hs_take (i := 31) (d := some 56) (v := ?_) rfl (by kernel_rfl) (by kernel_rfl) (by kernel_rfl) (by rfl) ?_ hS rfl ?_
  rotate_left
  · intro w' hw
    go_simp
    try with_reducible rfl
  simp only [Act.put, List.setIfInBounds_toArray, List.set_cons_zero, List.set_cons_succ]
  refine hs_take (i := 32) (d := some 57) (v := ?_) rfl (by kernel_rfl) (by kernel_rfl) (by kernel_rfl) (by rfl) ?_ hS rfl ?_
  rotate_left
  · intro w' hw
    go_simp
    try with_reducible rfl
  simp only [Act.put, List.setIfInBounds_toArray, List.set_cons_zero, List.set_cons_succ]
  refine hs_take (i := 33) (d := some 58) (v := ?_) rfl (by kernel_rfl) (by kernel_rfl) (by kernel_rfl) (by rfl) ?_ hS rfl ?_
  rotate_left
  · intro w' hw
    go_simp
    try with_reducible rfl
  simp only [Act.put, List.setIfInBounds_toArray, List.set_cons_zero, List.set_cons_succ]
  refine hs_take (i := 34) (d := some 59) (v := ?_) rfl (by kernel_rfl) (by kernel_rfl) (by kernel_rfl) (by rfl) ?_ hS rfl ?_
  rotate_left
  · intro w' hw
    have h := qc w' hw
    go_simp
    try with_reducible rfl
  simp only [Act.put, List.setIfInBounds_toArray, List.set_cons_zero, List.set_cons_succ]
  refine hs_take (i := 35) (d := some 60) (v := ?_) rfl (by kernel_rfl) (by kernel_rfl) (by kernel_rfl) (by rfl) ?_ hS rfl ?_
  rotate_left
  · intro w' hw
    go_simp
    try with_reducible rfl
  simp only [Act.put, List.setIfInBounds_toArray, List.set_cons_zero, List.set_cons_succ]
  refine hs_take (i := 36) (d := some 61) (v := ?_) rfl (by kernel_rfl) (by kernel_rfl) (by kernel_rfl) (by rfl) ?_ hS rfl ?_
  rotate_left
  · intro w' hw
    have h := qn w' hw
    go_simp
    try with_reducible rfl
  simp only [Act.put, List.setIfInBounds_toArray, List.set_cons_zero, List.set_cons_succ]
  refine hs_take (i := 37) (d := some 62) (v := ?_) rfl (by kernel_rfl) (by kernel_rfl) (by kernel_rfl) (by rfl) ?_ hS rfl ?_
  rotate_left
  · intro w' hw
    go_simp
    try with_reducible rfl
  simp only [Act.put, List.setIfInBounds_toArray, List.set_cons_zero, List.set_cons_succ]
  refine hs_call (i := 38) (d := some 63) rfl (by kernel_rfl) (by rfl) (by go_simp; first | done | exact ⟨rfl, rfl⟩ | with_reducible rfl) rfl ?_
  refine (crb w11).mono ?_
  rintro e' w12 ⟨rfl, hw12⟩
  have hS : (Below w6.heap.size w6) w12 := hS.trans (hw12.mono hS.size)
  refine ⟨_, rfl, hS, ?_⟩
  simp only [Act.put, List.setIfInBounds_toArray, List.set_cons_zero, List.set_cons_succ]
  refine hs_take (i := 39) (d := some 64) (v := .bool true) rfl (by kernel_rfl) (by kernel_rfl) (by kernel_rfl) (by rfl) (fun w' hw => by go_simp) hS rfl ?_
  simp only [Act.put, List.setIfInBounds_toArray, List.set_cons_zero, List.set_cons_succ]
  refine hs_take (i := 40) (d := some 65) (v := ?_) rfl (by kernel_rfl) (by kernel_rfl) (by kernel_rfl) (by rfl) ?_ hS rfl ?_
  rotate_left
  · intro w' hw
    go_simp
    try with_reducible rfl
  simp only [Act.put, List.setIfInBounds_toArray, List.set_cons_zero, List.set_cons_succ]
  refine hs_take (i := 41) (d := some 66) (v := ?_) rfl (by kernel_rfl) (by kernel_rfl) (by kernel_rfl) (by rfl) ?_ hS rfl ?_
  rotate_left
  · intro w' hw
    go_simp
    try with_reducible rfl
  simp only [Act.put, List.setIfInBounds_toArray, List.set_cons_zero, List.set_cons_succ]
  refine hs_take (i := 42) (d := some 67) (v := ?_) rfl (by kernel_rfl) (by kernel_rfl) (by kernel_rfl) (by rfl) ?_ hS rfl ?_
  rotate_left
  · intro w' hw
    go_simp
    try with_reducible rfl
  simp only [Act.put, List.setIfInBounds_toArray, List.set_cons_zero, List.set_cons_succ]
  refine hs_take (i := 43) (d := some 68) (v := .bool true) rfl (by kernel_rfl) (by kernel_rfl) (by kernel_rfl) (by rfl) (fun w' hw => by go_simp) hS rfl ?_
  simp only [Act.put, List.setIfInBounds_toArray, List.set_cons_zero, List.set_cons_succ]
  refine hs_take (i := 44) (d := some 69) (v := ?_) rfl (by kernel_rfl) (by kernel_rfl) (by kernel_rfl) (by rfl) ?_ hS rfl ?_
  rotate_left
  · intro w' hw
    go_simp
    try with_reducible rfl
  simp only [Act.put, List.setIfInBounds_toArray, List.set_cons_zero, List.set_cons_succ]
  refine hs_take (i := 45) (d := some 70) (v := ?_) rfl (by kernel_rfl) (by kernel_rfl) (by kernel_rfl) (by rfl) ?_ hS rfl ?_
  rotate_left
  · intro w' hw
    go_simp
    try with_reducible rfl
  simp only [Act.put, List.setIfInBounds_toArray, List.set_cons_zero, List.set_cons_succ]
  refine hs_take (i := 46) (d := some 71) (v := ?_) rfl (by kernel_rfl) (by kernel_rfl) (by kernel_rfl) (by rfl) ?_ hS rfl ?_
  rotate_left
  · intro w' hw
    go_simp
    try with_reducible rfl
  simp only [Act.put, List.setIfInBounds_toArray, List.set_cons_zero, List.set_cons_succ]
  refine hs_take (i := 47) (d := some 72) (v := .bool false) rfl (by kernel_rfl) (by kernel_rfl) (by kernel_rfl) (by rfl) (fun w' hw => by go_simp) hS rfl ?_
  simp only [Act.put, List.setIfInBounds_toArray, List.set_cons_zero, List.set_cons_succ]
  refine hs_take (i := 48) (d := some 73) (v := ?_) rfl (by kernel_rfl) (by kernel_rfl) (by kernel_rfl) (by rfl) ?_ hS rfl ?_
  rotate_left
  · intro w' hw
    go_simp
    try with_reducible rfl
  simp only [Act.put, List.setIfInBounds_toArray, List.set_cons_zero, List.set_cons_succ]
  refine hs_take (i := 49) (d := some 74) (v := ?_) rfl (by kernel_rfl) (by kernel_rfl) (by kernel_rfl) (by rfl) ?_ hS rfl ?_
  rotate_left
  · intro w' hw
    go_simp
    try with_reducible rfl
  simp only [Act.put, List.setIfInBounds_toArray, List.set_cons_zero, List.set_cons_succ]
  refine hs_take (i := 50) (d := some 75) (v := ?_) rfl (by kernel_rfl) (by kernel_rfl) (by kernel_rfl) (by rfl) ?_ hS rfl ?_
  rotate_left
  · intro w' hw
    go_simp
    try with_reducible rfl
  simp only [Act.put, List.setIfInBounds_toArray, List.set_cons_zero, List.set_cons_succ]
  refine hs_take (i := 51) (d := some 76) (v := .bool true) rfl (by kernel_rfl) (by kernel_rfl) (by kernel_rfl) (by rfl) (fun w' hw => by go_simp) hS rfl ?_
  simp only [Act.put, List.setIfInBounds_toArray, List.set_cons_zero, List.set_cons_succ]
  refine hs_take (i := 52) (d := some 77) (v := ?_) rfl (by kernel_rfl) (by kernel_rfl) (by kernel_rfl) (by rfl) ?_ hS rfl ?_
  rotate_left
  · intro w' hw
    go_simp
    try with_reducible rfl
  simp only [Act.put, List.setIfInBounds_toArray, List.set_cons_zero, List.set_cons_succ]
  refine hs_take (i := 53) (d := some 78) (v := ?_) rfl (by kernel_rfl) (by kernel_rfl) (by kernel_rfl) (by rfl) ?_ hS rfl ?_
  rotate_left
  · intro w' hw
    go_simp
    try with_reducible rfl
  simp only [Act.put, List.setIfInBounds_toArray, List.set_cons_zero, List.set_cons_succ]
  refine hs_take (i := 54) (d := some 79) (v := ?_) rfl (by kernel_rfl) (by kernel_rfl) (by kernel_rfl) (by rfl) ?_ hS rfl ?_
  rotate_left
  · intro w' hw
    go_simp
    try with_reducible rfl
  simp only [Act.put, List.setIfInBounds_toArray, List.set_cons_zero, List.set_cons_succ]
  refine hs_call (i := 55) (d := some 80) rfl (by kernel_rfl) (by rfl) (by go_simp; first | done | exact ⟨rfl, rfl⟩ | with_reducible rfl) rfl ?_
  refine (lives6_any w12 (hG.below (hB4.trans (hS.mono hB4.size)))).mono ?_
  rintro e' w13 ⟨rfl, hw13⟩
  have hS : (Below w6.heap.size w6) w13 := hS.trans (hw13.mono hS.size)
  refine ⟨_, rfl, hS, ?_⟩
  simp only [Act.put, List.setIfInBounds_toArray, List.set_cons_zero, List.set_cons_succ]
  refine hs_take (i := 56) (d := some 81) (v := ?_) rfl (by kernel_rfl) (by kernel_rfl) (by kernel_rfl) (by rfl) ?_ hS rfl ?_
  rotate_left
  · intro w' hw
    go_simp
    try with_reducible rfl
  simp only [Act.put, List.setIfInBounds_toArray, List.set_cons_zero, List.set_cons_succ]
  refine hs_take (i := 57) (d := some 6) (v := ?_) rfl (by kernel_rfl) (by kernel_rfl) (by kernel_rfl) (by rfl) ?_ hS rfl ?_
  rotate_left
  · intro w' hw
    go_simp
    try with_reducible rfl
  simp only [Act.put, List.setIfInBounds_toArray, List.set_cons_zero, List.set_cons_succ]
  refine hs_done (by kernel_rfl) ?_
  have hfin := hB4.trans (hS.mono hB4.size)
  go_wp2_with fail
  go_ret
  exact ⟨rfl, hfin⟩
theorem checks_walk (N M c0 n0 : Int) (s0 : ByteArray) (c n : Int) (s : ByteArray) (t : List Int) (k : Int) (w : World) (hG : Glob w) (ht : t.length = 16) (hc : c ≤ 9223372036854775807) (hn : n ≤ 9223372036854775807) (hk : (Lit.int .i64 k).wf = true) :
   Calls Tryd.prog 4 #[.agg (askL N M c0 n0 s0).toArray, .agg (reqL c n s t).toArray, .int .i64 k] w fun e w' => e = .returned (.bool true) ∧ Below w.heap.size w w' := by
  by_cases hb : s.size ≤ 2000
  · by_cases hk1 : k < 1
    · exact checks_lt N M c0 n0 s0 c n s t k w hG ht hc hn hk hb hk1
    · exact checks_ge N M c0 n0 s0 c n s t k w hG ht hc hn hk hb hk1
  · exact checks_big N M c0 n0 s0 c n s t k w hG (by omega)
end Go.Proofs.YtbfhpgneaklgoabDoor
