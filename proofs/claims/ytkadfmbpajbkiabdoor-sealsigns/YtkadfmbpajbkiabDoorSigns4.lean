/- the law of keys, tags and checks: the walk -/
import Derived.Test.YtkadfmbpajbkiabDoorRKeys
import Derived.Test.YtkadfmbpajbkiabDoorLives4
namespace Go.Proofs.YtkadfmbpajbkiabDoor
open Go.RowKit
open Sha Tal
set_option maxRecDepth 20000 in
set_option maxHeartbeats 4000000 in
theorem signs_yes (seed : ByteArray) (n : Nat) (id : Int) (body : ByteArray) (t : List Int) (w : World) (hG : Glob w) (ht : t.length = 16) (hn1 : 1 ≤ n) (hn2 : n ≤ 4096) (l0 : seed.size ≤ 64) (l1 : body.size ≤ 2000) :
   Calls Tryd.prog 3 #[.string seed, .int .i64 (n : Int), .int .i64 id, .string body, .agg (v8 t).toArray] w fun e w' => e = .returned (.bool true) ∧ Below w.heap.size w w' := by
  have t0 : ¬ (2000 : Int) < seed.size := by omega
  have t1 : ¬ (2000 : Int) < body.size := by omega
  have HR0 := hide (box_range w t 23)
  have hB0 : Below w.heap.size w (w.alloc (.cells (v8 t).toArray 23)) := (Below.refl _ _).alloc (Nat.le_refl _) _
  have cd := derive_yes seed n _ (hG.below hB0) hn1 hn2 l0
  have crd := fun w => refDerive_yes seed (n : Int) w (by omega) (by omega) l0
  have hsl := signOf_length (keysOf seed n) id body
  have cs := fun p w (hG : Glob w) (h : KeysAt w p (keysOf seed n)) => ksign_any p (keysOf seed n) id body w hG h (Or.inr (by omega))
  have cc := fun p w (hG : Glob w) (h : KeysAt w p (keysOf seed n)) => kcheck_any p (keysOf seed n) id body t w hG h (Or.inr (by omega)) ht
  have crs := fun w => refSign_any seed (n : Int) id body w (by omega) (by omega) (by omega)
  have crc := fun w => refCheck_any seed (n : Int) id body t w (by omega) (by omega) (by omega) ht
  have hkl : (keysOf seed n).length = n := keysOf_length _ _
  simp only [← sign_same seed n hn1] at crs crc
  obtain ⟨r, hr⟩ : ∃ r, Hid ((signOf (keysOf seed n) id body).1 = r) := ⟨_, hide rfl⟩
  obtain ⟨x, hx⟩ : ∃ x, Hid ((signOf (keysOf seed n) id body).2 = x) := ⟨_, hide rfl⟩
  obtain ⟨bc, hbc⟩ : ∃ bc, Hid (checkOf (signOf (keysOf seed n) id body) t = bc) := ⟨_, hide rfl⟩
  simp only [hr.out, hx.out] at cs crs
  simp only [hbc.out] at cc crc
  rw [hr.out] at hsl
  clear hr hx hbc
  obtain ⟨ct, hct⟩ : ∃ ct, Hid (v8 t = ct) := ⟨_, hide rfl⟩
  have hcl : ct.length = 16 := by rw [← hct.out, v8_length, ht]
  rw [hct.out] at HR0 hB0 cd ⊢
  simp only [hct.out] at cc crc
  generalize keysOf seed n = ds at *
  go_enter Tryd.func3, Tryd.ntmps3
  go_wp2_with fail
  refine cd.mono ?_
  rintro e w1 ⟨p, rfl, hpn, hk1, hw1⟩
  clear cd
  have hB1 := hB0.trans (hw1.mono hB0.size)
  have hR1 := range_below HR0.out hw1 (by simp)
  have hs1 := hw1.size
  simp only [World.size_alloc] at hs1
  clear HR0 hw1
  go_wp2_with fail
  refine (crd _).mono ?_
  rintro e w2 ⟨rfl, hw2⟩
  clear crd
  obtain ⟨P, rfl⟩ : ∃ P, p = some P := by
    cases p with
    | none => exact absurd rfl hpn
    | some P => exact ⟨P, rfl⟩
  clear hpn
  have hB2 := hB1.trans (hw2.mono hB1.size)
  have hR2 := range_below hR1 hw2 (by omega)
  have hk2 := hk1.below hw2
  have hs2 := hw2.size
  go_upto_region 9 with fail
  go_name_world w3 hw3
  obtain ⟨hw3b, hc3a, hc3b, hs3⟩ : Below w2.heap.size w2 w3 ∧ w3.cell? ⟨w2.heap.size, 0, none⟩ = some (.string seed) ∧ w3.cell? ⟨w2.heap.size, 1, none⟩ = some (.int .i64 (n : Int)) ∧ w2.heap.size < w3.heap.size := by
    have e : w2.alloc (.cells #[.string seed, .int .i64 (n : Int)] 28) = w3 := hw3
    rw [← e]
    have := range_new w2 #[.string seed, .int .i64 (n : Int)] 28
    exact ⟨(Below.refl _ _).alloc (Nat.le_refl _) _, this 0 _ rfl, this 1 _ rfl, by simp⟩
  clear hw3
  have hB3 := hB2.trans (hw3b.mono hB2.size)
  have hR3 := range_below hR2 hw3b (by omega)
  have hk3 := hk2.below hw3b
  have c4 := cs _ w3 (hG.below hB3) hk3
  clear hR1 hR2 hk1 hk2 hw2 cs
  go_wp2_with fail
  refine c4.mono ?_
  rintro e w4 ⟨rfl, hw4⟩
  clear c4
  have hB4 := hB3.trans (hw4.mono hB3.size)
  have hs4 := hw4.size
  have F := fresh_store w4 (Array.replicate 16 (.int .u8 0)) 23 (v8 r) (by rw [v8_length, hsl]; rfl)
  have hN : (w4.alloc (.cells (Array.replicate 16 (.int .u8 0)) 23)).there w4.heap.size 0 (v8 r).toArray.size := by
    have e : (v8 r).toArray.size = 16 := by rw [List.size_toArray, v8_length, hsl]
    rw [e]; exact (new_bytes w4 16 23).2
  have hi := info16 r hsl
  have h1c := all_oneCell_toArray (v8_one r)
  go_upto_region 10 with (refine wpList_store_mid (op := ⟨none, .store 23 (.tmp 14) (.tmp 53), _, _, _, none⟩) rfl 23 _ _ rfl _ _ (v8 r).toArray rfl rfl hN hi h1c ?_)
  go_name_world w5 hw5
  rw [show (w4.alloc (.cells (Array.replicate 16 (.int .u8 0)) 23)).setCells w4.heap.size 0 (v8 r) = w5 from hw5] at F
  obtain ⟨hR5, hB5', hz5', _⟩ := F
  have hz5 : w4.heap.size < w5.heap.size := by omega
  have hW5 := hw4.trans (hB5'.mono hw4.size)
  have hB5 := hB3.trans (hW5.mono hB3.size)
  have hc5a := (hW5.cell (p := ⟨w2.heap.size, 0, none⟩) hs3).trans hc3a
  have hc5b := (hW5.cell (p := ⟨w2.heap.size, 1, none⟩) hs3).trans hc3b
  have hR35 := range_below hR3 hW5 (by omega)
  have hk5 := hk3.below hW5
  clear hz5' hw5 hN hc3a hc3b hR3 hk3 hB5' hw4
  try simp only [Act.put]
  go_wp2_with fail
  refine (crs _).mono ?_
  rintro e w6 ⟨rfl, hw6⟩
  clear crs
  have hs6 := hw6.size
  have F := fresh_store w6 (Array.replicate 16 (.int .u8 0)) 23 (v8 r) (by rw [v8_length, hsl]; rfl)
  have hN : (w6.alloc (.cells (Array.replicate 16 (.int .u8 0)) 23)).there w6.heap.size 0 (v8 r).toArray.size := by
    have e : (v8 r).toArray.size = 16 := by rw [List.size_toArray, v8_length, hsl]
    rw [e]; exact (new_bytes w6 16 23).2
  go_upto_region 11 with (refine wpList_store_mid (op := ⟨none, .store 23 (.tmp 16) (.tmp 60), _, _, _, none⟩) rfl 23 _ _ rfl _ _ (v8 r).toArray rfl rfl hN hi h1c ?_)
  go_name_world w7 hw7
  rw [show (w6.alloc (.cells (Array.replicate 16 (.int .u8 0)) 23)).setCells w6.heap.size 0 (v8 r) = w7 from hw7] at F
  obtain ⟨hR7, hB7', hz7', _⟩ := F
  have hz7 : w6.heap.size < w7.heap.size := by omega
  have hW7 := (hw6.trans (hB7'.mono hw6.size)).drew
  have hB8 := hB5.trans (hW7.mono hB5.size)
  have hc8a := (hW7.cell (p := ⟨w2.heap.size, 0, none⟩) (show w2.heap.size < w5.heap.size by omega)).trans hc5a
  have hc8b := (hW7.cell (p := ⟨w2.heap.size, 1, none⟩) (show w2.heap.size < w5.heap.size by omega)).trans hc5b
  have hR38 := range_below hR35 hW7 (by omega)
  have hR58 := range_below hR5 hW7 hz5
  have hR78 : w7.drew.rangeAt w6.heap.size 0 (v8 r) := (World.rangeAt_drew _ _ _ _).2 hR7
  have hk8 := hk5.below hW7
  have hl16 : (Tryd.prog.info? 23).map (·.size) = some (v8 r).length := by simpa using hi
  have hl16' : (Tryd.prog.info? 23).map (·.size) = some ct.length := by rw [hcl]; exact iszT
  clear hz7' hw7 hN hc5a hc5b hR5 hR35 hk5 hB7' hw6 hi h1c hR7
  try simp only [Act.put]
  have heq := eql16 r r hsl hsl
  have hrr : (r == r) = true := by simp
  rw [hrr] at heq
  clear hrr
  have hs8 : w6.heap.size < w7.drew.heap.size := hz7
  obtain ⟨X, hX⟩ : ∃ X, w.heap.size = X := ⟨_, rfl⟩
  obtain ⟨Y, hY⟩ : ∃ Y, w2.heap.size = Y := ⟨_, rfl⟩
  obtain ⟨Z, hZ⟩ : ∃ Z, w4.heap.size = Z := ⟨_, rfl⟩
  obtain ⟨U, hU⟩ : ∃ U, w6.heap.size = U := ⟨_, rfl⟩
  have HX := hide hX
  rw [hX] at hR38
  rw [hY] at hc8a hc8b
  rw [hZ] at hR58
  rw [hU] at hR78 hs8
  rw [hX, hY, hZ, hU]
  have l1' : X < w7.drew.heap.size := by omega
  have l2' : Y < w7.drew.heap.size := by omega
  have l3' : Z < w7.drew.heap.size := by omega
  clear hX hY hZ hU
  go_wp2_with fail
  obtain ⟨w8, hw8⟩ : ∃ w8, w7.drew = w8 := ⟨_, rfl⟩
  refine hs_begin (S := (Below w8.heap.size w8)) 32 rfl (by kernel_rfl) ?_
  rw [hw8] at hB8 hc8a hc8b hR38 hR58 hR78 hk8 hs8 l1' l2' l3' ⊢
  clear hw8 hz7 hW7
  have hS : (Below w8.heap.size w8) w8 := Below.refl _ _
  refine hs_take (i := 0) (d := some 62) (v := .agg (v8 r).toArray) rfl (by kernel_rfl) (by kernel_rfl) (by kernel_rfl) (by rfl) (fun w' hw => exec_load rfl rfl (run_loadVar_mid (P := Tryd.prog) w' _ 0 23 (v8 r) _ (range_below hR58 hw l3') Tryd.underlying23 rfl hl16)) hS rfl ?_
  simp only [Act.put, List.setIfInBounds_toArray, List.set_cons_zero, List.set_cons_succ]
  refine hs_take (i := 1) (d := some 63) (v := .agg (v8 r).toArray) rfl (by kernel_rfl) (by kernel_rfl) (by kernel_rfl) (by rfl) (fun w' hw => exec_load rfl rfl (run_loadVar_mid (P := Tryd.prog) w' _ 0 23 (v8 r) _ (range_below hR78 hw hs8) Tryd.underlying23 rfl hl16)) hS rfl ?_
  simp only [Act.put, List.setIfInBounds_toArray, List.set_cons_zero, List.set_cons_succ]
  refine hs_take (i := 2) (d := some 64) (v := .bool true) rfl (by kernel_rfl) (by kernel_rfl) (by kernel_rfl) (by rfl) (fun w' hw => by go_simp) hS rfl ?_
  simp only [Act.put, List.setIfInBounds_toArray, List.set_cons_zero, List.set_cons_succ]
  clear heq hR58 hR78 hl16
  refine hs_take (i := 3) (d := some 65) (v := ?_) rfl (by kernel_rfl) (by kernel_rfl) (by kernel_rfl) (by rfl) ?_ hS rfl ?_
  rotate_left
  · intro w' hw
    go_simp
    try with_reducible rfl
  simp only [Act.put, List.setIfInBounds_toArray, List.set_cons_zero, List.set_cons_succ]
  refine hs_take (i := 4) (d := some 66) (v := ?_) rfl (by kernel_rfl) (by kernel_rfl) (by kernel_rfl) (by rfl) ?_ hS rfl ?_
  rotate_left
  · intro w' hw
    go_simp
    try with_reducible rfl
  simp only [Act.put, List.setIfInBounds_toArray, List.set_cons_zero, List.set_cons_succ]
  refine hs_take (i := 5) (d := some 67) (v := ?_) rfl (by kernel_rfl) (by kernel_rfl) (by kernel_rfl) (by rfl) ?_ hS rfl ?_
  rotate_left
  · intro w' hw
    go_simp
    try with_reducible rfl
  simp only [Act.put, List.setIfInBounds_toArray, List.set_cons_zero, List.set_cons_succ]
  refine hs_take (i := 6) (d := some 68) (v := ?_) rfl (by kernel_rfl) (by kernel_rfl) (by kernel_rfl) (by rfl) ?_ hS rfl ?_
  rotate_left
  · intro w' hw
    go_simp
    try with_reducible rfl
  simp only [Act.put, List.setIfInBounds_toArray, List.set_cons_zero, List.set_cons_succ]
  refine hs_take (i := 7) (d := some 69) (v := ?_) rfl (by kernel_rfl) (by kernel_rfl) (by kernel_rfl) (by rfl) ?_ hS rfl ?_
  rotate_left
  · intro w' hw
    go_simp
    try with_reducible rfl
  simp only [Act.put, List.setIfInBounds_toArray, List.set_cons_zero, List.set_cons_succ]
  refine hs_take (i := 8) (d := some 70) (v := ?_) rfl (by kernel_rfl) (by kernel_rfl) (by kernel_rfl) (by rfl) ?_ hS rfl ?_
  rotate_left
  · intro w' hw
    go_simp
    try with_reducible rfl
  simp only [Act.put, List.setIfInBounds_toArray, List.set_cons_zero, List.set_cons_succ]
  refine hs_take (i := 9) (d := some 71) (v := ?_) rfl (by kernel_rfl) (by kernel_rfl) (by kernel_rfl) (by rfl) ?_ hS rfl ?_
  rotate_left
  · intro w' hw
    go_simp
    try with_reducible rfl
  simp only [Act.put, List.setIfInBounds_toArray, List.set_cons_zero, List.set_cons_succ]
  refine hs_take (i := 11) (d := some 73) (v := ?_) rfl (by kernel_rfl) (by kernel_rfl) (by kernel_rfl) (by rfl) ?_ hS rfl ?_
  rotate_left
  · intro w' hw
    go_simp
    try with_reducible rfl
  simp only [Act.put, List.setIfInBounds_toArray, List.set_cons_zero, List.set_cons_succ]
  refine hs_take (i := 12) (d := some 74) (v := ?_) rfl (by kernel_rfl) (by kernel_rfl) (by kernel_rfl) (by rfl) ?_ hS rfl ?_
  rotate_left
  · intro w' hw
    have q1 := (hw.cell (p := ⟨Y, 1, none⟩) l2').trans hc8b
    go_simp
    try with_reducible rfl
  simp only [Act.put, List.setIfInBounds_toArray, List.set_cons_zero, List.set_cons_succ]
  refine hs_call (i := 10) (d := some 72) rfl (by kernel_rfl) (by rfl) (by go_simp; first | done | exact ⟨rfl, rfl⟩ | with_reducible rfl) rfl ?_
  refine (klen_any _ _ w8 (hk8.below hS)).mono ?_
  rintro e' w9 ⟨rfl, hx9⟩
  have hS : (Below w8.heap.size w8) w9 := by rw [hx9]; exact hS
  refine ⟨_, rfl, hS, ?_⟩
  simp only [Act.put, List.setIfInBounds_toArray, List.set_cons_zero, List.set_cons_succ]
  obtain rfl := hx9.symm
  clear hx9
  have hne : ((ds.length : Int) == (n : Int)) = true := by rw [hkl]; simp
  refine hs_take (i := 13) (d := some 75) (v := ?_) rfl (by kernel_rfl) (by kernel_rfl) (by kernel_rfl) (by rfl) ?_ hS rfl ?_
  rotate_left
  · intro w' hw
    go_simp
    try with_reducible rfl
  simp only [Act.put, List.setIfInBounds_toArray, List.set_cons_zero, List.set_cons_succ]
  refine hs_take (i := 14) (d := some 76) (v := ?_) rfl (by kernel_rfl) (by kernel_rfl) (by kernel_rfl) (by rfl) ?_ hS rfl ?_
  rotate_left
  · intro w' hw
    go_simp
    try with_reducible rfl
  simp only [Act.put, List.setIfInBounds_toArray, List.set_cons_zero, List.set_cons_succ]
  refine hs_take (i := 15) (d := some 77) (v := ?_) rfl (by kernel_rfl) (by kernel_rfl) (by kernel_rfl) (by rfl) ?_ hS rfl ?_
  rotate_left
  · intro w' hw
    go_simp
    try with_reducible rfl
  simp only [Act.put, List.setIfInBounds_toArray, List.set_cons_zero, List.set_cons_succ]
  refine hs_take (i := 16) (d := some 78) (v := ?_) rfl (by kernel_rfl) (by kernel_rfl) (by kernel_rfl) (by rfl) ?_ hS rfl ?_
  rotate_left
  · intro w' hw
    go_simp
    try with_reducible rfl
  simp only [Act.put, List.setIfInBounds_toArray, List.set_cons_zero, List.set_cons_succ]
  refine hs_take (i := 17) (d := some 79) (v := ?_) rfl (by kernel_rfl) (by kernel_rfl) (by kernel_rfl) (by rfl) ?_ hS rfl ?_
  rotate_left
  · intro w' hw
    go_simp
    try with_reducible rfl
  simp only [Act.put, List.setIfInBounds_toArray, List.set_cons_zero, List.set_cons_succ]
  refine hs_take (i := 18) (d := some 80) (v := ?_) rfl (by kernel_rfl) (by kernel_rfl) (by kernel_rfl) (by rfl) ?_ hS rfl ?_
  rotate_left
  · intro w' hw
    go_simp
    try with_reducible rfl
  simp only [Act.put, List.setIfInBounds_toArray, List.set_cons_zero, List.set_cons_succ]
  refine hs_take (i := 19) (d := some 81) (v := .agg ct.toArray) rfl (by kernel_rfl) (by kernel_rfl) (by kernel_rfl) (by rfl) (fun w' hw => exec_load rfl rfl (run_loadVar_mid (P := Tryd.prog) w' _ 0 23 ct _ (range_below hR38 hw l1') Tryd.underlying23 rfl hl16')) hS rfl ?_
  simp only [Act.put, List.setIfInBounds_toArray, List.set_cons_zero, List.set_cons_succ]
  refine hs_take (i := 21) (d := some 83) (v := ?_) rfl (by kernel_rfl) (by kernel_rfl) (by kernel_rfl) (by rfl) ?_ hS rfl ?_
  rotate_left
  · intro w' hw
    have q0 := (hw.cell (p := ⟨Y, 0, none⟩) l2').trans hc8a; have q1 := (hw.cell (p := ⟨Y, 1, none⟩) l2').trans hc8b
    go_simp
    try with_reducible rfl
  simp only [Act.put, List.setIfInBounds_toArray, List.set_cons_zero, List.set_cons_succ]
  refine hs_take (i := 22) (d := some 84) (v := ?_) rfl (by kernel_rfl) (by kernel_rfl) (by kernel_rfl) (by rfl) ?_ hS rfl ?_
  rotate_left
  · intro w' hw
    go_simp
    try with_reducible rfl
  simp only [Act.put, List.setIfInBounds_toArray, List.set_cons_zero, List.set_cons_succ]
  refine hs_take (i := 23) (d := some 85) (v := ?_) rfl (by kernel_rfl) (by kernel_rfl) (by kernel_rfl) (by rfl) ?_ hS rfl ?_
  rotate_left
  · intro w' hw
    go_simp
    try with_reducible rfl
  simp only [Act.put, List.setIfInBounds_toArray, List.set_cons_zero, List.set_cons_succ]
  refine hs_take (i := 24) (d := some 86) (v := .agg ct.toArray) rfl (by kernel_rfl) (by kernel_rfl) (by kernel_rfl) (by rfl) (fun w' hw => exec_load rfl rfl (run_loadVar_mid (P := Tryd.prog) w' _ 0 23 ct _ (range_below hR38 hw l1') Tryd.underlying23 rfl hl16')) hS rfl ?_
  simp only [Act.put, List.setIfInBounds_toArray, List.set_cons_zero, List.set_cons_succ]
  clear hR38 hl16' hc8a hc8b
  refine hs_call (i := 20) (d := some 82) rfl (by kernel_rfl) (by rfl) (by go_simp; first | done | exact ⟨rfl, rfl⟩ | with_reducible rfl) rfl ?_
  refine (cc _ w8 (hG.below hB8) hk8).mono ?_
  rintro e' w10 ⟨rfl, hw10⟩
  have hS : (Below w8.heap.size w8) w10 := hS.trans (hw10.mono hS.size)
  refine ⟨_, rfl, hS, ?_⟩
  simp only [Act.put, List.setIfInBounds_toArray, List.set_cons_zero, List.set_cons_succ]
  refine hs_call (i := 25) (d := some 87) rfl (by kernel_rfl) (by rfl) (by go_simp; first | done | exact ⟨rfl, rfl⟩ | with_reducible rfl) rfl ?_
  refine (crc w10).mono ?_
  rintro e' w11 ⟨rfl, hw11⟩
  have hS : (Below w8.heap.size w8) w11 := hS.trans (hw11.mono hS.size)
  refine ⟨_, rfl, hS, ?_⟩
  simp only [Act.put, List.setIfInBounds_toArray, List.set_cons_zero, List.set_cons_succ]
  clear cc crc
  refine hs_take (i := 26) (d := some 88) (v := ?_) rfl (by kernel_rfl) (by kernel_rfl) (by kernel_rfl) (by rfl) ?_ hS rfl ?_
  rotate_left
  · intro w' hw
    go_simp
    try with_reducible rfl
  simp only [Act.put, List.setIfInBounds_toArray, List.set_cons_zero, List.set_cons_succ]
  refine hs_take (i := 27) (d := some 89) (v := ?_) rfl (by kernel_rfl) (by kernel_rfl) (by kernel_rfl) (by rfl) ?_ hS rfl ?_
  rotate_left
  · intro w' hw
    go_simp
    try with_reducible rfl
  simp only [Act.put, List.setIfInBounds_toArray, List.set_cons_zero, List.set_cons_succ]
  refine hs_take (i := 28) (d := some 90) (v := ?_) rfl (by kernel_rfl) (by kernel_rfl) (by kernel_rfl) (by rfl) ?_ hS rfl ?_
  rotate_left
  · intro w' hw
    go_simp
    try with_reducible rfl
  simp only [Act.put, List.setIfInBounds_toArray, List.set_cons_zero, List.set_cons_succ]
  refine hs_call (i := 29) (d := some 91) rfl (by kernel_rfl) (by rfl) (by go_simp; first | done | exact ⟨rfl, rfl⟩ | with_reducible rfl) rfl ?_
  refine (lives4_any w11 (hG.below (hB8.trans (hS.mono hB8.size)))).mono ?_
  rintro e' w12 ⟨rfl, hw12⟩
  have hS : (Below w8.heap.size w8) w12 := hS.trans (hw12.mono hS.size)
  refine ⟨_, rfl, hS, ?_⟩
  simp only [Act.put, List.setIfInBounds_toArray, List.set_cons_zero, List.set_cons_succ]
  refine hs_take (i := 30) (d := some 92) (v := ?_) rfl (by kernel_rfl) (by kernel_rfl) (by kernel_rfl) (by rfl) ?_ hS rfl ?_
  rotate_left
  · intro w' hw
    go_simp
    try with_reducible rfl
  simp only [Act.put, List.setIfInBounds_toArray, List.set_cons_zero, List.set_cons_succ]
  have hfin := hB8.trans (hS.mono hB8.size)
  refine hs_take (i := 31) (d := some 10) (v := ?_) rfl (by kernel_rfl) (by kernel_rfl) (by kernel_rfl) (by rfl) ?_ hS rfl ?_
  rotate_left
  · intro w' hw
    go_simp
    try with_reducible rfl
  simp only [Act.put, List.setIfInBounds_toArray, List.set_cons_zero, List.set_cons_succ]
  refine hs_done (by kernel_rfl) ?_
  go_wp2
  go_ret
  exact ⟨rfl, hfin⟩
set_option maxRecDepth 20000 in
set_option maxHeartbeats 2000000 in
theorem signs_no (seed : ByteArray) (n : Int) (id : Int) (body : ByteArray) (t : List Int) (w : World) (hG : Glob w) (h : n < 1 ∨ 4096 < n ∨ 64 < seed.size) (l0 : seed.size ≤ 2000) (l1 : body.size ≤ 2000) :
   Calls Tryd.prog 3 #[.string seed, .int .i64 n, .int .i64 id, .string body, .agg (v8 t).toArray] w fun e w' => e = .returned (.bool true) ∧ Below w.heap.size w w' := by
  have t0 : ¬ (2000 : Int) < seed.size := by omega
  have t1 : ¬ (2000 : Int) < body.size := by omega
  have hB0 : Below w.heap.size w (w.alloc (.cells (v8 t).toArray 23)) := (Below.refl _ _).alloc (Nat.le_refl _) _
  have cd := fun w => derive_no seed n w h
  have crd := fun w => refDerive_no seed n w h
  have cl := fun w => klen_any none [] w (.inl ⟨rfl, rfl⟩)
  clear h
  obtain ⟨ct, hct⟩ : ∃ ct, Hid (v8 t = ct) := ⟨_, hide rfl⟩
  rw [hct.out] at hB0 ⊢
  go_enter Tryd.func3, Tryd.ntmps3
  go_wp2_with fail
  refine (cd _).mono ?_
  rintro e w1 ⟨rfl, hx⟩
  obtain rfl := hx.symm
  clear hx cd
  go_wp2_with fail
  refine (crd _).mono ?_
  rintro e w2 ⟨rfl, hw2⟩
  clear crd
  have hB2 := hB0.trans (hw2.mono hB0.size)
  have hB3 : ∀ o, Below w.heap.size w (w2.alloc o) := fun o => hB2.alloc hB2.size o
  go_wp2_with (first | (go_at_call 10; refine (cl _).mono ?_; rintro e w5 ⟨rfl, hx⟩; obtain rfl := hx.symm; clear hx) | (go_at_call 7; refine (lives4_any _ (hG.below (hB3 _))).mono ?_; rintro e w9 ⟨rfl, hw9⟩))
  go_ret
  exact ⟨rfl, (hB3 _).trans (hw9.mono (hB3 _).size)⟩
set_option maxHeartbeats 1000000 in
theorem signs_any (seed : ByteArray) (n : Int) (id : Int) (body : ByteArray) (t : List Int) (w : World) (hG : Glob w) (ht : t.length = 16) :
   Calls Tryd.prog 3 #[.string seed, .int .i64 n, .int .i64 id, .string body, .agg (v8 t).toArray] w fun e w' => e = .returned (.bool true) ∧ Below w.heap.size w w' := by
  by_cases g0 : 2000 < seed.size ∨ 2000 < body.size
  · have hB0 : Below w.heap.size w (w.alloc (.cells (v8 t).toArray 23)) := (Below.refl _ _).alloc (Nat.le_refl _) _
    obtain ⟨ct, hct⟩ : ∃ ct, Hid (v8 t = ct) := ⟨_, hide rfl⟩
    rw [hct.out] at hB0 ⊢
    by_cases g1 : 2000 < seed.size
    · have g1' : (2000 : Int) < seed.size := by omega
      clear g0
      go_enter Tryd.func3, Tryd.ntmps3
      go_wp2_with (go_at_call 7; refine (lives4_any _ (hG.below hB0)).mono ?_; rintro e w9 ⟨rfl, hw9⟩)
      go_ret
      exact ⟨rfl, hB0.trans (hw9.mono hB0.size)⟩
    · have g1' : ¬ (2000 : Int) < seed.size := by omega
      have g2' : (2000 : Int) < body.size := by omega
      clear g0
      go_enter Tryd.func3, Tryd.ntmps3
      go_wp2_with (go_at_call 7; refine (lives4_any _ (hG.below hB0)).mono ?_; rintro e w9 ⟨rfl, hw9⟩)
      go_ret
      exact ⟨rfl, hB0.trans (hw9.mono hB0.size)⟩
  · by_cases h : n < 1 ∨ 4096 < n ∨ 64 < seed.size
    · exact signs_no seed n id body t w hG h (by omega) (by omega)
    · obtain ⟨k, rfl⟩ := Int.eq_ofNat_of_zero_le (show 0 ≤ n by omega)
      exact signs_yes seed k id body t w hG ht (by omega) (by omega) (by omega) (by omega)
end Go.Proofs.YtkadfmbpajbkiabDoor
