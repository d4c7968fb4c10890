/- the law of unlike tags: the walk -/
import Derived.Test.YtkadfmbpajbkiabDoorRKeys
import Derived.Test.YtkadfmbpajbkiabDoorOwn4
import Derived.Test.YtkadfmbpajbkiabDoorLives4
namespace Go.Proofs.YtkadfmbpajbkiabDoor
open Go.RowKit
open Sha Tal
theorem sign_pair (seed : ByteArray) (n k : Nat) (hk : k < n) (body : ByteArray) : signOf (keysOf seed n) (k : Int) body = ((signOf (keysOf seed n) (k : Int) body).1, 0) := by rw [← sign_ok seed n k hk body]
set_option maxRecDepth 20000 in
set_option maxHeartbeats 6000000 in
theorem apart_walk (seed : ByteArray) (a b : Int) (x y : ByteArray) (w : World) (hG : Glob w) (l0 : seed.size ≤ 64) (l1 : x.size ≤ 2000) (l2 : y.size ≤ 2000) :
   Calls Tryd.prog 5 #[.string seed, .int .i64 a, .int .i64 b, .string x, .string y] w fun e w' => e = .returned (.bool true) ∧ Below w.heap.size w w' := by
  have t0 : ¬ (64 : Int) < seed.size := by omega
  have t1 : ¬ (2000 : Int) < x.size := by omega
  have t2 : ¬ (2000 : Int) < y.size := by omega
  obtain ⟨m, hm, em⟩ := umodc a 4096 (by omega) (by omega)
  have em' : wrap64 ((IntKind.u64.wrap a).tmod 4096) = (m : Int) := em
  obtain ⟨n, hn, en⟩ := umodc b 4096 (by omega) (by omega)
  have en' : wrap64 ((IntKind.u64.wrap b).tmod 4096) = (n : Int) := en
  clear em en
  have cd := derive_yes seed 4096 w hG (by omega) (by omega) l0
  have crd := fun w => refDerive_yes seed 4096 w (by omega) (by omega) l0
  have hl1 := signOf_length (keysOf seed 4096) (m : Int) x
  have hl2 := signOf_length (keysOf seed 4096) (n : Int) y
  have hsame : Hid (m = n → x = y → (signOf (keysOf seed 4096) (m : Int) x).1 = (signOf (keysOf seed 4096) (n : Int) y).1) := by
    intro h1 h2; rw [h1, h2]
  have cs := fun p w (hG : Glob w) (h : KeysAt w p (keysOf seed 4096)) => ksign_any p (keysOf seed 4096) (m : Int) x w hG h (Or.inr (by omega))
  have cc := fun p w t (hG : Glob w) (h : KeysAt w p (keysOf seed 4096)) (ht : t.length = 16) => kcheck_any p (keysOf seed 4096) (n : Int) y t w hG h (Or.inr (by omega)) ht
  have cr1 := fun w => refSign_any seed 4096 (m : Int) x w (by omega) (by omega) (by omega)
  have cr2 := fun w => refSign_any seed 4096 (n : Int) y w (by omega) (by omega) (by omega)
  have ss := fun id body => sign_same seed 4096 (by omega) id body
  have c4 : ((4096 : Nat) : Int) = 4096 := rfl
  simp only [c4] at ss cd
  simp only [← ss] at cr1 cr2
  have p1 := sign_pair seed 4096 m hm x
  have p2 := sign_pair seed 4096 n hn y
  obtain ⟨t, ht⟩ : ∃ t, Hid ((signOf (keysOf seed 4096) (m : Int) x).1 = t) := ⟨_, hide rfl⟩
  obtain ⟨u, hu⟩ : ∃ u, Hid ((signOf (keysOf seed 4096) (n : Int) y).1 = u) := ⟨_, hide rfl⟩
  rw [ht.out] at p1 hl1
  rw [hu.out] at p2 hl2
  rw [ht.out, hu.out] at hsame
  simp only [p1] at cs cr1
  simp only [p2] at cc cr2
  clear p1 p2 ht hu ss c4
  have ec : ∀ t', checkOf (u, 0) t' = (u == t') := fun t' => by simp [checkOf]
  simp only [ec] at cc
  clear ec
  generalize keysOf seed 4096 = ds at *
  go_enter Tryd.func5, Tryd.ntmps5
  go_wp2_with fail
  refine cd.mono ?_
  rintro e w1 ⟨p, rfl, _, hk1, hw1⟩
  clear cd
  go_wp2_with fail
  refine (crd _).mono ?_
  rintro e w2 ⟨rfl, hw2⟩
  clear crd
  have hB2 := hw1.trans (hw2.mono hw1.size)
  have hk2 := hk1.below hw2
  go_upto_region 6 with fail
  go_name_world w3 hw3
  obtain ⟨hw3b, hc3a, hc3b, hs3⟩ : Below w2.heap.size w2 w3 ∧ w3.cell? ⟨w2.heap.size, 0, none⟩ = some (.string seed) ∧ w3.cell? ⟨w2.heap.size, 1, none⟩ = some (.int .i64 4096) ∧ w2.heap.size < w3.heap.size := by
    have e : w2.alloc (.cells #[.string seed, .int .i64 4096] 28) = w3 := hw3
    rw [← e]
    have := range_new w2 #[.string seed, .int .i64 4096] 28
    exact ⟨(Below.refl _ _).alloc (Nat.le_refl _) _, this 0 _ rfl, this 1 _ rfl, by simp⟩
  clear hw3
  have hB3 := hB2.trans (hw3b.mono hB2.size)
  have hk3 := hk2.below hw3b
  have c4 := cs p w3 (hG.below hB3) hk3
  clear hk1 hk2 hw2 cs hw1 hw3b hB2
  go_wp2_with fail
  refine c4.mono ?_
  rintro e w4 ⟨rfl, hw4⟩
  clear c4
  have F := fresh_store w4 (Array.replicate 16 (.int .u8 0)) 23 (v8 t) (by rw [v8_length, hl1]; rfl)
  have hN : (w4.alloc (.cells (Array.replicate 16 (.int .u8 0)) 23)).there w4.heap.size 0 (v8 t).toArray.size := by
    have e : (v8 t).toArray.size = 16 := by rw [List.size_toArray, v8_length, hl1]
    rw [e]; exact (new_bytes w4 16 23).2
  have hi := info16 t hl1
  have h1c := all_oneCell_toArray (v8_one t)
  go_upto_region 7 with (refine wpList_store_mid (op := ⟨none, .store 23 (.tmp 16) (.tmp 56), _, _, _, none⟩) rfl 23 _ _ rfl _ _ (v8 t).toArray rfl rfl hN hi h1c ?_)
  go_name_world w5 hnw5
  rw [show (w4.alloc (.cells (Array.replicate 16 (.int .u8 0)) 23)).setCells w4.heap.size 0 (v8 t) = w5 from hnw5] at F
  clear hnw5 hN hi h1c
  try simp only [Act.put]
  obtain ⟨hR5, hB5', hz5', _⟩ := F
  have hz5 : w4.heap.size < w5.heap.size := by omega
  have hs4 := hw4.size
  have hW5 := hw4.trans (hB5'.mono hw4.size)
  have hB5 := hB3.trans (hW5.mono hB3.size)
  have hc5a := (hW5.cell (p := ⟨w2.heap.size, 0, none⟩) hs3).trans hc3a
  have hc5b := (hW5.cell (p := ⟨w2.heap.size, 1, none⟩) hs3).trans hc3b
  have hk5 := hk3.below hW5
  clear hz5' hc3a hc3b hk3 hB5' hw4
  go_wp2_with fail
  refine (cr1 _).mono ?_
  rintro e w6 ⟨rfl, hw6⟩
  clear cr1
  have F := fresh_store w6 (Array.replicate 16 (.int .u8 0)) 23 (v8 t) (by rw [v8_length, hl1]; rfl)
  have hN : (w6.alloc (.cells (Array.replicate 16 (.int .u8 0)) 23)).there w6.heap.size 0 (v8 t).toArray.size := by
    have e : (v8 t).toArray.size = 16 := by rw [List.size_toArray, v8_length, hl1]
    rw [e]; exact (new_bytes w6 16 23).2
  have hi := info16 t hl1
  have h1c := all_oneCell_toArray (v8_one t)
  go_upto_region 8 with (refine wpList_store_mid (op := ⟨none, .store 23 (.tmp 18) (.tmp 63), _, _, _, none⟩) rfl 23 _ _ rfl _ _ (v8 t).toArray rfl rfl hN hi h1c ?_)
  go_name_world w7 hnw7
  rw [show (w6.alloc (.cells (Array.replicate 16 (.int .u8 0)) 23)).setCells w6.heap.size 0 (v8 t) = w7 from hnw7] at F
  clear hnw7 hN hi h1c
  try simp only [Act.put]
  obtain ⟨hR7, hB7', hz7', _⟩ := F
  have hz7 : w6.heap.size < w7.heap.size := by omega
  have hs6 := hw6.size
  have hW7 := hw6.trans (hB7'.mono hw6.size)
  have hB7 := hB5.trans (hW7.mono hB5.size)
  have hc7a := (hW7.cell (p := ⟨w2.heap.size, 0, none⟩) (show w2.heap.size < w5.heap.size by omega)).trans hc5a
  have hc7b := (hW7.cell (p := ⟨w2.heap.size, 1, none⟩) (show w2.heap.size < w5.heap.size by omega)).trans hc5b
  have hk7 := hk5.below hW7
  have hR57 := range_below hR5 hW7 hz5
  clear hz7' hc5a hc5b hk5 hB7' hw6 hR5
  go_wp2_with fail
  refine (cr2 _).mono ?_
  rintro e w8 ⟨rfl, hw8⟩
  clear cr2
  have F := fresh_store w8 (Array.replicate 16 (.int .u8 0)) 23 (v8 u) (by rw [v8_length, hl2]; rfl)
  have hN : (w8.alloc (.cells (Array.replicate 16 (.int .u8 0)) 23)).there w8.heap.size 0 (v8 u).toArray.size := by
    have e : (v8 u).toArray.size = 16 := by rw [List.size_toArray, v8_length, hl2]
    rw [e]; exact (new_bytes w8 16 23).2
  have hi := info16 u hl2
  have h1c := all_oneCell_toArray (v8_one u)
  go_upto_region 9 with (refine wpList_store_mid (op := ⟨none, .store 23 (.tmp 20) (.tmp 70), _, _, _, none⟩) rfl 23 _ _ rfl _ _ (v8 u).toArray rfl rfl hN hi h1c ?_)
  go_name_world w9 hnw9
  rw [show (w8.alloc (.cells (Array.replicate 16 (.int .u8 0)) 23)).setCells w8.heap.size 0 (v8 u) = w9 from hnw9] at F
  clear hnw9 hN hi h1c
  try simp only [Act.put]
  obtain ⟨hR9, hB9', hz9', _⟩ := F
  have hz9 : w8.heap.size < w9.heap.size := by omega
  have hs8 := hw8.size
  have hW9 := hw8.trans (hB9'.mono hw8.size)
  have hB9 := hB7.trans (hW9.mono hB7.size)
  have hk9 := hk7.below hW9
  have hR59 := range_below hR57 hW9 (by omega)
  have hR79 := range_below hR7 hW9 hz7
  clear hz9' hc7a hc7b hk7 hB9' hw8 hR7 hR57 hW9 hW7 hW5
  have hB10 : Below w.heap.size w w9.drew := hB9.drew
  have hk10 : KeysAt w9.drew p ds := hk9.below ((Below.refl _ _).drew)
  have hR1 : w9.drew.rangeAt w4.heap.size 0 (v8 t) := (World.rangeAt_drew _ _ _ _).2 hR59
  have hR2 : w9.drew.rangeAt w6.heap.size 0 (v8 t) := (World.rangeAt_drew _ _ _ _).2 hR79
  have hR3 : w9.drew.rangeAt w8.heap.size 0 (v8 u) := (World.rangeAt_drew _ _ _ _).2 hR9
  have i1 : w4.heap.size < w9.drew.heap.size := by show _ < w9.heap.size; omega
  have i2 : w6.heap.size < w9.drew.heap.size := by show _ < w9.heap.size; omega
  have i3 : w8.heap.size < w9.drew.heap.size := by show _ < w9.heap.size; omega
  have hlt : (Tryd.prog.info? 23).map (·.size) = some (v8 t).length := by simpa using info16 t hl1
  have hlu : (Tryd.prog.info? 23).map (·.size) = some (v8 u).length := by simpa using info16 u hl2
  obtain ⟨Z1, e1⟩ : ∃ Z, w4.heap.size = Z := ⟨_, rfl⟩
  obtain ⟨Z2, e2⟩ : ∃ Z, w6.heap.size = Z := ⟨_, rfl⟩
  obtain ⟨Z3, e3⟩ : ∃ Z, w8.heap.size = Z := ⟨_, rfl⟩
  rw [e1] at hR1 i1
  rw [e2] at hR2 i2
  rw [e3] at hR3 i3
  rw [e1, e2, e3]
  clear e1 e2 e3 hR59 hR79 hR9 hk9 hB9 hB7 hB5 hB3 hz9 hz7 hz5 hs8 hs6 hs4 hs3
  have heq := eql16 t u hl1 hl2
  have hcomm : (u == t) = (t == u) := by rw [Bool.eq_iff_iff]; simp only [beq_iff_eq]; exact ⟨fun h => h.symm, fun h => h.symm⟩
  obtain ⟨q, hq⟩ : ∃ q, Hid ((t == u) = q) := ⟨_, hide rfl⟩
  have cc1 := cc p w9.drew t (hG.below hB10) hk10 hl1
  rw [hcomm, hq.out] at cc1
  have cc2 := fun W (h : Below w9.drew.heap.size w9.drew W) => cc p W t (hG.below (hB10.trans (h.mono hB10.size))) (hk10.below h) hl1
  simp only [hcomm, hq.out] at cc2
  simp only [hq.out] at heq
  have hsame2 : Hid (m = n → x = y → q = true) := by
    intro h1 h2
    rw [← hq.out, hsame.out h1 h2]; simp
  clear hsame hcomm cc hq
  go_wp2_with fail
  obtain ⟨w10, hw10⟩ : ∃ w10, w9.drew = w10 := ⟨_, rfl⟩
  refine hs_begin (S := (Below w10.heap.size w10)) 30 rfl (by kernel_rfl) ?_
  rw [hw10] at hB10 hk10 hR1 hR2 hR3 i1 i2 i3 cc1 cc2 ⊢
  clear hw10
  have hS : (Below w10.heap.size w10) w10 := Below.refl _ _
  refine hs_take (i := 0) (d := some 74) (v := ?_) rfl (by kernel_rfl) (by kernel_rfl) (by kernel_rfl) (by rfl) ?_ hS rfl ?_
  rotate_left
  · intro w' hw
    go_simp
    try with_reducible rfl
  simp only [Act.put, List.setIfInBounds_toArray, List.set_cons_zero, List.set_cons_succ]
  refine hs_take (i := 1) (d := some 75) (v := ?_) rfl (by kernel_rfl) (by kernel_rfl) (by kernel_rfl) (by rfl) ?_ hS rfl ?_
  rotate_left
  · intro w' hw
    go_simp
    try with_reducible rfl
  simp only [Act.put, List.setIfInBounds_toArray, List.set_cons_zero, List.set_cons_succ]
  refine hs_take (i := 2) (d := some 76) (v := ?_) rfl (by kernel_rfl) (by kernel_rfl) (by kernel_rfl) (by rfl) ?_ hS rfl ?_
  rotate_left
  · intro w' hw
    go_simp
    try with_reducible rfl
  simp only [Act.put, List.setIfInBounds_toArray, List.set_cons_zero, List.set_cons_succ]
  refine hs_take (i := 3) (d := some 77) (v := .agg (v8 t).toArray) rfl (by kernel_rfl) (by kernel_rfl) (by kernel_rfl) (by rfl) (fun w' hw => exec_load rfl rfl (run_loadVar_mid (P := Tryd.prog) w' _ 0 23 (v8 t) _ (range_below hR1 hw i1) Tryd.underlying23 rfl hlt)) hS rfl ?_
  simp only [Act.put, List.setIfInBounds_toArray, List.set_cons_zero, List.set_cons_succ]
  refine hs_take (i := 5) (d := some 79) (v := .agg (v8 t).toArray) rfl (by kernel_rfl) (by kernel_rfl) (by kernel_rfl) (by rfl) (fun w' hw => exec_load rfl rfl (run_loadVar_mid (P := Tryd.prog) w' _ 0 23 (v8 t) _ (range_below hR2 hw i2) Tryd.underlying23 rfl hlt)) hS rfl ?_
  simp only [Act.put, List.setIfInBounds_toArray, List.set_cons_zero, List.set_cons_succ]
  refine hs_take (i := 6) (d := some 80) (v := .agg (v8 u).toArray) rfl (by kernel_rfl) (by kernel_rfl) (by kernel_rfl) (by rfl) (fun w' hw => exec_load rfl rfl (run_loadVar_mid (P := Tryd.prog) w' _ 0 23 (v8 u) _ (range_below hR3 hw i3) Tryd.underlying23 rfl hlu)) hS rfl ?_
  simp only [Act.put, List.setIfInBounds_toArray, List.set_cons_zero, List.set_cons_succ]
  refine hs_take (i := 7) (d := some 81) (v := .bool q) rfl (by kernel_rfl) (by kernel_rfl) (by kernel_rfl) (by rfl) (fun w' hw => by go_simp) hS rfl ?_
  simp only [Act.put, List.setIfInBounds_toArray, List.set_cons_zero, List.set_cons_succ]
  clear heq hR2 hR3 hlu
  refine hs_call (i := 4) (d := some 78) rfl (by kernel_rfl) (by rfl) (by go_simp; first | done | exact ⟨rfl, rfl⟩ | with_reducible rfl) rfl ?_
  refine (cc1).mono ?_
  rintro e' w11 ⟨rfl, hw11⟩
  have hS : (Below w10.heap.size w10) w11 := hw11
  refine ⟨_, rfl, hS, ?_⟩
  simp only [Act.put, List.setIfInBounds_toArray, List.set_cons_zero, List.set_cons_succ]
  clear cc1
  have hqq : (q == q) = true := by simp
  refine hs_take (i := 8) (d := some 82) (v := ?_) rfl (by kernel_rfl) (by kernel_rfl) (by kernel_rfl) (by rfl) ?_ hS rfl ?_
  rotate_left
  · intro w' hw
    go_simp
    try with_reducible rfl
  simp only [Act.put, List.setIfInBounds_toArray, List.set_cons_zero, List.set_cons_succ]
  refine hs_take (i := 9) (d := some 83) (v := ?_) rfl (by kernel_rfl) (by kernel_rfl) (by kernel_rfl) (by rfl) ?_ hS rfl ?_
  rotate_left
  · intro w' hw
    go_simp
    try with_reducible rfl
  simp only [Act.put, List.setIfInBounds_toArray, List.set_cons_zero, List.set_cons_succ]
  refine hs_take (i := 10) (d := some 84) (v := ?_) rfl (by kernel_rfl) (by kernel_rfl) (by kernel_rfl) (by rfl) ?_ hS rfl ?_
  rotate_left
  · intro w' hw
    go_simp
    try with_reducible rfl
  simp only [Act.put, List.setIfInBounds_toArray, List.set_cons_zero, List.set_cons_succ]
  refine hs_take (i := 11) (d := some 85) (v := ?_) rfl (by kernel_rfl) (by kernel_rfl) (by kernel_rfl) (by rfl) ?_ hS rfl ?_
  rotate_left
  · intro w' hw
    go_simp
    try with_reducible rfl
  simp only [Act.put, List.setIfInBounds_toArray, List.set_cons_zero, List.set_cons_succ]
  clear hqq
  by_cases hmn : m = n
  · have hmnb : ((m : Int) != (n : Int)) = false := by simp; omega
    refine hs_take (i := 12) (d := some 86) (v := .bool false) rfl (by kernel_rfl) (by kernel_rfl) (by kernel_rfl) (by rfl) (fun w' hw => by go_simp) hS rfl ?_
    simp only [Act.put, List.setIfInBounds_toArray, List.set_cons_zero, List.set_cons_succ]
    refine hs_take (i := 13) (d := some 87) (v := ?_) rfl (by kernel_rfl) (by kernel_rfl) (by kernel_rfl) (by rfl) ?_ hS rfl ?_
    rotate_left
    · intro w' hw
      go_simp
      try with_reducible rfl
    simp only [Act.put, List.setIfInBounds_toArray, List.set_cons_zero, List.set_cons_succ]
    refine hs_take (i := 14) (d := some 88) (v := ?_) rfl (by kernel_rfl) (by kernel_rfl) (by kernel_rfl) (by rfl) ?_ hS rfl ?_
    rotate_left
    · intro w' hw
      go_simp
      try with_reducible rfl
    simp only [Act.put, List.setIfInBounds_toArray, List.set_cons_zero, List.set_cons_succ]
    refine hs_take (i := 15) (d := some 89) (v := ?_) rfl (by kernel_rfl) (by kernel_rfl) (by kernel_rfl) (by rfl) ?_ hS rfl ?_
    rotate_left
    · intro w' hw
      go_simp
      try with_reducible rfl
    simp only [Act.put, List.setIfInBounds_toArray, List.set_cons_zero, List.set_cons_succ]
    by_cases hxy : x = y
    · have hq1 : q = true := hsame2.out hmn hxy
      subst hq1
      subst hxy
      refine hs_take (i := 16) (d := some 90) (v := .bool false) rfl (by kernel_rfl) (by kernel_rfl) (by kernel_rfl) (by rfl) (fun w' hw => by go_simp; try simp) hS rfl ?_
      simp only [Act.put, List.setIfInBounds_toArray, List.set_cons_zero, List.set_cons_succ]
      refine hs_take (i := 17) (d := some 91) (v := ?_) rfl (by kernel_rfl) (by kernel_rfl) (by kernel_rfl) (by rfl) ?_ hS rfl ?_
      rotate_left
      · intro w' hw
        go_simp
        try with_reducible rfl
      simp only [Act.put, List.setIfInBounds_toArray, List.set_cons_zero, List.set_cons_succ]
      refine hs_take (i := 18) (d := some 92) (v := ?_) rfl (by kernel_rfl) (by kernel_rfl) (by kernel_rfl) (by rfl) ?_ hS rfl ?_
      rotate_left
      · intro w' hw
        go_simp
        try with_reducible rfl
      simp only [Act.put, List.setIfInBounds_toArray, List.set_cons_zero, List.set_cons_succ]
      refine hs_take (i := 19) (d := some 93) (v := ?_) rfl (by kernel_rfl) (by kernel_rfl) (by kernel_rfl) (by rfl) ?_ hS rfl ?_
      rotate_left
      · intro w' hw
        go_simp
        try with_reducible rfl
      simp only [Act.put, List.setIfInBounds_toArray, List.set_cons_zero, List.set_cons_succ]
      refine hs_take (i := 20) (d := some 94) (v := ?_) rfl (by kernel_rfl) (by kernel_rfl) (by kernel_rfl) (by rfl) ?_ hS rfl ?_
      rotate_left
      · intro w' hw
        go_simp
        try with_reducible rfl
      simp only [Act.put, List.setIfInBounds_toArray, List.set_cons_zero, List.set_cons_succ]
      refine hs_take (i := 21) (d := some 95) (v := ?_) rfl (by kernel_rfl) (by kernel_rfl) (by kernel_rfl) (by rfl) ?_ hS rfl ?_
      rotate_left
      · intro w' hw
        go_simp
        try with_reducible rfl
      simp only [Act.put, List.setIfInBounds_toArray, List.set_cons_zero, List.set_cons_succ]
      refine hs_take (i := 22) (d := some 96) (v := .agg (v8 t).toArray) rfl (by kernel_rfl) (by kernel_rfl) (by kernel_rfl) (by rfl) (fun w' hw => exec_load rfl rfl (run_loadVar_mid (P := Tryd.prog) w' _ 0 23 (v8 t) _ (range_below hR1 hw i1) Tryd.underlying23 rfl hlt)) hS rfl ?_
      simp only [Act.put, List.setIfInBounds_toArray, List.set_cons_zero, List.set_cons_succ]
      refine hs_call (i := 23) (d := some 97) rfl (by kernel_rfl) (by rfl) (by go_simp; first | done | exact ⟨rfl, rfl⟩ | with_reducible rfl) rfl ?_
      refine (cc2 w11 hS).mono ?_
      rintro e' w14 ⟨rfl, hw14⟩
      have hS : (Below w10.heap.size w10) w14 := hS.trans (hw14.mono hS.size)
      refine ⟨_, rfl, hS, ?_⟩
      simp only [Act.put, List.setIfInBounds_toArray, List.set_cons_zero, List.set_cons_succ]
      refine hs_take (i := 24) (d := some 98) (v := ?_) rfl (by kernel_rfl) (by kernel_rfl) (by kernel_rfl) (by rfl) ?_ hS rfl ?_
      rotate_left
      · intro w' hw
        go_simp
        try with_reducible rfl
      simp only [Act.put, List.setIfInBounds_toArray, List.set_cons_zero, List.set_cons_succ]
      refine hs_take (i := 25) (d := some 99) (v := ?_) rfl (by kernel_rfl) (by kernel_rfl) (by kernel_rfl) (by rfl) ?_ hS rfl ?_
      rotate_left
      · intro w' hw
        go_simp
        try with_reducible rfl
      simp only [Act.put, List.setIfInBounds_toArray, List.set_cons_zero, List.set_cons_succ]
      refine hs_take (i := 26) (d := some 100) (v := ?_) rfl (by kernel_rfl) (by kernel_rfl) (by kernel_rfl) (by rfl) ?_ hS rfl ?_
      rotate_left
      · intro w' hw
        go_simp
        try with_reducible rfl
      simp only [Act.put, List.setIfInBounds_toArray, List.set_cons_zero, List.set_cons_succ]
      refine hs_call (i := 27) (d := some 101) rfl (by kernel_rfl) (by rfl) (by go_simp; first | done | exact ⟨rfl, rfl⟩ | with_reducible rfl) rfl ?_
      refine (lives4_any w14 (hG.below (hB10.trans (hS.mono hB10.size)))).mono ?_
      rintro e' w15 ⟨rfl, hw15⟩
      have hS : (Below w10.heap.size w10) w15 := hS.trans (hw15.mono hS.size)
      refine ⟨_, rfl, hS, ?_⟩
      simp only [Act.put, List.setIfInBounds_toArray, List.set_cons_zero, List.set_cons_succ]
      refine hs_take (i := 28) (d := some 102) (v := ?_) rfl (by kernel_rfl) (by kernel_rfl) (by kernel_rfl) (by rfl) ?_ hS rfl ?_
      rotate_left
      · intro w' hw
        go_simp
        try with_reducible rfl
      simp only [Act.put, List.setIfInBounds_toArray, List.set_cons_zero, List.set_cons_succ]
      have hfin := hB10.trans (hS.mono hB10.size)
      refine hs_take (i := 29) (d := some 10) (v := ?_) rfl (by kernel_rfl) (by kernel_rfl) (by kernel_rfl) (by rfl) ?_ hS rfl ?_
      rotate_left
      · intro w' hw
        go_simp
        try with_reducible rfl
      simp only [Act.put, List.setIfInBounds_toArray, List.set_cons_zero, List.set_cons_succ]
      refine hs_done (by kernel_rfl) ?_
      go_wp2
      go_ret
      exact ⟨rfl, hfin⟩
    · have hxl : ¬ x.toList = y.toList := fun h => hxy (by
        rw [ByteArray.toList_eq, ByteArray.toList_eq] at h
        exact ByteArray.ext (Array.toList_inj.mp h))
      refine hs_take (i := 16) (d := some 90) (v := .bool true) rfl (by kernel_rfl) (by kernel_rfl) (by kernel_rfl) (by rfl) (fun w' hw => by go_simp) hS rfl ?_
      simp only [Act.put, List.setIfInBounds_toArray, List.set_cons_zero, List.set_cons_succ]
      refine hs_take (i := 17) (d := some 91) (v := ?_) rfl (by kernel_rfl) (by kernel_rfl) (by kernel_rfl) (by rfl) ?_ hS rfl ?_
      rotate_left
      · intro w' hw
        go_simp
        try with_reducible rfl
      simp only [Act.put, List.setIfInBounds_toArray, List.set_cons_zero, List.set_cons_succ]
      refine hs_take (i := 18) (d := some 92) (v := ?_) rfl (by kernel_rfl) (by kernel_rfl) (by kernel_rfl) (by rfl) ?_ hS rfl ?_
      rotate_left
      · intro w' hw
        go_simp
        try with_reducible rfl
      simp only [Act.put, List.setIfInBounds_toArray, List.set_cons_zero, List.set_cons_succ]
      refine hs_skip (i := 19) (d := some 93) rfl (by kernel_rfl) (by kernel_rfl) (by kernel_rfl) (by rfl) hS rfl ?_
      simp only [Act.put, List.setIfInBounds_toArray, List.set_cons_zero, List.set_cons_succ]
      refine hs_skip (i := 20) (d := some 94) rfl (by kernel_rfl) (by kernel_rfl) (by kernel_rfl) (by rfl) hS rfl ?_
      simp only [Act.put, List.setIfInBounds_toArray, List.set_cons_zero, List.set_cons_succ]
      refine hs_skip (i := 21) (d := some 95) rfl (by kernel_rfl) (by kernel_rfl) (by kernel_rfl) (by rfl) hS rfl ?_
      simp only [Act.put, List.setIfInBounds_toArray, List.set_cons_zero, List.set_cons_succ]
      refine hs_skip (i := 22) (d := some 96) rfl (by kernel_rfl) (by kernel_rfl) (by kernel_rfl) (by rfl) hS rfl ?_
      simp only [Act.put, List.setIfInBounds_toArray, List.set_cons_zero, List.set_cons_succ]
      refine hs_skip (i := 23) (d := some 97) rfl (by kernel_rfl) (by kernel_rfl) (by kernel_rfl) (by rfl) hS rfl ?_
      simp only [Act.put, List.setIfInBounds_toArray, List.set_cons_zero, List.set_cons_succ]
      refine hs_take (i := 24) (d := some 98) (v := ?_) rfl (by kernel_rfl) (by kernel_rfl) (by kernel_rfl) (by rfl) ?_ hS rfl ?_
      rotate_left
      · intro w' hw
        go_simp
        try with_reducible rfl
      simp only [Act.put, List.setIfInBounds_toArray, List.set_cons_zero, List.set_cons_succ]
      refine hs_take (i := 25) (d := some 99) (v := ?_) rfl (by kernel_rfl) (by kernel_rfl) (by kernel_rfl) (by rfl) ?_ hS rfl ?_
      rotate_left
      · intro w' hw
        go_simp
        try with_reducible rfl
      simp only [Act.put, List.setIfInBounds_toArray, List.set_cons_zero, List.set_cons_succ]
      refine hs_take (i := 26) (d := some 100) (v := ?_) rfl (by kernel_rfl) (by kernel_rfl) (by kernel_rfl) (by rfl) ?_ hS rfl ?_
      rotate_left
      · intro w' hw
        go_simp
        try with_reducible rfl
      simp only [Act.put, List.setIfInBounds_toArray, List.set_cons_zero, List.set_cons_succ]
      refine hs_call (i := 27) (d := some 101) rfl (by kernel_rfl) (by rfl) (by go_simp; first | done | exact ⟨rfl, rfl⟩ | with_reducible rfl) rfl ?_
      refine (lives4_any w11 (hG.below (hB10.trans (hS.mono hB10.size)))).mono ?_
      rintro e' w15 ⟨rfl, hw15⟩
      have hS : (Below w10.heap.size w10) w15 := hS.trans (hw15.mono hS.size)
      refine ⟨_, rfl, hS, ?_⟩
      simp only [Act.put, List.setIfInBounds_toArray, List.set_cons_zero, List.set_cons_succ]
      refine hs_take (i := 28) (d := some 102) (v := ?_) rfl (by kernel_rfl) (by kernel_rfl) (by kernel_rfl) (by rfl) ?_ hS rfl ?_
      rotate_left
      · intro w' hw
        go_simp
        try with_reducible rfl
      simp only [Act.put, List.setIfInBounds_toArray, List.set_cons_zero, List.set_cons_succ]
      have hfin := hB10.trans (hS.mono hB10.size)
      refine hs_take (i := 29) (d := some 10) (v := ?_) rfl (by kernel_rfl) (by kernel_rfl) (by kernel_rfl) (by rfl) ?_ hS rfl ?_
      rotate_left
      · intro w' hw
        go_simp
        try with_reducible rfl
      simp only [Act.put, List.setIfInBounds_toArray, List.set_cons_zero, List.set_cons_succ]
      refine hs_done (by kernel_rfl) ?_
      go_wp2
      go_ret
      exact ⟨rfl, hfin⟩
  · have hmnb : ((m : Int) != (n : Int)) = true := by simp; omega
    refine hs_take (i := 12) (d := some 86) (v := .bool true) rfl (by kernel_rfl) (by kernel_rfl) (by kernel_rfl) (by rfl) (fun w' hw => by go_simp) hS rfl ?_
    simp only [Act.put, List.setIfInBounds_toArray, List.set_cons_zero, List.set_cons_succ]
    refine hs_take (i := 13) (d := some 87) (v := ?_) rfl (by kernel_rfl) (by kernel_rfl) (by kernel_rfl) (by rfl) ?_ hS rfl ?_
    rotate_left
    · intro w' hw
      go_simp
      try with_reducible rfl
    simp only [Act.put, List.setIfInBounds_toArray, List.set_cons_zero, List.set_cons_succ]
    refine hs_skip (i := 14) (d := some 88) rfl (by kernel_rfl) (by kernel_rfl) (by kernel_rfl) (by rfl) hS rfl ?_
    simp only [Act.put, List.setIfInBounds_toArray, List.set_cons_zero, List.set_cons_succ]
    refine hs_skip (i := 15) (d := some 89) rfl (by kernel_rfl) (by kernel_rfl) (by kernel_rfl) (by rfl) hS rfl ?_
    simp only [Act.put, List.setIfInBounds_toArray, List.set_cons_zero, List.set_cons_succ]
    refine hs_skip (i := 16) (d := some 90) rfl (by kernel_rfl) (by kernel_rfl) (by kernel_rfl) (by rfl) hS rfl ?_
    simp only [Act.put, List.setIfInBounds_toArray, List.set_cons_zero, List.set_cons_succ]
    refine hs_take (i := 17) (d := some 91) (v := ?_) rfl (by kernel_rfl) (by kernel_rfl) (by kernel_rfl) (by rfl) ?_ hS rfl ?_
    rotate_left
    · intro w' hw
      go_simp
      try with_reducible rfl
    simp only [Act.put, List.setIfInBounds_toArray, List.set_cons_zero, List.set_cons_succ]
    refine hs_take (i := 18) (d := some 92) (v := ?_) rfl (by kernel_rfl) (by kernel_rfl) (by kernel_rfl) (by rfl) ?_ hS rfl ?_
    rotate_left
    · intro w' hw
      go_simp
      try with_reducible rfl
    simp only [Act.put, List.setIfInBounds_toArray, List.set_cons_zero, List.set_cons_succ]
    refine hs_skip (i := 19) (d := some 93) rfl (by kernel_rfl) (by kernel_rfl) (by kernel_rfl) (by rfl) hS rfl ?_
    simp only [Act.put, List.setIfInBounds_toArray, List.set_cons_zero, List.set_cons_succ]
    refine hs_skip (i := 20) (d := some 94) rfl (by kernel_rfl) (by kernel_rfl) (by kernel_rfl) (by rfl) hS rfl ?_
    simp only [Act.put, List.setIfInBounds_toArray, List.set_cons_zero, List.set_cons_succ]
    refine hs_skip (i := 21) (d := some 95) rfl (by kernel_rfl) (by kernel_rfl) (by kernel_rfl) (by rfl) hS rfl ?_
    simp only [Act.put, List.setIfInBounds_toArray, List.set_cons_zero, List.set_cons_succ]
    refine hs_skip (i := 22) (d := some 96) rfl (by kernel_rfl) (by kernel_rfl) (by kernel_rfl) (by rfl) hS rfl ?_
    simp only [Act.put, List.setIfInBounds_toArray, List.set_cons_zero, List.set_cons_succ]
    refine hs_skip (i := 23) (d := some 97) rfl (by kernel_rfl) (by kernel_rfl) (by kernel_rfl) (by rfl) hS rfl ?_
    simp only [Act.put, List.setIfInBounds_toArray, List.set_cons_zero, List.set_cons_succ]
    refine hs_take (i := 24) (d := some 98) (v := ?_) rfl (by kernel_rfl) (by kernel_rfl) (by kernel_rfl) (by rfl) ?_ hS rfl ?_
    rotate_left
    · intro w' hw
      go_simp
      try with_reducible rfl
    simp only [Act.put, List.setIfInBounds_toArray, List.set_cons_zero, List.set_cons_succ]
    refine hs_take (i := 25) (d := some 99) (v := ?_) rfl (by kernel_rfl) (by kernel_rfl) (by kernel_rfl) (by rfl) ?_ hS rfl ?_
    rotate_left
    · intro w' hw
      go_simp
      try with_reducible rfl
    simp only [Act.put, List.setIfInBounds_toArray, List.set_cons_zero, List.set_cons_succ]
    refine hs_take (i := 26) (d := some 100) (v := ?_) rfl (by kernel_rfl) (by kernel_rfl) (by kernel_rfl) (by rfl) ?_ hS rfl ?_
    rotate_left
    · intro w' hw
      go_simp
      try with_reducible rfl
    simp only [Act.put, List.setIfInBounds_toArray, List.set_cons_zero, List.set_cons_succ]
    refine hs_call (i := 27) (d := some 101) rfl (by kernel_rfl) (by rfl) (by go_simp; first | done | exact ⟨rfl, rfl⟩ | with_reducible rfl) rfl ?_
    refine (lives4_any w11 (hG.below (hB10.trans (hS.mono hB10.size)))).mono ?_
    rintro e' w15 ⟨rfl, hw15⟩
    have hS : (Below w10.heap.size w10) w15 := hS.trans (hw15.mono hS.size)
    refine ⟨_, rfl, hS, ?_⟩
    simp only [Act.put, List.setIfInBounds_toArray, List.set_cons_zero, List.set_cons_succ]
    refine hs_take (i := 28) (d := some 102) (v := ?_) rfl (by kernel_rfl) (by kernel_rfl) (by kernel_rfl) (by rfl) ?_ hS rfl ?_
    rotate_left
    · intro w' hw
      go_simp
      try with_reducible rfl
    simp only [Act.put, List.setIfInBounds_toArray, List.set_cons_zero, List.set_cons_succ]
    have hfin := hB10.trans (hS.mono hB10.size)
    refine hs_take (i := 29) (d := some 10) (v := ?_) rfl (by kernel_rfl) (by kernel_rfl) (by kernel_rfl) (by rfl) ?_ hS rfl ?_
    rotate_left
    · intro w' hw
      go_simp
      try with_reducible rfl
    simp only [Act.put, List.setIfInBounds_toArray, List.set_cons_zero, List.set_cons_succ]
    refine hs_done (by kernel_rfl) ?_
    go_wp2
    go_ret
    exact ⟨rfl, hfin⟩
set_option maxHeartbeats 1000000 in
theorem apart_any (seed : ByteArray) (a b : Int) (x y : ByteArray) (w : World) (hG : Glob w) :
   Calls Tryd.prog 5 #[.string seed, .int .i64 a, .int .i64 b, .string x, .string y] w fun e w' => e = .returned (.bool true) ∧ Below w.heap.size w w' := by
  by_cases g0 : 64 < seed.size
  · have g0' : (64 : Int) < seed.size := by omega
    go_enter Tryd.func5, Tryd.ntmps5
    go_wp2_with (go_at_call 7; refine (lives4_any _ hG).mono ?_; rintro e w9 ⟨rfl, hw9⟩)
    go_ret
    exact ⟨rfl, hw9⟩
  · by_cases g1 : 2000 < x.size
    · have g0' : ¬ (64 : Int) < seed.size := by omega
      have g1' : (2000 : Int) < x.size := by omega
      go_enter Tryd.func5, Tryd.ntmps5
      go_wp2_with (go_at_call 7; refine (lives4_any _ hG).mono ?_; rintro e w9 ⟨rfl, hw9⟩)
      go_ret
      exact ⟨rfl, hw9⟩
    · by_cases g2 : 2000 < y.size
      · have g0' : ¬ (64 : Int) < seed.size := by omega
        have g1' : ¬ (2000 : Int) < x.size := by omega
        have g2' : (2000 : Int) < y.size := by omega
        go_enter Tryd.func5, Tryd.ntmps5
        go_wp2_with (go_at_call 7; refine (lives4_any _ hG).mono ?_; rintro e w9 ⟨rfl, hw9⟩)
        go_ret
        exact ⟨rfl, hw9⟩
      · exact apart_walk seed a b x y w hG (by omega) (by omega) (by omega)
end Go.Proofs.YtkadfmbpajbkiabDoor
