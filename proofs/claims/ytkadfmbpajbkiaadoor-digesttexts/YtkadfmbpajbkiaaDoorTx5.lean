/- the law of texts: the walk -/
import Derived.Test.YtkadfmbpajbkiaaDoorTx4
namespace Go.Proofs.YtkadfmbpajbkiaaDoor
open Go.RowKit
open Sha
theorem parseOf_length (s : ByteArray) : (parseOf s).1.length = 32 := by
  unfold parseOf
  split
  · exact outB_length s 32
  · exact zeros32_length
theorem sb_hex (x : List Int) (hx : ∀ z ∈ x, 0 ≤ z ∧ z < 256) (j : Nat) (hj : j < x.length) : sb (strOf x) j = x.getD j 0 := by
  have e : (strOf x).data[j]? = some (UInt8.ofNat (x.getD j 0).toNat) := by
    rw [← Array.getElem?_toList, str_list]
    simp [Lib.bytesOf, List.getElem?_map, List.getElem?_eq_getElem hj, List.getD_eq_getElem?_getD]
  have hb := byte_ok hx j
  unfold sb
  rw [e, Option.getD_some, UInt8.toNat_ofNat']
  omega
theorem hex_at : ∀ (d : List Int) (i : Nat), i < d.length → (hex d).getD (2 * i) 0 = dg.getD (d.getD i 0 / 16).toNat 0 ∧ (hex d).getD (2 * i + 1) 0 = dg.getD (d.getD i 0 % 16).toNat 0
  | [], _, h => by simp at h
  | a :: d, 0, _ => by simp [hex, hex2]
  | a :: d, i + 1, h => by
    have ih := hex_at d i (by simpa using h)
    have e : hex (a :: d) = dg.getD (a / 16).toNat 0 :: dg.getD (a % 16).toNat 0 :: hex d := by simp [hex, hex2]
    rw [e]
    simpa [Nat.mul_add] using ih
theorem strOf_size (x : List Int) : (strOf x).size = x.length := by
  have := congrArg List.length (str_list x)
  simpa [Lib.bytesOf] using this
theorem parse_text (d : List Int) (hd : d.length = 32) (hb : ∀ z ∈ d, 0 ≤ z ∧ z < 256) : parseOf (strOf (hex d)) = (d, 0) := by
  have hl : (hex d).length = 64 := by rw [hex_length, hd]
  have key : ∀ i, i < 32 → pv (strOf (hex d)) (2 * i) = d.getD i 0 / 16 ∧ pv (strOf (hex d)) (2 * i + 1) = d.getD i 0 % 16 := by
    intro i hi
    have hz := byte_ok hb i
    obtain ⟨h1, h2⟩ := hex_at d i (by omega)
    unfold pv
    rw [sb_hex _ (hex_ok d hb) _ (by omega), sb_hex _ (hex_ok d hb) _ (by omega), h1, h2]
    have v1 := val_dg ⟨(d.getD i 0 / 16).toNat, by omega⟩
    have v2 := val_dg ⟨(d.getD i 0 % 16).toNat, by omega⟩
    refine ⟨v1.trans ?_, v2.trans ?_⟩
    · show ((d.getD i 0 / 16).toNat : Int) = _; omega
    · show ((d.getD i 0 % 16).toNat : Int) = _; omega
  rw [parse_yes ⟨by rw [strOf_size, hl], fun j hj => ?_⟩]
  · congr 1
    apply List.ext_getElem
    · rw [outB_length, hd]
    · intro i h1 h2
      rw [outB_length] at h1
      obtain ⟨k1, k2⟩ := key i h1
      simp only [outB, List.getElem_map, List.getElem_range]
      rw [k1, k2]
      have : d.getD i 0 = d[i] := by simp [List.getD_eq_getElem?_getD, List.getElem?_eq_getElem h2]
      rw [this]
      omega
  · have hz := byte_ok hb (j / 2)
    obtain ⟨k1, k2⟩ := key (j / 2) (by omega)
    rcases Nat.mod_two_eq_zero_or_one j with e | e
    · have : j = 2 * (j / 2) := by omega
      rw [this, k1]; omega
    · have : j = 2 * (j / 2) + 1 := by omega
      rw [this, k2]; omega
set_option maxRecDepth 20000 in
set_option maxHeartbeats 4000000 in
theorem texts_walk (d : List Int) (s : ByteArray) (w : World) (hG : Glob w) (hd : d.length = 32) (hb : ∀ z ∈ d, 0 ≤ z ∧ z < 256) (hs : s.size ≤ 5000) :
   Calls Tryd.prog 7 #[.agg (v8 d).toArray, .string s] w fun e w' => e = .returned (.bool true) ∧ Below w.heap.size w w' := by
  have k0 : ¬ (5000 : Int) < s.size := by omega
  have hB1 : Below w.heap.size w (w.alloc (.cells (v8 d).toArray 24)) := (Below.refl _ _).alloc (Nat.le_refl _) _
  have hR1 : (w.alloc (.cells (v8 d).toArray 24)).rangeAt w.heap.size 0 (v8 d) := by have := range_new w (v8 d).toArray 24; simpa using this
  have hz1 : w.heap.size < (w.alloc (.cells (v8 d).toArray 24)).heap.size := by simp
  have hid : (Tryd.prog.info? 24).map (·.size) = some (v8 d).length := by rw [v8_length, hd]; exact isz24
  have cp := fun w0 => parse_any s w0
  have cr := fun w0 => refParse_any s w0
  have hml := parseOf_length s
  have cpt := fun w0 => parse_any (strOf (hex d)) w0
  have ct := fun w0 => text_any d w0 hd hb
  have crt := fun w0 => refText_any d w0 hd hb
  simp only [parse_text d hd hb] at cpt
  obtain ⟨St, hSt⟩ : ∃ St, Hid (strOf (hex d) = St) := ⟨_, rfl⟩
  simp only [hSt.out] at cpt ct crt
  obtain ⟨m, hm⟩ : ∃ m, Hid ((parseOf s).1 = m) := ⟨_, rfl⟩
  obtain ⟨c, hc⟩ : ∃ c, Hid ((parseOf s).2 = c) := ⟨_, rfl⟩
  rw [hm.out] at hml
  simp only [hm.out, hc.out] at cp cr
  have him := info24 m hml
  have hid' := info24 d hd
  have hom := all_oneCell_toArray (v8_one m)
  have hod := all_oneCell_toArray (v8_one d)
  have hi' : (Tryd.prog.info? 24).map (·.size) = some (v8 m).length := by rw [v8_length, hml]; exact isz24
  go_enter Tryd.func7, Tryd.ntmps7
  go_upto_region 3 with fail
  go_name_world w1 hw1
  rw [show w.alloc (.cells (v8 d).toArray 24) = w1 from hw1] at hB1 hR1 hz1
  clear hw1
  go_wp2_with fail
  refine (cp w1).mono ?_
  rintro e w2 ⟨rfl, hw2⟩
  have hB2 := hB1.trans (hw2.mono hB1.size)
  have hR2 := range_below hR1 hw2 hz1
  have hz2 := Nat.lt_of_lt_of_le hz1 hw2.size
  clear hB1 hR1 hz1 hw2 cp
  have F := fresh_store w2 (Array.replicate 32 (.int .u8 0)) 24 (v8 m) (by rw [v8_length, hml]; rfl)
  have hN := there24 w2 m hml
  go_upto_region 4 with (refine wpList_store_mid rfl 24 _ _ rfl _ _ (v8 m).toArray rfl rfl hN him hom ?_)
  go_name_world w3 hw3
  rw [show (w2.alloc (.cells (Array.replicate 32 (.int .u8 0)) 24)).setCells w2.heap.size 0 (v8 m) = w3 from hw3] at F
  obtain ⟨hQ3, hF3, hz3', _⟩ := F
  have hz3 : w2.heap.size < w3.heap.size := by omega
  have hB3 := hB2.trans (hF3.mono hB2.size)
  have hR3 := range_below hR2 hF3 hz2
  clear hw3 hN hB2 hR2 hz3'
  have hzz3 : w.heap.size < w3.heap.size := by omega
  obtain ⟨X5, hX5⟩ : ∃ X, w2.heap.size = X := ⟨_, rfl⟩
  rw [hX5] at hQ3 hz3 ⊢
  clear hX5 hF3 hz2
  try simp only [Act.put]
  go_wp2_with fail
  refine (cr w3).mono ?_
  rintro e w4 ⟨rfl, hw4⟩
  have hB4 := hB3.trans (hw4.mono hB3.size)
  have hR4 := range_below hR3 hw4 hzz3
  have hQ4 := range_below hQ3 hw4 hz3
  have hzz4 := Nat.lt_of_lt_of_le hzz3 hw4.size
  have hz4 := Nat.lt_of_lt_of_le hz3 hw4.size
  clear hB3 hR3 hQ3 hzz3 hz3 hw4 cr
  have F := fresh_store w4 (Array.replicate 32 (.int .u8 0)) 24 (v8 m) (by rw [v8_length, hml]; rfl)
  have hN := there24 w4 m hml
  go_upto_region 5 with (refine wpList_store_mid rfl 24 _ _ rfl _ _ (v8 m).toArray rfl rfl hN him hom ?_)
  go_name_world w5 hw5
  rw [show (w4.alloc (.cells (Array.replicate 32 (.int .u8 0)) 24)).setCells w4.heap.size 0 (v8 m) = w5 from hw5] at F
  obtain ⟨hP5, hF5, hz5', _⟩ := F
  have hz5 : w4.heap.size < w5.heap.size := by omega
  have hB5 := hB4.trans (hF5.mono hB4.size)
  have hR5 := range_below hR4 hF5 hzz4
  have hQ5 := range_below hQ4 hF5 hz4
  clear hw5 hN hB4 hR4 hQ4 hz5'
  have hzz5 : w.heap.size < w5.heap.size := by omega
  have hzq5 : X5 < w5.heap.size := by omega
  obtain ⟨X7, hX7⟩ : ∃ X, w4.heap.size = X := ⟨_, rfl⟩
  rw [hX7] at hP5 hz5 ⊢
  clear hX7 hF5 hzz4 hz4
  try simp only [Act.put]
  go_wp2_with (refine wpList_load_mid rfl 24 _ rfl _ 0 rfl (v8 d) _ hR5 Tryd.underlying24 rfl hid ?_)
  refine (ct w5).mono ?_
  rintro e w6 ⟨rfl, hw6⟩
  go_wp2_with fail
  refine (cpt w6).mono ?_
  rintro e w7 ⟨rfl, hw7⟩
  have hw67 := hw6.trans (hw7.mono hw6.size)
  have hB7 := hB5.trans (hw67.mono hB5.size)
  have hR7 := range_below hR5 hw67 hzz5
  have hQ7 := range_below hQ5 hw67 hzq5
  have hP7 := range_below hP5 hw67 hz5
  have hzz7 := Nat.lt_of_lt_of_le hzz5 hw67.size
  have hzq7 := Nat.lt_of_lt_of_le hzq5 hw67.size
  have hz7 := Nat.lt_of_lt_of_le hz5 hw67.size
  clear hB5 hR5 hQ5 hP5 hzz5 hzq5 hz5 hw67 hw6 hw7 cpt
  have F := fresh_store w7 (Array.replicate 32 (.int .u8 0)) 24 (v8 d) (by rw [v8_length, hd]; rfl)
  have hN := there24 w7 d hd
  go_upto_region 6 with (refine wpList_store_mid rfl 24 _ _ rfl _ _ (v8 d).toArray rfl rfl hN hid' hod ?_)
  go_name_world w8 hw8
  rw [show (w7.alloc (.cells (Array.replicate 32 (.int .u8 0)) 24)).setCells w7.heap.size 0 (v8 d) = w8 from hw8] at F
  obtain ⟨hT8, hF8, hz8', _⟩ := F
  have hz8 : w7.heap.size < w8.heap.size := by omega
  have hB8 := hB7.trans (hF8.mono hB7.size)
  have hR8 := range_below hR7 hF8 hzz7
  have hQ8 := range_below hQ7 hF8 hzq7
  have hP8 := range_below hP7 hF8 hz7
  clear hw8 hN hB7 hR7 hQ7 hP7 hz8'
  have hzz8 : w.heap.size < w8.heap.size := by omega
  have hzq8 : X5 < w8.heap.size := by omega
  have hzp8 : X7 < w8.heap.size := by omega
  obtain ⟨X9, hX9⟩ : ∃ X, w7.heap.size = X := ⟨_, rfl⟩
  rw [hX9] at hT8 hz8 ⊢
  clear hX9 hF8 hzz7 hzq7 hz7
  try simp only [Act.put]
  obtain ⟨X2, hX2⟩ : ∃ X, Hid (w.heap.size = X) := ⟨_, rfl⟩
  have hB9 := hB8.drew
  have hR9 : w8.drew.rangeAt X2 0 (v8 d) := (World.rangeAt_drew _ _ _ _).2 (by rw [← hX2.out]; exact hR8)
  have hQ9 : w8.drew.rangeAt X5 0 (v8 m) := (World.rangeAt_drew _ _ _ _).2 hQ8
  have hP9 : w8.drew.rangeAt X7 0 (v8 m) := (World.rangeAt_drew _ _ _ _).2 hP8
  have hT9 : w8.drew.rangeAt X9 0 (v8 d) := (World.rangeAt_drew _ _ _ _).2 hT8
  have lR : X2 < w8.drew.heap.size := by rw [← hX2.out]; exact hzz8
  have lQ : X5 < w8.drew.heap.size := hzq8
  have lP : X7 < w8.drew.heap.size := hzp8
  have lT : X9 < w8.drew.heap.size := hz8
  clear hB8 hR8 hQ8 hP8 hT8 hzz8 hzq8 hzp8 hz8
  rw [hX2.out]
  go_wp2_with fail
  obtain ⟨w9, hw9⟩ : ∃ w9, w8.drew = w9 := ⟨_, rfl⟩
  rw [hw9] at hB9 hR9 hQ9 hP9 hT9 lR lQ lP lT
  refine hs_begin (S := (Below w9.heap.size w9)) 28 rfl (by kernel_rfl) ?_
  rw [hw9]
  clear hw9
  have hS : (Below w9.heap.size w9) w9 := Below.refl _ _
  refine hs_take (i := 0) (d := some 31) (v := .agg (v8 d).toArray) rfl (by kernel_rfl) (by kernel_rfl) (by kernel_rfl) (by rfl) (fun w' hw => exec_load rfl rfl (run_loadVar_mid (P := Tryd.prog) w' X2 0 24 (v8 d) _ (range_below hR9 hw lR) Tryd.underlying24 rfl hid)) hS rfl ?_
  simp only [Act.put, List.setIfInBounds_toArray, List.set_cons_zero, List.set_cons_succ]
  refine hs_take (i := 2) (d := some 33) (v := .agg (v8 d).toArray) rfl (by kernel_rfl) (by kernel_rfl) (by kernel_rfl) (by rfl) (fun w' hw => exec_load rfl rfl (run_loadVar_mid (P := Tryd.prog) w' X2 0 24 (v8 d) _ (range_below hR9 hw lR) Tryd.underlying24 rfl hid)) hS rfl ?_
  simp only [Act.put, List.setIfInBounds_toArray, List.set_cons_zero, List.set_cons_succ]
  refine hs_call (i := 1) (d := some 32) rfl (by kernel_rfl) (by rfl) (by go_simp; first | done | exact ⟨rfl, rfl⟩ | with_reducible rfl) rfl ?_
  refine ((ct w9)).mono ?_
  rintro e' w10 ⟨rfl, hw10⟩
  have hS : (Below w9.heap.size w9) w10 := hS.trans (hw10.mono hS.size)
  refine ⟨_, rfl, hS, ?_⟩
  simp only [Act.put, List.setIfInBounds_toArray, List.set_cons_zero, List.set_cons_succ]
  clear hw10
  refine hs_call (i := 3) (d := some 34) rfl (by kernel_rfl) (by rfl) (by go_simp; first | done | exact ⟨rfl, rfl⟩ | with_reducible rfl) rfl ?_
  refine ((crt w10)).mono ?_
  rintro e' w11 ⟨rfl, hw11⟩
  have hS : (Below w9.heap.size w9) w11 := hS.trans (hw11.mono hS.size)
  refine ⟨_, rfl, hS, ?_⟩
  simp only [Act.put, List.setIfInBounds_toArray, List.set_cons_zero, List.set_cons_succ]
  clear hw11
  refine hs_take (i := 4) (d := some 35) (v := .bool true) rfl (by kernel_rfl) (by kernel_rfl) (by kernel_rfl) (by rfl) (fun w' hw => by go_simp) hS rfl ?_
  simp only [Act.put, List.setIfInBounds_toArray, List.set_cons_zero, List.set_cons_succ]
  refine hs_take (i := 5) (d := some 36) (v := ?_) rfl (by kernel_rfl) (by kernel_rfl) (by kernel_rfl) (by rfl) ?_ hS rfl ?_
  rotate_left
  · intro w' hw
    go_simp
    try with_reducible rfl
  simp only [Act.put, List.setIfInBounds_toArray, List.set_cons_zero, List.set_cons_succ]
  refine hs_take (i := 6) (d := some 37) (v := .agg (v8 m).toArray) rfl (by kernel_rfl) (by kernel_rfl) (by kernel_rfl) (by rfl) (fun w' hw => exec_load rfl rfl (run_loadVar_mid (P := Tryd.prog) w' X5 0 24 (v8 m) _ (range_below hQ9 hw lQ) Tryd.underlying24 rfl hi')) hS rfl ?_
  simp only [Act.put, List.setIfInBounds_toArray, List.set_cons_zero, List.set_cons_succ]
  refine hs_take (i := 7) (d := some 38) (v := .agg (v8 m).toArray) rfl (by kernel_rfl) (by kernel_rfl) (by kernel_rfl) (by rfl) (fun w' hw => exec_load rfl rfl (run_loadVar_mid (P := Tryd.prog) w' X7 0 24 (v8 m) _ (range_below hP9 hw lP) Tryd.underlying24 rfl hi')) hS rfl ?_
  simp only [Act.put, List.setIfInBounds_toArray, List.set_cons_zero, List.set_cons_succ]
  have heq := eql_digest m hml
  refine hs_take (i := 8) (d := some 39) (v := .bool true) rfl (by kernel_rfl) (by kernel_rfl) (by kernel_rfl) (by rfl) (fun w' hw => by go_simp) hS rfl ?_
  simp only [Act.put, List.setIfInBounds_toArray, List.set_cons_zero, List.set_cons_succ]
  clear heq
  refine hs_take (i := 9) (d := some 40) (v := ?_) rfl (by kernel_rfl) (by kernel_rfl) (by kernel_rfl) (by rfl) ?_ hS rfl ?_
  rotate_left
  · intro w' hw
    go_simp
    try with_reducible rfl
  simp only [Act.put, List.setIfInBounds_toArray, List.set_cons_zero, List.set_cons_succ]
  refine hs_take (i := 10) (d := some 41) (v := ?_) rfl (by kernel_rfl) (by kernel_rfl) (by kernel_rfl) (by rfl) ?_ hS rfl ?_
  rotate_left
  · intro w' hw
    go_simp
    try with_reducible rfl
  simp only [Act.put, List.setIfInBounds_toArray, List.set_cons_zero, List.set_cons_succ]
  refine hs_take (i := 11) (d := some 42) (v := ?_) rfl (by kernel_rfl) (by kernel_rfl) (by kernel_rfl) (by rfl) ?_ hS rfl ?_
  rotate_left
  · intro w' hw
    go_simp
    try with_reducible rfl
  simp only [Act.put, List.setIfInBounds_toArray, List.set_cons_zero, List.set_cons_succ]
  refine hs_take (i := 12) (d := some 43) (v := ?_) rfl (by kernel_rfl) (by kernel_rfl) (by kernel_rfl) (by rfl) ?_ hS rfl ?_
  rotate_left
  · intro w' hw
    go_simp
    try with_reducible rfl
  simp only [Act.put, List.setIfInBounds_toArray, List.set_cons_zero, List.set_cons_succ]
  refine hs_take (i := 13) (d := some 44) (v := .bool true) rfl (by kernel_rfl) (by kernel_rfl) (by kernel_rfl) (by rfl) (fun w' hw => by go_simp) hS rfl ?_
  simp only [Act.put, List.setIfInBounds_toArray, List.set_cons_zero, List.set_cons_succ]
  refine hs_take (i := 14) (d := some 45) (v := ?_) rfl (by kernel_rfl) (by kernel_rfl) (by kernel_rfl) (by rfl) ?_ hS rfl ?_
  rotate_left
  · intro w' hw
    go_simp
    try with_reducible rfl
  simp only [Act.put, List.setIfInBounds_toArray, List.set_cons_zero, List.set_cons_succ]
  refine hs_take (i := 15) (d := some 46) (v := ?_) rfl (by kernel_rfl) (by kernel_rfl) (by kernel_rfl) (by rfl) ?_ hS rfl ?_
  rotate_left
  · intro w' hw
    go_simp
    try with_reducible rfl
  simp only [Act.put, List.setIfInBounds_toArray, List.set_cons_zero, List.set_cons_succ]
  refine hs_take (i := 16) (d := some 47) (v := .agg (v8 d).toArray) rfl (by kernel_rfl) (by kernel_rfl) (by kernel_rfl) (by rfl) (fun w' hw => exec_load rfl rfl (run_loadVar_mid (P := Tryd.prog) w' X9 0 24 (v8 d) _ (range_below hT9 hw lT) Tryd.underlying24 rfl hid)) hS rfl ?_
  simp only [Act.put, List.setIfInBounds_toArray, List.set_cons_zero, List.set_cons_succ]
  refine hs_take (i := 17) (d := some 48) (v := .agg (v8 d).toArray) rfl (by kernel_rfl) (by kernel_rfl) (by kernel_rfl) (by rfl) (fun w' hw => exec_load rfl rfl (run_loadVar_mid (P := Tryd.prog) w' X2 0 24 (v8 d) _ (range_below hR9 hw lR) Tryd.underlying24 rfl hid)) hS rfl ?_
  simp only [Act.put, List.setIfInBounds_toArray, List.set_cons_zero, List.set_cons_succ]
  have heq := eql_digest d hd
  refine hs_take (i := 18) (d := some 49) (v := .bool true) rfl (by kernel_rfl) (by kernel_rfl) (by kernel_rfl) (by rfl) (fun w' hw => by go_simp) hS rfl ?_
  simp only [Act.put, List.setIfInBounds_toArray, List.set_cons_zero, List.set_cons_succ]
  clear heq
  refine hs_take (i := 19) (d := some 50) (v := ?_) rfl (by kernel_rfl) (by kernel_rfl) (by kernel_rfl) (by rfl) ?_ hS rfl ?_
  rotate_left
  · intro w' hw
    go_simp
    try with_reducible rfl
  simp only [Act.put, List.setIfInBounds_toArray, List.set_cons_zero, List.set_cons_succ]
  refine hs_take (i := 20) (d := some 51) (v := ?_) rfl (by kernel_rfl) (by kernel_rfl) (by kernel_rfl) (by rfl) ?_ hS rfl ?_
  rotate_left
  · intro w' hw
    go_simp
    try with_reducible rfl
  simp only [Act.put, List.setIfInBounds_toArray, List.set_cons_zero, List.set_cons_succ]
  refine hs_take (i := 21) (d := some 52) (v := ?_) rfl (by kernel_rfl) (by kernel_rfl) (by kernel_rfl) (by rfl) ?_ hS rfl ?_
  rotate_left
  · intro w' hw
    go_simp
    try with_reducible rfl
  simp only [Act.put, List.setIfInBounds_toArray, List.set_cons_zero, List.set_cons_succ]
  refine hs_take (i := 22) (d := some 53) (v := .bool true) rfl (by kernel_rfl) (by kernel_rfl) (by kernel_rfl) (by rfl) (fun w' hw => by go_simp) hS rfl ?_
  simp only [Act.put, List.setIfInBounds_toArray, List.set_cons_zero, List.set_cons_succ]
  refine hs_take (i := 23) (d := some 54) (v := ?_) rfl (by kernel_rfl) (by kernel_rfl) (by kernel_rfl) (by rfl) ?_ hS rfl ?_
  rotate_left
  · intro w' hw
    go_simp
    try with_reducible rfl
  simp only [Act.put, List.setIfInBounds_toArray, List.set_cons_zero, List.set_cons_succ]
  refine hs_take (i := 24) (d := some 55) (v := ?_) rfl (by kernel_rfl) (by kernel_rfl) (by kernel_rfl) (by rfl) ?_ hS rfl ?_
  rotate_left
  · intro w' hw
    go_simp
    try with_reducible rfl
  simp only [Act.put, List.setIfInBounds_toArray, List.set_cons_zero, List.set_cons_succ]
  refine hs_call (i := 25) (d := some 56) rfl (by kernel_rfl) (by rfl) (by go_simp; first | done | exact ⟨rfl, rfl⟩ | with_reducible rfl) rfl ?_
  refine (lives_any w11 (hG.below (hB9.trans (hS.mono hB9.size)))).mono ?_
  rintro e' w12 ⟨rfl, hw12⟩
  have hS : (Below w9.heap.size w9) w12 := hS.trans (hw12.mono hS.size)
  refine ⟨_, rfl, hS, ?_⟩
  simp only [Act.put, List.setIfInBounds_toArray, List.set_cons_zero, List.set_cons_succ]
  refine hs_take (i := 26) (d := some 57) (v := ?_) rfl (by kernel_rfl) (by kernel_rfl) (by kernel_rfl) (by rfl) ?_ hS rfl ?_
  rotate_left
  · intro w' hw
    go_simp
    try with_reducible rfl
  simp only [Act.put, List.setIfInBounds_toArray, List.set_cons_zero, List.set_cons_succ]
  have hfin := hB9.trans (hS.mono hB9.size)
  refine hs_take (i := 27) (d := some 4) (v := ?_) rfl (by kernel_rfl) (by kernel_rfl) (by kernel_rfl) (by rfl) ?_ hS rfl ?_
  rotate_left
  · intro w' hw
    go_simp
    try with_reducible rfl
  simp only [Act.put, List.setIfInBounds_toArray, List.set_cons_zero, List.set_cons_succ]
  refine hs_done (by kernel_rfl) ?_
  go_wp2
  go_ret
  exact ⟨rfl, hfin⟩
set_option maxHeartbeats 1000000 in
theorem texts_any (d : List Int) (s : ByteArray) (w : World) (hG : Glob w) (hd : d.length = 32) (hb : ∀ z ∈ d, 0 ≤ z ∧ z < 256) :
   Calls Tryd.prog 7 #[.agg (v8 d).toArray, .string s] w fun e w' => e = .returned (.bool true) ∧ Below w.heap.size w w' := by
  by_cases g : 5000 < s.size
  · have g' : (5000 : Int) < s.size := by omega
    have hB1 : Below w.heap.size w (w.alloc (.cells (v8 d).toArray 24)) := (Below.refl _ _).alloc (Nat.le_refl _) _
    have cv := lives_any _ (hG.below hB1)
    go_enter Tryd.func7, Tryd.ntmps7
    go_wp2_with fail
    refine cv.mono ?_
    rintro e w9 ⟨rfl, hw9⟩
    have hfin := hB1.trans (hw9.mono hB1.size)
    clear cv hw9 hB1
    go_wp2
    go_ret
    exact ⟨rfl, hfin⟩
  · exact texts_walk d s w hG hd hb (by omega)
end Go.Proofs.YtkadfmbpajbkiaaDoor
