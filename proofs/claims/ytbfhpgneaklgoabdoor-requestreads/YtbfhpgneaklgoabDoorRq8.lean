/- raddlelaw06.lives: the chapter's example holds -/
import Derived.Test.YtbfhpgneaklgoabDoorRq6
import Derived.Test.YtbfhpgneaklgoabDoorRq7
import Derived.Test.YtbfhpgneaklgoabDoorReqEq
namespace Go.Proofs.YtbfhpgneaklgoabDoor
open Go.RowKit
open Sha Tal
theorem make_same (N c n : Int) (s : ByteArray) : makeV (keysOf seedR 72) N c n s = refMakeV seedR 72 N c n s := by
  unfold makeV refMakeV
  rw [keysOf_length, if_neg (show ¬ (72 : Nat) = 0 by decide)]
  by_cases hm : 0 ≤ c ∧ c < 8 ∧ 1 ≤ n ∧ n ≤ 1099511627776 ∧ s.size ≤ 64
  · have h1 : ¬ ¬ (0 ≤ c ∧ c < 8 ∧ 1 ≤ n ∧ n ≤ 1099511627776 ∧ s.size ≤ 64) := fun q => q hm
    rw [if_neg h1, if_neg h1]
    unfold tagV
    rw [keysOf_length]
    by_cases hN : N < 0 ∨ 64 < N
    · rw [if_pos (show N < 0 ∨ 64 < N ∨ ((72 : Nat) : Int) - N ≤ c by omega), if_pos hN, if_pos (show ¬ ((2 : Int) = 0) by decide)]
    · rw [if_neg (show ¬ (N < 0 ∨ 64 < N ∨ ((72 : Nat) : Int) - N ≤ c) by omega), if_neg hN, sign_same seedR 72 (by decide)]
      rfl
  · rw [if_pos hm, if_pos hm]
theorem sign_in (seed : ByteArray) (n k : Nat) (hk : k < n) (body : ByteArray) : (signOf (keysOf seed n) (k : Int) body).2 = 0 := by
  unfold signOf
  have h0 : keysOf seed n ≠ [] := fun h => by have := keysOf_length seed n; rw [h] at this; simp at this; omega
  rw [if_neg h0, keysOf_length, if_neg (by omega)]
def exX : ByteArray := ⟨#[120]⟩
def exT : List Int := (tagV (keysOf seedR 72) 4 2 7 exX).1
theorem exTag : tagV (keysOf seedR 72) 4 2 7 exX = signOf (keysOf seedR 72) 6 (strOf (bodyL 2 7 exX)) := by
  unfold tagV
  rw [keysOf_length, if_neg (by decide)]
  rfl
theorem exTag2 : (tagV (keysOf seedR 72) 4 2 7 exX).2 = 0 := by rw [exTag]; exact sign_in seedR 72 6 (by decide) _
theorem exT_len : exT.length = 16 := tagV_length _ _ _ _ _
theorem exMake : makeV (keysOf seedR 72) 4 2 7 exX = (reqL 2 7 exX exT, 0) := by
  unfold makeV
  rw [keysOf_length, if_neg (show ¬ (72 : Nat) = 0 by decide), exTag2]
  rw [if_neg (show ¬ ¬ (0 ≤ (2 : Int) ∧ (2 : Int) < 8 ∧ 1 ≤ (7 : Int) ∧ (7 : Int) ≤ 1099511627776 ∧ exX.size ≤ 64) by decide), if_neg (show ¬ ((0 : Int) ≠ 0) by decide)]
  rfl
theorem exGood3 : goodV (keysOf seedR 72) 4 3 2 7 exX exT = 0 := by
  unfold goodV
  rw [keysOf_length, if_neg (show ¬ (72 : Nat) = 0 by decide), exTag2]
  rw [if_neg (show ¬ ¬ (0 ≤ (2 : Int) ∧ (2 : Int) < 3 ∧ 1 ≤ (7 : Int) ∧ (7 : Int) ≤ 1099511627776 ∧ exX.size ≤ 64) by decide), if_neg (show ¬ ((0 : Int) ≠ 0) by decide), if_pos (show (tagV (keysOf seedR 72) 4 2 7 exX).1 = exT from rfl)]
theorem exGood2 : goodV (keysOf seedR 72) 4 2 2 7 exX exT = 60 := by
  unfold goodV
  rw [keysOf_length, if_neg (show ¬ (72 : Nat) = 0 by decide)]
  rw [if_pos (show ¬ (0 ≤ (2 : Int) ∧ (2 : Int) < 2 ∧ 1 ≤ (7 : Int) ∧ (7 : Int) ≤ 1099511627776 ∧ exX.size ≤ 64) by decide)]
theorem exCheck : checkOf (signOf (keysOf seedR 72) 6 (strOf (bodyL 2 7 exX))) exT = true := by
  unfold checkOf exT
  rw [← exTag, exTag2]; simp
theorem exBody : (strOf (bodyL 2 7 exX)).size ≤ 100000 := by rw [strOf_size]; exact body_small _ _ _ (by decide) (by decide) (by decide)
set_option maxRecDepth 100000 in
set_option maxHeartbeats 2000000 in
theorem lives6_any (w : World) (hG : Glob w) : Calls Tryd.prog 8 #[] w fun e w' => e = .returned (.bool true) ∧ Below w.heap.size w w' := by
  have cmk := fun p w0 h0 hG0 => make_any p (keysOf seedR 72) 4 2 7 exX w0 h0 hG0
  simp only [exMake] at cmk
  have cbd := fun w0 => body_any 2 7 exX exT w0 exT_len (by decide) (by decide) (by decide)
  have cch := fun p w0 hG0 h0 => kcheck_any p (keysOf seedR 72) 6 (strOf (bodyL 2 7 exX)) exT w0 hG0 h0 (.inr exBody) exT_len
  simp only [exCheck] at cch
  have cg3 := fun p w0 h0 hG0 => good_any p (keysOf seedR 72) 4 3 2 7 exX exT w0 h0 hG0 exT_len (by decide)
  simp only [exGood3] at cg3
  have cg2 := fun p w0 h0 hG0 => good_any p (keysOf seedR 72) 4 2 2 7 exX exT w0 h0 hG0 exT_len (by decide)
  simp only [exGood2] at cg2
  have hiQ : (Tryd.prog.info? 33).map (·.size) = some (reqL 2 7 exX exT).toArray.size := by rw [List.size_toArray, reqL_length _ _ _ _ exT_len]; exact iszR
  have hiQ' : (Tryd.prog.info? 33).map (·.size) = some (reqL 2 7 exX exT).length := by rw [reqL_length _ _ _ _ exT_len]; exact iszR
  have hoQ := all_oneCell_toArray (reqL_one 2 7 exX exT)
  have hlQ : (reqL 2 7 exX exT).length = 19 := reqL_length _ _ _ _ exT_len
  have htg := fun (w0 : World) (b0 : Nat) h1 => @reqL_tag w0 b0 2 7 exX exT h1
  have hit : (Tryd.prog.info? 31).map (·.size) = some (v8 exT).length := by rw [v8_length, exT_len]; exact iszT
  obtain ⟨Q, hQ⟩ : ∃ Q, Hid (reqL 2 7 exX exT = Q) := ⟨_, hide rfl⟩
  obtain ⟨tt, htt⟩ : ∃ tt, Hid (v8 exT = tt) := ⟨_, hide rfl⟩
  obtain ⟨bd, hbd⟩ : ∃ bd, Hid (strOf (bodyL 2 7 exX) = bd) := ⟨_, hide rfl⟩
  simp only [hQ.out] at cmk cbd cg3 cg2 htg
  simp only [htt.out] at cch htg
  simp only [hbd.out] at cbd cch
  rw [hQ.out] at hiQ hiQ' hoQ hlQ
  rw [htt.out] at hit
  have HLQ := hide hlQ
  clear hlQ
  have hiK : (Tryd.prog.info? 27).map (·.size) = some rkL.toArray.size := iszK
  have hoK : (rkL.toArray.all fun x => x.oneCell') = true := by simp [rkL, Value.oneCell']
  go_enter Tryd.func8, Tryd.ntmps8
  go_wp2_with fail
  refine (keys6_any w hG).mono ?_
  rintro e w1 ⟨p, rfl, hp, hk1, hB1⟩
  have F := fresh_store w1 #[.string ⟨#[]⟩, .int .i64 0] 27 rkL rfl
  have hN1 : (w1.alloc (.cells #[.string ⟨#[]⟩, .int .i64 0] 27)).there w1.heap.size 0 rkL.toArray.size := there_new w1 #[.string ⟨#[]⟩, .int .i64 0] 27
  go_upto_region 2 with (refine wpList_store_mid (op := ⟨none, .store 27 (.tmp 2) (.tmp 8), _, _, _, none⟩) rfl 27 _ _ rfl _ _ rkL.toArray rfl rfl hN1 hiK hoK ?_)
  go_name_world w2 hw2
  rw [show (w1.alloc (.cells #[.string ⟨#[]⟩, .int .i64 0] 27)).setCells w1.heap.size 0 rkL = w2 from hw2] at F
  clear hw2 hN1 hiK hoK
  obtain ⟨_, hF2, _, _⟩ := F
  have hB2 := hB1.trans (hF2.mono hB1.size)
  have hk2 := hk1.below hF2
  clear hB1 hk1 hF2
  go_wp2_with fail
  refine (cmk p w2 hk2 (hG.below hB2)).mono ?_
  rintro e w3 ⟨rfl, hw3⟩
  have hB3 := hB2.trans (hw3.mono hB2.size)
  have hk3 := hk2.below hw3
  clear hB2 hk2 hw3 cmk
  have F := fresh_store w3 #[.int .i64 0, .int .i64 0, .string ⟨#[]⟩, .int .u8 0, .int .u8 0, .int .u8 0, .int .u8 0, .int .u8 0, .int .u8 0, .int .u8 0, .int .u8 0, .int .u8 0, .int .u8 0, .int .u8 0, .int .u8 0, .int .u8 0, .int .u8 0, .int .u8 0, .int .u8 0] 33 Q (by rw [HLQ.out]; rfl)
  have hN3 : (w3.alloc (.cells #[.int .i64 0, .int .i64 0, .string ⟨#[]⟩, .int .u8 0, .int .u8 0, .int .u8 0, .int .u8 0, .int .u8 0, .int .u8 0, .int .u8 0, .int .u8 0, .int .u8 0, .int .u8 0, .int .u8 0, .int .u8 0, .int .u8 0, .int .u8 0, .int .u8 0, .int .u8 0] 33)).there w3.heap.size 0 Q.toArray.size := by
    have := there_new w3 #[.int .i64 0, .int .i64 0, .string ⟨#[]⟩, .int .u8 0, .int .u8 0, .int .u8 0, .int .u8 0, .int .u8 0, .int .u8 0, .int .u8 0, .int .u8 0, .int .u8 0, .int .u8 0, .int .u8 0, .int .u8 0, .int .u8 0, .int .u8 0, .int .u8 0, .int .u8 0] 33
    have e : Q.toArray.size = 19 := by have := HLQ.out; simpa using this
    rw [e]; exact this
  go_upto_region 3 with (refine wpList_store_mid (op := ⟨none, .store 33 (.tmp 3) (.tmp 12), _, _, _, none⟩) rfl 33 _ _ rfl _ _ Q.toArray rfl rfl hN3 hiQ hoQ ?_)
  go_name_world w4 hw4
  rw [show (w3.alloc (.cells #[.int .i64 0, .int .i64 0, .string ⟨#[]⟩, .int .u8 0, .int .u8 0, .int .u8 0, .int .u8 0, .int .u8 0, .int .u8 0, .int .u8 0, .int .u8 0, .int .u8 0, .int .u8 0, .int .u8 0, .int .u8 0, .int .u8 0, .int .u8 0, .int .u8 0, .int .u8 0] 33)).setCells w3.heap.size 0 Q = w4 from hw4] at F
  clear hw4 hN3 hiQ hoQ
  obtain ⟨hR4, hF4, hz4, _⟩ := F
  have hB4 := (hB3.trans (hF4.mono hB3.size)).drew
  have hk4 := (hk3.below hF4).below (Below.refl w4.heap.size w4).drew
  have hR4' : w4.drew.rangeAt w3.heap.size 0 Q := (World.rangeAt_drew _ _ _ _).2 hR4
  have hz4' : w3.heap.size < w4.drew.heap.size := by show w3.heap.size < w4.heap.size; omega
  obtain ⟨X, hX⟩ : ∃ X, Hid (w3.heap.size = X) := ⟨_, hide rfl⟩
  rw [hX.out] at hR4' hz4' ⊢
  clear hR4 hz4 hB3 hk3 hF4
  try simp only [Act.put]
  obtain ⟨w5, hw5⟩ : ∃ w5, w4.drew = w5 := ⟨_, rfl⟩
  rw [hw5] at hB4 hk4 hR4' hz4'
  refine hs_begin (S := (Below w5.heap.size w5)) 23 rfl (by kernel_rfl) ?_
  rw [hw5]
  clear hw5
  have hS : (Below w5.heap.size w5) w5 := Below.refl _ _
  have hRt := htg w5 X hR4'
  refine hs_take (i := 0) (d := some 14) (v := ?_) rfl (by kernel_rfl) (by kernel_rfl) (by kernel_rfl) (by rfl) ?_ hS rfl ?_
  rotate_left
  · intro w' hw
    go_simp
    try with_reducible rfl
  simp only [Act.put, List.setIfInBounds_toArray, List.set_cons_zero, List.set_cons_succ]
  refine hs_take (i := 1) (d := some 15) (v := .bool true) rfl (by kernel_rfl) (by kernel_rfl) (by kernel_rfl) (by rfl) (fun w' hw => by go_simp) hS rfl ?_
  simp only [Act.put, List.setIfInBounds_toArray, List.set_cons_zero, List.set_cons_succ]
  refine hs_take (i := 2) (d := some 16) (v := ?_) rfl (by kernel_rfl) (by kernel_rfl) (by kernel_rfl) (by rfl) ?_ hS rfl ?_
  rotate_left
  · intro w' hw
    go_simp
    try with_reducible rfl
  simp only [Act.put, List.setIfInBounds_toArray, List.set_cons_zero, List.set_cons_succ]
  refine hs_take (i := 3) (d := some 17) (v := ?_) rfl (by kernel_rfl) (by kernel_rfl) (by kernel_rfl) (by rfl) ?_ hS rfl ?_
  rotate_left
  · intro w' hw
    go_simp
    try with_reducible rfl
  simp only [Act.put, List.setIfInBounds_toArray, List.set_cons_zero, List.set_cons_succ]
  refine hs_take (i := 4) (d := some 18) (v := .agg Q.toArray) rfl (by kernel_rfl) (by kernel_rfl) (by kernel_rfl) (by rfl) (fun w' hw => exec_load rfl rfl (run_loadVar_mid (P := Tryd.prog) w' _ _ 33 Q _ (range_below hR4' hw hz4') Tryd.underlying33 rfl hiQ')) hS rfl ?_
  simp only [Act.put, List.setIfInBounds_toArray, List.set_cons_zero, List.set_cons_succ]
  refine hs_take (i := 6) (d := some 20) (v := ?_) rfl (by kernel_rfl) (by kernel_rfl) (by kernel_rfl) (by rfl) ?_ hS rfl ?_
  rotate_left
  · intro w' hw
    go_simp
    try with_reducible rfl
  simp only [Act.put, List.setIfInBounds_toArray, List.set_cons_zero, List.set_cons_succ]
  refine hs_take (i := 7) (d := some 21) (v := .agg tt.toArray) rfl (by kernel_rfl) (by kernel_rfl) (by kernel_rfl) (by rfl) (fun w' hw => exec_load rfl rfl (run_loadVar_mid (P := Tryd.prog) w' _ _ 31 tt _ (range_below hRt hw hz4') Tryd.underlying31 rfl hit)) hS rfl ?_
  simp only [Act.put, List.setIfInBounds_toArray, List.set_cons_zero, List.set_cons_succ]
  refine hs_call (i := 5) (d := some 19) rfl (by kernel_rfl) (by rfl) (by go_simp; first | done | exact ⟨rfl, rfl⟩ | with_reducible rfl) rfl ?_
  refine (cbd w5).mono ?_
  rintro e' w6 ⟨rfl, hw6⟩
  have hS : (Below w5.heap.size w5) w6 := hS.trans (hw6.mono hS.size)
  refine ⟨_, rfl, hS, ?_⟩
  simp only [Act.put, List.setIfInBounds_toArray, List.set_cons_zero, List.set_cons_succ]
  refine hs_call (i := 8) (d := some 22) rfl (by kernel_rfl) (by rfl) (by go_simp; first | done | exact ⟨rfl, rfl⟩ | with_reducible rfl) rfl ?_
  refine (cch p w6 (hG.below (hB4.trans (hS.mono hB4.size))) (hk4.below hS)).mono ?_
  rintro e' w7 ⟨rfl, hw7⟩
  have hS : (Below w5.heap.size w5) w7 := hS.trans (hw7.mono hS.size)
  refine ⟨_, rfl, hS, ?_⟩
  simp only [Act.put, List.setIfInBounds_toArray, List.set_cons_zero, List.set_cons_succ]
  refine hs_take (i := 9) (d := some 23) (v := ?_) rfl (by kernel_rfl) (by kernel_rfl) (by kernel_rfl) (by rfl) ?_ hS rfl ?_
  rotate_left
  · intro w' hw
    go_simp
    try with_reducible rfl
  simp only [Act.put, List.setIfInBounds_toArray, List.set_cons_zero, List.set_cons_succ]
  refine hs_take (i := 10) (d := some 24) (v := ?_) rfl (by kernel_rfl) (by kernel_rfl) (by kernel_rfl) (by rfl) ?_ hS rfl ?_
  rotate_left
  · intro w' hw
    go_simp
    try with_reducible rfl
  simp only [Act.put, List.setIfInBounds_toArray, List.set_cons_zero, List.set_cons_succ]
  refine hs_take (i := 11) (d := some 25) (v := ?_) rfl (by kernel_rfl) (by kernel_rfl) (by kernel_rfl) (by rfl) ?_ hS rfl ?_
  rotate_left
  · intro w' hw
    go_simp
    try with_reducible rfl
  simp only [Act.put, List.setIfInBounds_toArray, List.set_cons_zero, List.set_cons_succ]
  refine hs_take (i := 12) (d := some 26) (v := .agg Q.toArray) rfl (by kernel_rfl) (by kernel_rfl) (by kernel_rfl) (by rfl) (fun w' hw => exec_load rfl rfl (run_loadVar_mid (P := Tryd.prog) w' _ _ 33 Q _ (range_below hR4' hw hz4') Tryd.underlying33 rfl hiQ')) hS rfl ?_
  simp only [Act.put, List.setIfInBounds_toArray, List.set_cons_zero, List.set_cons_succ]
  refine hs_call (i := 13) (d := some 27) rfl (by kernel_rfl) (by rfl) (by go_simp; first | done | exact ⟨rfl, rfl⟩ | with_reducible rfl) rfl ?_
  refine (cg3 p w7 (hk4.below hS) (hG.below (hB4.trans (hS.mono hB4.size)))).mono ?_
  rintro e' w8 ⟨rfl, hw8⟩
  have hS : (Below w5.heap.size w5) w8 := hS.trans (hw8.mono hS.size)
  refine ⟨_, rfl, hS, ?_⟩
  simp only [Act.put, List.setIfInBounds_toArray, List.set_cons_zero, List.set_cons_succ]
  refine hs_take (i := 14) (d := some 28) (v := .bool true) rfl (by kernel_rfl) (by kernel_rfl) (by kernel_rfl) (by rfl) (fun w' hw => by go_simp) hS rfl ?_
  simp only [Act.put, List.setIfInBounds_toArray, List.set_cons_zero, List.set_cons_succ]
  refine hs_take (i := 15) (d := some 29) (v := ?_) rfl (by kernel_rfl) (by kernel_rfl) (by kernel_rfl) (by rfl) ?_ hS rfl ?_
  rotate_left
  · intro w' hw
    go_simp
    try with_reducible rfl
  simp only [Act.put, List.setIfInBounds_toArray, List.set_cons_zero, List.set_cons_succ]
  refine hs_take (i := 16) (d := some 30) (v := ?_) rfl (by kernel_rfl) (by kernel_rfl) (by kernel_rfl) (by rfl) ?_ hS rfl ?_
  rotate_left
  · intro w' hw
    go_simp
    try with_reducible rfl
  simp only [Act.put, List.setIfInBounds_toArray, List.set_cons_zero, List.set_cons_succ]
  refine hs_take (i := 17) (d := some 31) (v := ?_) rfl (by kernel_rfl) (by kernel_rfl) (by kernel_rfl) (by rfl) ?_ hS rfl ?_
  rotate_left
  · intro w' hw
    go_simp
    try with_reducible rfl
  simp only [Act.put, List.setIfInBounds_toArray, List.set_cons_zero, List.set_cons_succ]
  refine hs_take (i := 18) (d := some 32) (v := .agg Q.toArray) rfl (by kernel_rfl) (by kernel_rfl) (by kernel_rfl) (by rfl) (fun w' hw => exec_load rfl rfl (run_loadVar_mid (P := Tryd.prog) w' _ _ 33 Q _ (range_below hR4' hw hz4') Tryd.underlying33 rfl hiQ')) hS rfl ?_
  simp only [Act.put, List.setIfInBounds_toArray, List.set_cons_zero, List.set_cons_succ]
  refine hs_call (i := 19) (d := some 33) rfl (by kernel_rfl) (by rfl) (by go_simp; first | done | exact ⟨rfl, rfl⟩ | with_reducible rfl) rfl ?_
  refine (cg2 p w8 (hk4.below hS) (hG.below (hB4.trans (hS.mono hB4.size)))).mono ?_
  rintro e' w9 ⟨rfl, hw9⟩
  have hS : (Below w5.heap.size w5) w9 := hS.trans (hw9.mono hS.size)
  refine ⟨_, rfl, hS, ?_⟩
  simp only [Act.put, List.setIfInBounds_toArray, List.set_cons_zero, List.set_cons_succ]
  refine hs_take (i := 20) (d := some 34) (v := .bool true) rfl (by kernel_rfl) (by kernel_rfl) (by kernel_rfl) (by rfl) (fun w' hw => by go_simp) hS rfl ?_
  simp only [Act.put, List.setIfInBounds_toArray, List.set_cons_zero, List.set_cons_succ]
  refine hs_take (i := 21) (d := some 35) (v := ?_) rfl (by kernel_rfl) (by kernel_rfl) (by kernel_rfl) (by rfl) ?_ hS rfl ?_
  rotate_left
  · intro w' hw
    go_simp
    try with_reducible rfl
  simp only [Act.put, List.setIfInBounds_toArray, List.set_cons_zero, List.set_cons_succ]
  refine hs_take (i := 22) (d := some 0) (v := ?_) rfl (by kernel_rfl) (by kernel_rfl) (by kernel_rfl) (by rfl) ?_ hS rfl ?_
  rotate_left
  · intro w' hw
    go_simp
    try with_reducible rfl
  simp only [Act.put, List.setIfInBounds_toArray, List.set_cons_zero]
  refine hs_done (by kernel_rfl) ?_
  have hfin := hB4.trans (hS.mono hB4.size)
  go_wp2_with fail
  go_ret
  exact ⟨rfl, hfin⟩
end Go.Proofs.YtbfhpgneaklgoabDoor
