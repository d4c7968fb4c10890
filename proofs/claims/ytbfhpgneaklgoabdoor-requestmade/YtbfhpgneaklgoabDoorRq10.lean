/- The law of what was made: the walk -/
import Derived.Test.YtbfhpgneaklgoabDoorRq9
import Derived.Deep.QuietTactic
import Derived.BigQuiet
namespace Go.Proofs.YtbfhpgneaklgoabDoor
open Go.RowKit
open Sha Tal
theorem umodc (z : Int) (c : Int) (hc : 0 < c) (hm : c ≤ 65) : ∃ p : Int, 0 ≤ p ∧ p < c ∧ wrap64 ((IntKind.u64.wrap z).tmod c) = p := by
  rw [IntKind.wrap_u64]
  have h0' : 0 ≤ z % 18446744073709551616 := Int.emod_nonneg _ (by decide)
  generalize z % 18446744073709551616 = q at h0'
  rw [Int.tmod_eq_emod_of_nonneg h0']
  have h1 := Int.emod_nonneg q (b := c) (by omega)
  have h2 := Int.emod_lt_of_pos q (b := c) (by omega)
  refine ⟨q % c, h1, h2, ?_⟩
  generalize q % c = r at h1 h2
  simp only [wrap64]
  omega
theorem tagV_in (N c n : Int) (s : ByteArray) (hN : 0 ≤ N ∧ N < 65) (hc : 0 ≤ c ∧ c < 8) : tagV (keysOf seedR 72) N c n s = refSignOf seedR 72 (N + c) (strOf (bodyL c n s)) := by
  unfold tagV
  rw [keysOf_length, if_neg (show ¬ (N < 0 ∨ 64 < N ∨ ((72 : Nat) : Int) - N ≤ c) by omega), sign_same seedR 72 (by decide)]
  rfl
theorem tagV_ok (N c n : Int) (s : ByteArray) (hN : 0 ≤ N ∧ N < 65) (hc : 0 ≤ c ∧ c < 8) : (tagV (keysOf seedR 72) N c n s).2 = 0 := by
  unfold tagV
  rw [keysOf_length, if_neg (show ¬ (N < 0 ∨ 64 < N ∨ ((72 : Nat) : Int) - N ≤ c) by omega)]
  obtain ⟨k, hk⟩ := Int.eq_ofNat_of_zero_le (show 0 ≤ N + c by omega)
  rw [hk]
  exact sign_in seedR 72 k (by omega) _
theorem made_no (N c n : Int) (s : ByteArray) (hn : ¬ (1 ≤ n ∧ n ≤ 1099511627776)) : makeV (keysOf seedR 72) N c n s = (noReq, 60) := by
  unfold makeV
  rw [keysOf_length, if_neg (show ¬ (72 : Nat) = 0 by decide), if_pos (show ¬ (0 ≤ c ∧ c < 8 ∧ 1 ≤ n ∧ n ≤ 1099511627776 ∧ s.size ≤ 64) by omega)]
theorem made_yes (N c n : Int) (s : ByteArray) (hN : 0 ≤ N ∧ N < 65) (hc : 0 ≤ c ∧ c < 8) (hn : 1 ≤ n ∧ n ≤ 1099511627776) (hs : s.size ≤ 64) : makeV (keysOf seedR 72) N c n s = (reqL c n s (tagV (keysOf seedR 72) N c n s).1, 0) := by
  unfold makeV
  have h1 : ¬ ¬ (0 ≤ c ∧ c < 8 ∧ 1 ≤ n ∧ n ≤ 1099511627776 ∧ s.size ≤ 64) := fun q => q (by omega)
  have h2 : ¬ ((0 : Int) ≠ 0) := by decide
  rw [keysOf_length, if_neg (show ¬ (72 : Nat) = 0 by decide), if_neg h1, tagV_ok N c n s hN hc, if_neg h2]
theorem good_no (N m c n : Int) (s : ByteArray) (t : List Int) (hn : ¬ (1 ≤ n ∧ n ≤ 1099511627776)) : goodV (keysOf seedR 72) N m c n s t = 60 := by
  unfold goodV
  rw [keysOf_length, if_neg (show ¬ (72 : Nat) = 0 by decide), if_pos (show ¬ (0 ≤ c ∧ c < m ∧ 1 ≤ n ∧ n ≤ 1099511627776 ∧ s.size ≤ 64) by omega)]
theorem good_yes (N m c n : Int) (s : ByteArray) (t : List Int) (hN : 0 ≤ N ∧ N < 65) (hc : 0 ≤ c ∧ c < 8) (hm : c < m) (hn : 1 ≤ n ∧ n ≤ 1099511627776) (hs : s.size ≤ 64) : goodV (keysOf seedR 72) N m c n s t = if (refSignOf seedR 72 (N + c) (strOf (bodyL c n s))).1 = t then 0 else 61 := by
  unfold goodV
  have h1 : ¬ ¬ (0 ≤ c ∧ c < m ∧ 1 ≤ n ∧ n ≤ 1099511627776 ∧ s.size ≤ 64) := fun q => q (by omega)
  have h2 : ¬ ((0 : Int) ≠ 0) := by decide
  rw [keysOf_length, if_neg (show ¬ (72 : Nat) = 0 by decide), if_neg h1, tagV_ok N c n s hN hc, if_neg h2, tagV_in N c n s hN hc]
set_option maxRecDepth 100000 in
set_option maxHeartbeats 4000000 in
theorem made_bigA (N0 M0 c0 n u : Int) (s d : ByteArray) (w : World) (hG : Glob w) (h1 : 64 < s.size) :
   Calls Tryd.prog 6 #[.agg (askL N0 M0 c0 n s).toArray, .int .i64 u, .string d] w fun e w' => e = .returned (.bool true) ∧ Below w.heap.size w w' := by
  have hB0 : Below w.heap.size w (w.alloc (.cells (askL N0 M0 c0 n s).toArray 23)) := (Below.refl _ _).alloc (Nat.le_refl _) _
  have hA0 := ask_cells w N0 M0 c0 n s
  have hz0 : w.heap.size < (w.alloc (.cells (askL N0 M0 c0 n s).toArray 23)).heap.size := by simp
  have haL := fun (w0 : World) (b0 : Nat) h0 => @askL_at w0 b0 N0 M0 c0 n s h0
  obtain ⟨A, hA⟩ : ∃ A, Hid (askL N0 M0 c0 n s = A) := ⟨_, hide rfl⟩
  rw [hA.out] at hB0 hA0 hz0 ⊢
  simp only [hA.out] at haL
  go_enter Tryd.func6, Tryd.ntmps6
  go_upto_region 1 with fail
  go_name_world w1 hw1
  rw [hw1] at hB0 hA0 hz0
  clear hw1
  obtain ⟨X, hX⟩ : ∃ X, Hid (w.heap.size = X) := ⟨_, hide rfl⟩
  rw [hX.out] at hA0 hz0 ⊢
  obtain ⟨a0, a1, a2, a3, a4⟩ := haL w1 X hA0
  try simp only [Act.put]
  have h1' : (64 : Int) < s.size := by omega
  go_wp2_with (go_at_call 8; refine (lives6_any w1 (hG.below hB0)).mono ?_; rintro e w9 ⟨rfl, hw9⟩)
  go_ret
  exact ⟨rfl, hB0.trans (hw9.mono hB0.size)⟩
set_option maxRecDepth 100000 in
set_option maxHeartbeats 4000000 in
theorem made_bigB (N0 M0 c0 n u : Int) (s d : ByteArray) (w : World) (hG : Glob w) (h1 : s.size ≤ 64) (h2 : 64 < d.size) :
   Calls Tryd.prog 6 #[.agg (askL N0 M0 c0 n s).toArray, .int .i64 u, .string d] w fun e w' => e = .returned (.bool true) ∧ Below w.heap.size w w' := by
  have hB0 : Below w.heap.size w (w.alloc (.cells (askL N0 M0 c0 n s).toArray 23)) := (Below.refl _ _).alloc (Nat.le_refl _) _
  have hA0 := ask_cells w N0 M0 c0 n s
  have hz0 : w.heap.size < (w.alloc (.cells (askL N0 M0 c0 n s).toArray 23)).heap.size := by simp
  have haL := fun (w0 : World) (b0 : Nat) h0 => @askL_at w0 b0 N0 M0 c0 n s h0
  obtain ⟨A, hA⟩ : ∃ A, Hid (askL N0 M0 c0 n s = A) := ⟨_, hide rfl⟩
  rw [hA.out] at hB0 hA0 hz0 ⊢
  simp only [hA.out] at haL
  go_enter Tryd.func6, Tryd.ntmps6
  go_upto_region 1 with fail
  go_name_world w1 hw1
  rw [hw1] at hB0 hA0 hz0
  clear hw1
  obtain ⟨X, hX⟩ : ∃ X, Hid (w.heap.size = X) := ⟨_, hide rfl⟩
  rw [hX.out] at hA0 hz0 ⊢
  obtain ⟨a0, a1, a2, a3, a4⟩ := haL w1 X hA0
  try simp only [Act.put]
  have h1' : ¬ (64 : Int) < s.size := by omega
  have h2' : (64 : Int) < d.size := by omega
  go_wp2_with (go_at_call 8; refine (lives6_any w1 (hG.below hB0)).mono ?_; rintro e w9 ⟨rfl, hw9⟩)
  go_ret
  exact ⟨rfl, hB0.trans (hw9.mono hB0.size)⟩
set_option maxRecDepth 100000 in
set_option maxHeartbeats 4000000 in
theorem made_noN (N0 M0 c0 n u : Int) (s d : ByteArray) (w : World) (hG : Glob w) (hs : s.size ≤ 64) (hd : d.size ≤ 64) (hn : ¬ (1 ≤ n ∧ n ≤ 1099511627776)) :
   Calls Tryd.prog 6 #[.agg (askL N0 M0 c0 n s).toArray, .int .i64 u, .string d] w fun e w' => e = .returned (.bool true) ∧ Below w.heap.size w w' := by
  have hB0 : Below w.heap.size w (w.alloc (.cells (askL N0 M0 c0 n s).toArray 23)) := (Below.refl _ _).alloc (Nat.le_refl _) _
  have hA0 := ask_cells w N0 M0 c0 n s
  have hz0 : w.heap.size < (w.alloc (.cells (askL N0 M0 c0 n s).toArray 23)).heap.size := by simp
  have haL := fun (w0 : World) (b0 : Nat) h0 => @askL_at w0 b0 N0 M0 c0 n s h0
  obtain ⟨A, hA⟩ : ∃ A, Hid (askL N0 M0 c0 n s = A) := ⟨_, hide rfl⟩
  rw [hA.out] at hB0 hA0 hz0 ⊢
  simp only [hA.out] at haL
  have hiK : (Tryd.prog.info? 27).map (·.size) = some rkL.toArray.size := iszK
  have hiK' : (Tryd.prog.info? 27).map (·.size) = some rkL.length := iszK
  have hoK : (rkL.toArray.all fun x => x.oneCell') = true := by simp [rkL, Value.oneCell']
  obtain ⟨N, hN0, hN1, eN⟩ := umodc N0 65 (by decide) (by decide)
  obtain ⟨C, hC0, hC1, eC⟩ := umodc c0 8 (by decide) (by decide)
  have hiN := iszN
  have hoN := all_oneCell_toArray (reqL_one 0 0 ⟨#[]⟩ zeros16)
  change (noReq.toArray.all fun x => x.oneCell') = true at hoN
  have hNl : noReq.length = 19 := reqL_length _ _ _ _ rfl
  have cmk := fun p w0 h0 hG0 => make_any p (keysOf seedR 72) N C n s w0 h0 hG0
  simp only [made_no N C n s hn] at cmk
  obtain ⟨Z, hZ⟩ : ∃ Z, Hid (noReq = Z) := ⟨_, hide rfl⟩
  rw [hZ.out] at hiN hoN hNl
  simp only [hZ.out] at cmk
  have HNL := hide hNl
  clear hNl
  go_enter Tryd.func6, Tryd.ntmps6
  go_upto_region 1 with fail
  go_name_world w1 hw1
  rw [hw1] at hB0 hA0 hz0
  clear hw1
  obtain ⟨X, hX⟩ : ∃ X, Hid (w.heap.size = X) := ⟨_, hide rfl⟩
  rw [hX.out] at hA0 hz0 ⊢
  obtain ⟨a0, a1, a2, a3, a4⟩ := haL w1 X hA0
  try simp only [Act.put]
  have h1' : ¬ (64 : Int) < s.size := by omega
  have h2' : ¬ (64 : Int) < d.size := by omega
  go_wp2_with fail
  refine (keys6_any w1 (hG.below hB0)).mono ?_
  rintro e w2 ⟨p, rfl, hp, hk2, hw2⟩
  have hB2 := hB0.trans (hw2.mono hB0.size)
  have hA2 := range_below hA0 hw2 hz0
  have hz2 := Nat.lt_of_lt_of_le hz0 hw2.size
  clear hB0 hA0 hz0 hw2 a0 a1 a2 a3 a4 h1' h2'
  have F := fresh_store w2 #[.string ⟨#[]⟩, .int .i64 0] 27 rkL rfl
  have hN2 : (w2.alloc (.cells #[.string ⟨#[]⟩, .int .i64 0] 27)).there w2.heap.size 0 rkL.toArray.size := there_new w2 #[.string ⟨#[]⟩, .int .i64 0] 27
  go_upto_region 4 with (refine wpList_store_mid (op := ⟨none, .store 27 (.tmp 8) (.tmp 30), _, _, _, none⟩) rfl 27 _ _ rfl _ _ rkL.toArray rfl rfl hN2 hiK hoK ?_)
  go_name_world w3 hw3
  rw [show (w2.alloc (.cells #[.string ⟨#[]⟩, .int .i64 0] 27)).setCells w2.heap.size 0 rkL = w3 from hw3] at F
  clear hw3 hN2 hiK hoK
  obtain ⟨hR3, hF3, hz3, _⟩ := F
  have hB3 := hB2.trans (hF3.mono hB2.size)
  have hA3 := range_below hA2 hF3 hz2
  have hk3 := hk2.below hF3
  obtain ⟨Y, hY⟩ : ∃ Y, Hid (w2.heap.size = Y) := ⟨_, hide rfl⟩
  have hXY : X < Y := by rw [← hY.out]; exact hz2
  rw [hY.out] at hR3 hz3 ⊢
  have hY3' : Y < w3.heap.size := by omega
  clear hB2 hA2 hk2 hF3 hz2 hz3
  obtain ⟨a0, a1, a2, a3, a4⟩ := haL w3 X hA3
  try simp only [Act.put]
  go_quiet (fail)
  rw [eN, eC]
  clear eN eC a0 a1 a2 a3 a4
  have hq4 : Below w3.heap.size w3 (w3.drewN nq) := below_drewN (Below.refl _ _) _
  obtain ⟨w4, hw4⟩ : ∃ w4, w3.drewN nq = w4 := ⟨_, rfl⟩
  rw [hw4] at hq4 ⊢
  clear hw4
  have hB4 := hB3.trans (hq4.mono hB3.size)
  have hk4 := hk3.below hq4
  have hA4 := range_below hA3 hq4 (by omega)
  have hR4 := range_below hR3 hq4 (by omega)
  have hY4' := Nat.lt_of_lt_of_le hY3' hq4.size
  clear hB3 hk3 hA3 hR3 hY3' hq4
  obtain ⟨a0, a1, a2, a3, a4⟩ := haL w4 X hA4
  go_wp2_with fail
  refine (cmk p w4 hk4 (hG.below hB4)).mono ?_
  rintro e w5 ⟨rfl, hw5⟩
  clear cmk a0 a1 a2 a3 a4
  have hB5 := hB4.trans (hw5.mono hB4.size)
  have hk5 := hk4.below hw5
  have hA5 := range_below hA4 hw5 (by omega)
  have hR5 := range_below hR4 hw5 (by omega)
  have hY5' := Nat.lt_of_lt_of_le hY4' hw5.size
  clear hB4 hk4 hA4 hR4 hY4' hw5
  have F := fresh_store w5 #[.int .i64 0, .int .i64 0, .string ⟨#[]⟩, .int .u8 0, .int .u8 0, .int .u8 0, .int .u8 0, .int .u8 0, .int .u8 0, .int .u8 0, .int .u8 0, .int .u8 0, .int .u8 0, .int .u8 0, .int .u8 0, .int .u8 0, .int .u8 0, .int .u8 0, .int .u8 0] 33 Z (by rw [HNL.out]; rfl)
  have hN : (w5.alloc (.cells #[.int .i64 0, .int .i64 0, .string ⟨#[]⟩, .int .u8 0, .int .u8 0, .int .u8 0, .int .u8 0, .int .u8 0, .int .u8 0, .int .u8 0, .int .u8 0, .int .u8 0, .int .u8 0, .int .u8 0, .int .u8 0, .int .u8 0, .int .u8 0, .int .u8 0, .int .u8 0] 33)).there w5.heap.size 0 Z.toArray.size := by
    have := there_new w5 #[.int .i64 0, .int .i64 0, .string ⟨#[]⟩, .int .u8 0, .int .u8 0, .int .u8 0, .int .u8 0, .int .u8 0, .int .u8 0, .int .u8 0, .int .u8 0, .int .u8 0, .int .u8 0, .int .u8 0, .int .u8 0, .int .u8 0, .int .u8 0, .int .u8 0, .int .u8 0] 33
    have e : Z.toArray.size = 19 := by have := HNL.out; simpa using this
    rw [e]; exact this
  go_upto_region 6 with (refine wpList_store_mid (op := ⟨none, .store 33 (.tmp 11) (.tmp 50), _, _, _, none⟩) rfl 33 _ _ rfl _ _ Z.toArray rfl rfl hN hiN hoN ?_)
  go_name_world w6 hwn
  rw [show (w5.alloc (.cells #[.int .i64 0, .int .i64 0, .string ⟨#[]⟩, .int .u8 0, .int .u8 0, .int .u8 0, .int .u8 0, .int .u8 0, .int .u8 0, .int .u8 0, .int .u8 0, .int .u8 0, .int .u8 0, .int .u8 0, .int .u8 0, .int .u8 0, .int .u8 0, .int .u8 0, .int .u8 0] 33)).setCells w5.heap.size 0 Z = w6 from hwn] at F
  clear hwn hN
  obtain ⟨hRU6, hF6, hzz, hTU6⟩ := F
  have hTU6 : w6.there w5.heap.size 0 19 := hTU6
  obtain ⟨U, hU⟩ : ∃ U, Hid (w5.heap.size = U) := ⟨_, hide rfl⟩
  have hUb : Y < U := by rw [← hU.out]; omega
  rw [hU.out] at hRU6 hTU6 hzz ⊢
  have hU6' : U < w6.heap.size := by omega
  clear hzz
  try simp only [Act.put]
  have hB6 := hB5.trans (hF6.mono hB5.size)
  have hk6 := hk5.below hF6
  have hA6 := range_below hA5 hF6 (by omega)
  have hR6 := range_below hR5 hF6 (by omega)
  have hY6' := Nat.lt_of_lt_of_le hY5' hF6.size
  clear hB5 hk5 hA5 hR5 hY5' hF6
  obtain ⟨a0, a1, a2, a3, a4⟩ := haL w6 X hA6
  by_cases hn1 : n < 1
  · go_wp2_with fail
    refine (lives6_any w6 (hG.below hB6)).mono ?_
    rintro e w7 ⟨rfl, hw7⟩
    go_wp2_with fail
    go_ret
    exact ⟨rfl, hB6.trans (hw7.mono hB6.size)⟩
  · have hn2 : 1099511627776 < n := by omega
    go_wp2_with fail
    refine (lives6_any w6 (hG.below hB6)).mono ?_
    rintro e w7 ⟨rfl, hw7⟩
    go_wp2_with fail
    go_ret
    exact ⟨rfl, hB6.trans (hw7.mono hB6.size)⟩
set_option maxRecDepth 100000 in
set_option maxHeartbeats 4000000 in
theorem made_noU (N0 M0 c0 n u : Int) (s d : ByteArray) (w : World) (hG : Glob w) (hs : s.size ≤ 64) (hd : d.size ≤ 64) (hn : 1 ≤ n ∧ n ≤ 1099511627776) (hu : ¬ (1 ≤ u ∧ u ≤ 1099511627776)) :
   Calls Tryd.prog 6 #[.agg (askL N0 M0 c0 n s).toArray, .int .i64 u, .string d] w fun e w' => e = .returned (.bool true) ∧ Below w.heap.size w w' := by
  have hB0 : Below w.heap.size w (w.alloc (.cells (askL N0 M0 c0 n s).toArray 23)) := (Below.refl _ _).alloc (Nat.le_refl _) _
  have hA0 := ask_cells w N0 M0 c0 n s
  have hz0 : w.heap.size < (w.alloc (.cells (askL N0 M0 c0 n s).toArray 23)).heap.size := by simp
  have haL := fun (w0 : World) (b0 : Nat) h0 => @askL_at w0 b0 N0 M0 c0 n s h0
  obtain ⟨A, hA⟩ : ∃ A, Hid (askL N0 M0 c0 n s = A) := ⟨_, hide rfl⟩
  rw [hA.out] at hB0 hA0 hz0 ⊢
  simp only [hA.out] at haL
  have hiK : (Tryd.prog.info? 27).map (·.size) = some rkL.toArray.size := iszK
  have hiK' : (Tryd.prog.info? 27).map (·.size) = some rkL.length := iszK
  have hoK : (rkL.toArray.all fun x => x.oneCell') = true := by simp [rkL, Value.oneCell']
  obtain ⟨N, hN0, hN1, eN⟩ := umodc N0 65 (by decide) (by decide)
  obtain ⟨C, hC0, hC1, eC⟩ := umodc c0 8 (by decide) (by decide)
  have cmk := fun p w0 h0 hG0 => make_any p (keysOf seedR 72) N C n s w0 h0 hG0
  simp only [made_yes N C n s ⟨hN0, hN1⟩ ⟨hC0, hC1⟩ hn hs] at cmk
  have htl := tagV_length (keysOf seedR 72) N C n s
  have hti := tagV_in N C n s ⟨hN0, hN1⟩ ⟨hC0, hC1⟩
  obtain ⟨t, ht0⟩ : ∃ t, Hid ((tagV (keysOf seedR 72) N C n s).1 = t) := ⟨_, hide rfl⟩
  simp only [ht0.out] at cmk
  rw [ht0.out] at htl
  have cg1 := fun p w0 h0 hG0 => good_any p (keysOf seedR 72) N (C + 1) C n s t w0 h0 hG0 htl (by omega)
  have hg1 : goodV (keysOf seedR 72) N (C + 1) C n s t = 0 := by
    rw [good_yes N (C + 1) C n s t ⟨hN0, hN1⟩ ⟨hC0, hC1⟩ (by omega) hn hs, ← hti, if_pos ht0.out]
  simp only [hg1] at cg1
  clear hg1 hti
  have cg2 := fun p w0 h0 hG0 => good_any p (keysOf seedR 72) N 8 C u d t w0 h0 hG0 htl (by omega)
  have hiQ : (Tryd.prog.info? 33).map (·.size) = some (reqL C n s t).toArray.size := by rw [List.size_toArray, reqL_length _ _ _ _ htl]; exact iszR
  have hiQ' : (Tryd.prog.info? 33).map (·.size) = some (reqL C n s t).length := by rw [reqL_length _ _ _ _ htl]; exact iszR
  have hoQ := all_oneCell_toArray (reqL_one C n s t)
  have hlQ : (reqL C n s t).length = 19 := reqL_length _ _ _ _ htl
  have hiE' : (Tryd.prog.info? 33).map (·.size) = some (reqL C u d t).length := by rw [reqL_length _ _ _ _ htl]; exact iszR
  have hset : ((reqL C n s t).set 1 (.int .i64 u)).set 2 (.string d) = reqL C u d t := rfl
  have hq0 := fun (w0 : World) (b0 : Nat) h0 => @reqL_0 w0 b0 C n s t h0
  have htg := fun (w0 : World) (b0 : Nat) h1 => @reqL_tag w0 b0 C n s t h1
  simp only [good_no N 8 C u d t hu] at cg2
  obtain ⟨Q, hQ⟩ : ∃ Q, Hid (reqL C n s t = Q) := ⟨_, hide rfl⟩
  obtain ⟨E, hE⟩ : ∃ E, Hid (reqL C u d t = E) := ⟨_, hide rfl⟩
  simp only [hQ.out] at cmk cg1 hq0 htg
  simp only [hE.out] at cg2
  rw [hQ.out] at hiQ hiQ' hoQ hlQ hset
  rw [hE.out] at hiE' hset
  have HSET := hide hset
  have HLQ := hide hlQ
  clear hlQ hset
  go_enter Tryd.func6, Tryd.ntmps6
  go_upto_region 1 with fail
  go_name_world w1 hw1
  rw [hw1] at hB0 hA0 hz0
  clear hw1
  obtain ⟨X, hX⟩ : ∃ X, Hid (w.heap.size = X) := ⟨_, hide rfl⟩
  rw [hX.out] at hA0 hz0 ⊢
  obtain ⟨a0, a1, a2, a3, a4⟩ := haL w1 X hA0
  try simp only [Act.put]
  have h1' : ¬ (64 : Int) < s.size := by omega
  have h2' : ¬ (64 : Int) < d.size := by omega
  go_wp2_with fail
  refine (keys6_any w1 (hG.below hB0)).mono ?_
  rintro e w2 ⟨p, rfl, hp, hk2, hw2⟩
  have hB2 := hB0.trans (hw2.mono hB0.size)
  have hA2 := range_below hA0 hw2 hz0
  have hz2 := Nat.lt_of_lt_of_le hz0 hw2.size
  clear hB0 hA0 hz0 hw2 a0 a1 a2 a3 a4 h1' h2'
  have F := fresh_store w2 #[.string ⟨#[]⟩, .int .i64 0] 27 rkL rfl
  have hN2 : (w2.alloc (.cells #[.string ⟨#[]⟩, .int .i64 0] 27)).there w2.heap.size 0 rkL.toArray.size := there_new w2 #[.string ⟨#[]⟩, .int .i64 0] 27
  go_upto_region 4 with (refine wpList_store_mid (op := ⟨none, .store 27 (.tmp 8) (.tmp 30), _, _, _, none⟩) rfl 27 _ _ rfl _ _ rkL.toArray rfl rfl hN2 hiK hoK ?_)
  go_name_world w3 hw3
  rw [show (w2.alloc (.cells #[.string ⟨#[]⟩, .int .i64 0] 27)).setCells w2.heap.size 0 rkL = w3 from hw3] at F
  clear hw3 hN2 hiK hoK
  obtain ⟨hR3, hF3, hz3, _⟩ := F
  have hB3 := hB2.trans (hF3.mono hB2.size)
  have hA3 := range_below hA2 hF3 hz2
  have hk3 := hk2.below hF3
  obtain ⟨Y, hY⟩ : ∃ Y, Hid (w2.heap.size = Y) := ⟨_, hide rfl⟩
  have hXY : X < Y := by rw [← hY.out]; exact hz2
  rw [hY.out] at hR3 hz3 ⊢
  have hY3' : Y < w3.heap.size := by omega
  clear hB2 hA2 hk2 hF3 hz2 hz3
  obtain ⟨a0, a1, a2, a3, a4⟩ := haL w3 X hA3
  try simp only [Act.put]
  go_quiet (fail)
  rw [eN, eC]
  clear eN eC a0 a1 a2 a3 a4
  have hq4 : Below w3.heap.size w3 (w3.drewN nq) := below_drewN (Below.refl _ _) _
  obtain ⟨w4, hw4⟩ : ∃ w4, w3.drewN nq = w4 := ⟨_, rfl⟩
  rw [hw4] at hq4 ⊢
  clear hw4
  have hB4 := hB3.trans (hq4.mono hB3.size)
  have hk4 := hk3.below hq4
  have hA4 := range_below hA3 hq4 (by omega)
  have hR4 := range_below hR3 hq4 (by omega)
  have hY4' := Nat.lt_of_lt_of_le hY3' hq4.size
  clear hB3 hk3 hA3 hR3 hY3' hq4
  obtain ⟨a0, a1, a2, a3, a4⟩ := haL w4 X hA4
  go_wp2_with fail
  refine (cmk p w4 hk4 (hG.below hB4)).mono ?_
  rintro e w5 ⟨rfl, hw5⟩
  clear cmk a0 a1 a2 a3 a4
  have hB5 := hB4.trans (hw5.mono hB4.size)
  have hk5 := hk4.below hw5
  have hA5 := range_below hA4 hw5 (by omega)
  have hR5 := range_below hR4 hw5 (by omega)
  have hY5' := Nat.lt_of_lt_of_le hY4' hw5.size
  clear hB4 hk4 hA4 hR4 hY4' hw5
  have F := fresh_store w5 #[.int .i64 0, .int .i64 0, .string ⟨#[]⟩, .int .u8 0, .int .u8 0, .int .u8 0, .int .u8 0, .int .u8 0, .int .u8 0, .int .u8 0, .int .u8 0, .int .u8 0, .int .u8 0, .int .u8 0, .int .u8 0, .int .u8 0, .int .u8 0, .int .u8 0, .int .u8 0] 33 Q (by rw [HLQ.out]; rfl)
  have hN : (w5.alloc (.cells #[.int .i64 0, .int .i64 0, .string ⟨#[]⟩, .int .u8 0, .int .u8 0, .int .u8 0, .int .u8 0, .int .u8 0, .int .u8 0, .int .u8 0, .int .u8 0, .int .u8 0, .int .u8 0, .int .u8 0, .int .u8 0, .int .u8 0, .int .u8 0, .int .u8 0, .int .u8 0] 33)).there w5.heap.size 0 Q.toArray.size := by
    have := there_new w5 #[.int .i64 0, .int .i64 0, .string ⟨#[]⟩, .int .u8 0, .int .u8 0, .int .u8 0, .int .u8 0, .int .u8 0, .int .u8 0, .int .u8 0, .int .u8 0, .int .u8 0, .int .u8 0, .int .u8 0, .int .u8 0, .int .u8 0, .int .u8 0, .int .u8 0, .int .u8 0] 33
    have e : Q.toArray.size = 19 := by have := HLQ.out; simpa using this
    rw [e]; exact this
  go_upto_region 6 with (refine wpList_store_mid (op := ⟨none, .store 33 (.tmp 11) (.tmp 50), _, _, _, none⟩) rfl 33 _ _ rfl _ _ Q.toArray rfl rfl hN hiQ hoQ ?_)
  go_name_world w6 hwn
  rw [show (w5.alloc (.cells #[.int .i64 0, .int .i64 0, .string ⟨#[]⟩, .int .u8 0, .int .u8 0, .int .u8 0, .int .u8 0, .int .u8 0, .int .u8 0, .int .u8 0, .int .u8 0, .int .u8 0, .int .u8 0, .int .u8 0, .int .u8 0, .int .u8 0, .int .u8 0, .int .u8 0, .int .u8 0] 33)).setCells w5.heap.size 0 Q = w6 from hwn] at F
  clear hwn hN
  obtain ⟨hRU6, hF6, hzz, hTU6⟩ := F
  have hTU6 : w6.there w5.heap.size 0 19 := hTU6
  obtain ⟨U, hU⟩ : ∃ U, Hid (w5.heap.size = U) := ⟨_, hide rfl⟩
  have hUb : Y < U := by rw [← hU.out]; omega
  rw [hU.out] at hRU6 hTU6 hzz ⊢
  have hU6' : U < w6.heap.size := by omega
  clear hzz
  try simp only [Act.put]
  have hB6 := hB5.trans (hF6.mono hB5.size)
  have hk6 := hk5.below hF6
  have hA6 := range_below hA5 hF6 (by omega)
  have hR6 := range_below hR5 hF6 (by omega)
  have hY6' := Nat.lt_of_lt_of_le hY5' hF6.size
  clear hB5 hk5 hA5 hR5 hY5' hF6
  clear hTU6
  go_upto_region 8 with fail
  try simp only [Act.put]
  refine wp_region_list ?_
  refine wpList_step fun K hK => ?_
  go_simp
  refine hK _ _ ?_
  clear hK K
  refine wpList_step fun K hK => ?_
  go_simp
  refine hK _ _ ?_
  clear hK K
  refine wpList_step fun K hK => ?_
  go_simp
  refine hK _ _ ?_
  clear hK K
  refine wpList_step fun K hK => ?_
  go_simp
  refine hK _ _ ?_
  clear hK K
  refine wpList_load_mid rfl 33 _ rfl _ _ rfl Q _ hRU6 Tryd.underlying33 rfl hiQ' ?_
  go_wp2_with fail
  refine (cg1 p w6 hk6 (hG.below hB6)).mono ?_
  rintro e w7 ⟨rfl, hw7⟩
  clear cg1
  have hB7 := hB6.trans (hw7.mono hB6.size)
  have hk7 := hk6.below hw7
  have hA7 := range_below hA6 hw7 (by omega)
  have hR7 := range_below hR6 hw7 (by omega)
  have hRU7 := range_below hRU6 hw7 (by omega)
  have hY7' := Nat.lt_of_lt_of_le hY6' hw7.size
  have hU7' := Nat.lt_of_lt_of_le hU6' hw7.size
  clear hB6 hk6 hA6 hR6 hRU6 hY6' hU6' hw7
  go_upto_region 10 with fail
  try simp only [Act.put]
  refine wp_region_list ?_
  refine wpList_load_mid rfl 33 _ rfl _ _ rfl Q _ hRU7 Tryd.underlying33 rfl hiQ' ?_
  have F := fresh_store w7 #[.int .i64 0, .int .i64 0, .string ⟨#[]⟩, .int .u8 0, .int .u8 0, .int .u8 0, .int .u8 0, .int .u8 0, .int .u8 0, .int .u8 0, .int .u8 0, .int .u8 0, .int .u8 0, .int .u8 0, .int .u8 0, .int .u8 0, .int .u8 0, .int .u8 0, .int .u8 0] 33 Q (by rw [HLQ.out]; rfl)
  have hN : (w7.alloc (.cells #[.int .i64 0, .int .i64 0, .string ⟨#[]⟩, .int .u8 0, .int .u8 0, .int .u8 0, .int .u8 0, .int .u8 0, .int .u8 0, .int .u8 0, .int .u8 0, .int .u8 0, .int .u8 0, .int .u8 0, .int .u8 0, .int .u8 0, .int .u8 0, .int .u8 0, .int .u8 0] 33)).there w7.heap.size 0 Q.toArray.size := by
    have := there_new w7 #[.int .i64 0, .int .i64 0, .string ⟨#[]⟩, .int .u8 0, .int .u8 0, .int .u8 0, .int .u8 0, .int .u8 0, .int .u8 0, .int .u8 0, .int .u8 0, .int .u8 0, .int .u8 0, .int .u8 0, .int .u8 0, .int .u8 0, .int .u8 0, .int .u8 0, .int .u8 0] 33
    have e : Q.toArray.size = 19 := by have := HLQ.out; simpa using this
    rw [e]; exact this
  go_upto_region 11 with (refine wpList_store_mid (op := ⟨none, .store 33 (.tmp 13) (.tmp 72), _, _, _, none⟩) rfl 33 _ _ rfl _ _ Q.toArray rfl rfl hN hiQ hoQ ?_)
  go_name_world w8 hwn
  rw [show (w7.alloc (.cells #[.int .i64 0, .int .i64 0, .string ⟨#[]⟩, .int .u8 0, .int .u8 0, .int .u8 0, .int .u8 0, .int .u8 0, .int .u8 0, .int .u8 0, .int .u8 0, .int .u8 0, .int .u8 0, .int .u8 0, .int .u8 0, .int .u8 0, .int .u8 0, .int .u8 0, .int .u8 0] 33)).setCells w7.heap.size 0 Q = w8 from hwn] at F
  clear hwn hN
  obtain ⟨hRV8, hF8, hzz, hTV8⟩ := F
  have hTV8 : w8.there w7.heap.size 0 19 := hTV8
  obtain ⟨V, hV⟩ : ∃ V, Hid (w7.heap.size = V) := ⟨_, hide rfl⟩
  have hVb : U < V := by rw [← hV.out]; omega
  rw [hV.out] at hRV8 hTV8 hzz ⊢
  have hV8' : V < w8.heap.size := by omega
  clear hzz
  try simp only [Act.put]
  have hk7c := hk7
  have hF8c := hF8
  have hB8 := hB7.trans (hF8.mono hB7.size)
  have hk8 := hk7.below hF8
  have hA8 := range_below hA7 hF8 (by omega)
  have hR8 := range_below hR7 hF8 (by omega)
  have hRU8 := range_below hRU7 hF8 (by omega)
  have hY8' := Nat.lt_of_lt_of_le hY7' hF8.size
  have hU8' := Nat.lt_of_lt_of_le hU7' hF8.size
  clear hB7 hk7 hA7 hR7 hRU7 hY7' hU7' hF8
  obtain ⟨q0, q1, q2⟩ := hq0 w8 V hRV8
  have f1 : w8.frozen? ⟨V, 1, none⟩ = false := by have := (hTV8 1 (by omega)).2; simpa using this
  have f2 : (w8.setCell ⟨V, 1, none⟩ (.int .i64 u)).frozen? ⟨V, 2, none⟩ = false := by have := (there_set hTV8 ⟨V, 1, none⟩ (.int .i64 u) 2 (by omega)).2; simpa using this
  have q2' : (w8.setCell ⟨V, 1, none⟩ (.int .i64 u)).cell? ⟨V, 2, none⟩ = some (.string s) := by
    have := range_set hRV8 1 (.int .i64 u) 2 (.string s) (by rw [← hQ.out]; rfl)
    simpa using this
  have hRV9 : ((w8.setCell ⟨V, 1, none⟩ (.int .i64 u)).setCell ⟨V, 2, none⟩ (.string d)).rangeAt V 0 E := by
    rw [← HSET.out]
    have := range_set (range_set hRV8 1 (.int .i64 u)) 2 (.string d)
    simpa using this
  have hB89 : Below V w8 ((w8.setCell ⟨V, 1, none⟩ (.int .i64 u)).setCell ⟨V, 2, none⟩ (.string d)) := ((Below.refl _ _).setCell (p := ⟨V, 1, none⟩) (Nat.le_refl _) _).setCell (p := ⟨V, 2, none⟩) (Nat.le_refl _) _
  have hs89 : ((w8.setCell ⟨V, 1, none⟩ (.int .i64 u)).setCell ⟨V, 2, none⟩ (.string d)).heap.size = w8.heap.size := by simp
  go_upto_region 12 with fail
  obtain ⟨w9, hw9⟩ : ∃ w9, (w8.setCell ⟨V, 1, none⟩ (.int .i64 u)).setCell ⟨V, 2, none⟩ (.string d) = w9 := ⟨_, rfl⟩
  rw [hw9] at hRV9 hB89 hs89 ⊢
  have hA9 := range_below hA8 hB89 (by omega)
  have hR9 := range_below hR8 hB89 (by omega)
  have hRU9 := range_below hRU8 hB89 (by omega)
  have hB9 : Below w.heap.size w w9 := hB8.trans (hB89.mono (by rw [hX.out]; omega))
  have hk9 : KeysAt w9 p (keysOf seedR 72) := hk7c.below (hF8c.trans (by rw [hV.out]; exact hB89))
  have hV9' : V < w9.heap.size := by omega
  clear hw9 q0 q1 q2 f1 f2 q2' hRV8 hTV8 hA8 hR8 hRU8 hB8 hk7c hF8c hk8 hB89 hs89 hY8' hU8' hV8' hq0 hiQ hiQ' hoQ HSET
  try simp only [Act.put]
  by_cases hu1 : u < 1
  · go_upto_region 13 with fail
    try simp only [Act.put]
    refine wp_region_list ?_
    refine wpList_step fun K hK => ?_
    go_simp
    refine hK _ _ ?_
    clear hK K
    refine wpList_step fun K hK => ?_
    go_simp
    refine hK _ _ ?_
    clear hK K
    refine wpList_load_mid rfl 33 _ rfl _ _ rfl E _ hRV9 Tryd.underlying33 rfl hiE' ?_
    go_wp2_with fail
    refine (cg2 p w9 hk9 (hG.below hB9)).mono ?_
    rintro e w10 ⟨rfl, hw10⟩
    have hB10 := hB9.trans (hw10.mono hB9.size)
    go_wp2_with fail
    refine (lives6_any w10 (hG.below hB10)).mono ?_
    rintro e w11 ⟨rfl, hw11⟩
    go_wp2_with fail
    go_ret
    exact ⟨rfl, hB10.trans (hw11.mono hB10.size)⟩
  · have hu2 : 1099511627776 < u := by omega
    go_upto_region 13 with fail
    try simp only [Act.put]
    refine wp_region_list ?_
    refine wpList_step fun K hK => ?_
    go_simp
    refine hK _ _ ?_
    clear hK K
    refine wpList_step fun K hK => ?_
    go_simp
    refine hK _ _ ?_
    clear hK K
    refine wpList_load_mid rfl 33 _ rfl _ _ rfl E _ hRV9 Tryd.underlying33 rfl hiE' ?_
    go_wp2_with fail
    refine (cg2 p w9 hk9 (hG.below hB9)).mono ?_
    rintro e w10 ⟨rfl, hw10⟩
    have hB10 := hB9.trans (hw10.mono hB9.size)
    go_wp2_with fail
    refine (lives6_any w10 (hG.below hB10)).mono ?_
    rintro e w11 ⟨rfl, hw11⟩
    go_wp2_with fail
    go_ret
    exact ⟨rfl, hB10.trans (hw11.mono hB10.size)⟩
set_option maxRecDepth 100000 in
set_option maxHeartbeats 4000000 in
theorem made_all (N0 M0 c0 n u : Int) (s d : ByteArray) (w : World) (hG : Glob w) (hs : s.size ≤ 64) (hd : d.size ≤ 64) (hn : 1 ≤ n ∧ n ≤ 1099511627776) (hu : 1 ≤ u ∧ u ≤ 1099511627776) :
   Calls Tryd.prog 6 #[.agg (askL N0 M0 c0 n s).toArray, .int .i64 u, .string d] w fun e w' => e = .returned (.bool true) ∧ Below w.heap.size w w' := by
  have hB0 : Below w.heap.size w (w.alloc (.cells (askL N0 M0 c0 n s).toArray 23)) := (Below.refl _ _).alloc (Nat.le_refl _) _
  have hA0 := ask_cells w N0 M0 c0 n s
  have hz0 : w.heap.size < (w.alloc (.cells (askL N0 M0 c0 n s).toArray 23)).heap.size := by simp
  have haL := fun (w0 : World) (b0 : Nat) h0 => @askL_at w0 b0 N0 M0 c0 n s h0
  obtain ⟨A, hA⟩ : ∃ A, Hid (askL N0 M0 c0 n s = A) := ⟨_, hide rfl⟩
  rw [hA.out] at hB0 hA0 hz0 ⊢
  simp only [hA.out] at haL
  have hiK : (Tryd.prog.info? 27).map (·.size) = some rkL.toArray.size := iszK
  have hiK' : (Tryd.prog.info? 27).map (·.size) = some rkL.length := iszK
  have hoK : (rkL.toArray.all fun x => x.oneCell') = true := by simp [rkL, Value.oneCell']
  obtain ⟨N, hN0, hN1, eN⟩ := umodc N0 65 (by decide) (by decide)
  obtain ⟨C, hC0, hC1, eC⟩ := umodc c0 8 (by decide) (by decide)
  have cmk := fun p w0 h0 hG0 => make_any p (keysOf seedR 72) N C n s w0 h0 hG0
  simp only [made_yes N C n s ⟨hN0, hN1⟩ ⟨hC0, hC1⟩ hn hs] at cmk
  have htl := tagV_length (keysOf seedR 72) N C n s
  have hti := tagV_in N C n s ⟨hN0, hN1⟩ ⟨hC0, hC1⟩
  obtain ⟨t, ht0⟩ : ∃ t, Hid ((tagV (keysOf seedR 72) N C n s).1 = t) := ⟨_, hide rfl⟩
  simp only [ht0.out] at cmk
  rw [ht0.out] at htl
  have cg1 := fun p w0 h0 hG0 => good_any p (keysOf seedR 72) N (C + 1) C n s t w0 h0 hG0 htl (by omega)
  have hg1 : goodV (keysOf seedR 72) N (C + 1) C n s t = 0 := by
    rw [good_yes N (C + 1) C n s t ⟨hN0, hN1⟩ ⟨hC0, hC1⟩ (by omega) hn hs, ← hti, if_pos ht0.out]
  simp only [hg1] at cg1
  clear hg1 hti
  have cg2 := fun p w0 h0 hG0 => good_any p (keysOf seedR 72) N 8 C u d t w0 h0 hG0 htl (by omega)
  have hiQ : (Tryd.prog.info? 33).map (·.size) = some (reqL C n s t).toArray.size := by rw [List.size_toArray, reqL_length _ _ _ _ htl]; exact iszR
  have hiQ' : (Tryd.prog.info? 33).map (·.size) = some (reqL C n s t).length := by rw [reqL_length _ _ _ _ htl]; exact iszR
  have hoQ := all_oneCell_toArray (reqL_one C n s t)
  have hlQ : (reqL C n s t).length = 19 := reqL_length _ _ _ _ htl
  have hiE' : (Tryd.prog.info? 33).map (·.size) = some (reqL C u d t).length := by rw [reqL_length _ _ _ _ htl]; exact iszR
  have hset : ((reqL C n s t).set 1 (.int .i64 u)).set 2 (.string d) = reqL C u d t := rfl
  have hq0 := fun (w0 : World) (b0 : Nat) h0 => @reqL_0 w0 b0 C n s t h0
  have htg := fun (w0 : World) (b0 : Nat) h1 => @reqL_tag w0 b0 C n s t h1
  have hw65 : IntKind.i64.wrap (N + C) = N + C := by rw [IntKind.wrap_i64]; omega
  simp only [good_yes N 8 C u d t ⟨hN0, hN1⟩ ⟨hC0, hC1⟩ hC1 hu hd] at cg2
  have cb := fun w0 => refBody_any C u d t w0 (by omega) (by omega) (by omega)
  obtain ⟨bd, hbd⟩ : ∃ bd, Hid (strOf (bodyL C u d) = bd) := ⟨_, hide rfl⟩
  have hbs : bd.size ≤ 100000 := by rw [← hbd.out, strOf_size]; exact body_small C u d (by omega) (by omega) (by omega)
  simp only [hbd.out] at cb cg2
  have cs := fun w0 => refSign_any seedR 72 (N + C) bd w0 (by decide) (by decide) hbs
  have hrl0 := refSignOf_length seedR 72 (N + C) bd
  obtain ⟨er, her⟩ : ∃ er, Hid ((refSignOf seedR 72 (N + C) bd).2 = er) := ⟨_, hide rfl⟩
  obtain ⟨r0, hr0⟩ : ∃ r0, Hid ((refSignOf seedR 72 (N + C) bd).1 = r0) := ⟨_, hide rfl⟩
  simp only [her.out, hr0.out] at cs
  simp only [hr0.out] at cg2
  rw [hr0.out] at hrl0
  have hir := info16 r0 hrl0
  have hor := all_oneCell_toArray (v8_one r0)
  have hir' : (Tryd.prog.info? 31).map (·.size) = some (v8 r0).length := by rw [v8_length, hrl0]; exact iszT
  have hit' : (Tryd.prog.info? 31).map (·.size) = some (v8 t).length := by rw [v8_length, htl]; exact iszT
  have hneq := neq16 r0 t hrl0 htl
  have hrl : Hid ((v8 r0).length = 16) := by show _ = _; rw [v8_length, hrl0]
  obtain ⟨r, hr⟩ : ∃ r, Hid (v8 r0 = r) := ⟨_, hide rfl⟩
  obtain ⟨tt, htt⟩ : ∃ tt, Hid (v8 t = tt) := ⟨_, hide rfl⟩
  simp only [hr.out] at cs
  rw [hr.out] at hir hor hir' hrl
  simp only [hr.out, htt.out] at hneq
  rw [htt.out] at hit'
  clear hrl0 hbs
  obtain ⟨Q, hQ⟩ : ∃ Q, Hid (reqL C n s t = Q) := ⟨_, hide rfl⟩
  obtain ⟨E, hE⟩ : ∃ E, Hid (reqL C u d t = E) := ⟨_, hide rfl⟩
  simp only [hQ.out] at cmk cg1 hq0 htg
  simp only [hE.out] at cg2
  rw [hQ.out] at hiQ hiQ' hoQ hlQ hset
  rw [hE.out] at hiE' hset
  simp only [hE.out] at cb
  simp only [htt.out] at htg
  have HSET := hide hset
  have HLQ := hide hlQ
  clear hlQ hset
  go_enter Tryd.func6, Tryd.ntmps6
  go_upto_region 1 with fail
  go_name_world w1 hw1
  rw [hw1] at hB0 hA0 hz0
  clear hw1
  obtain ⟨X, hX⟩ : ∃ X, Hid (w.heap.size = X) := ⟨_, hide rfl⟩
  rw [hX.out] at hA0 hz0 ⊢
  obtain ⟨a0, a1, a2, a3, a4⟩ := haL w1 X hA0
  try simp only [Act.put]
  have h1' : ¬ (64 : Int) < s.size := by omega
  have h2' : ¬ (64 : Int) < d.size := by omega
  go_wp2_with fail
  refine (keys6_any w1 (hG.below hB0)).mono ?_
  rintro e w2 ⟨p, rfl, hp, hk2, hw2⟩
  have hB2 := hB0.trans (hw2.mono hB0.size)
  have hA2 := range_below hA0 hw2 hz0
  have hz2 := Nat.lt_of_lt_of_le hz0 hw2.size
  clear hB0 hA0 hz0 hw2 a0 a1 a2 a3 a4 h1' h2'
  have F := fresh_store w2 #[.string ⟨#[]⟩, .int .i64 0] 27 rkL rfl
  have hN2 : (w2.alloc (.cells #[.string ⟨#[]⟩, .int .i64 0] 27)).there w2.heap.size 0 rkL.toArray.size := there_new w2 #[.string ⟨#[]⟩, .int .i64 0] 27
  go_upto_region 4 with (refine wpList_store_mid (op := ⟨none, .store 27 (.tmp 8) (.tmp 30), _, _, _, none⟩) rfl 27 _ _ rfl _ _ rkL.toArray rfl rfl hN2 hiK hoK ?_)
  go_name_world w3 hw3
  rw [show (w2.alloc (.cells #[.string ⟨#[]⟩, .int .i64 0] 27)).setCells w2.heap.size 0 rkL = w3 from hw3] at F
  clear hw3 hN2 hiK hoK
  obtain ⟨hR3, hF3, hz3, _⟩ := F
  have hB3 := hB2.trans (hF3.mono hB2.size)
  have hA3 := range_below hA2 hF3 hz2
  have hk3 := hk2.below hF3
  obtain ⟨Y, hY⟩ : ∃ Y, Hid (w2.heap.size = Y) := ⟨_, hide rfl⟩
  have hXY : X < Y := by rw [← hY.out]; exact hz2
  rw [hY.out] at hR3 hz3 ⊢
  have hY3' : Y < w3.heap.size := by omega
  clear hB2 hA2 hk2 hF3 hz2 hz3
  obtain ⟨a0, a1, a2, a3, a4⟩ := haL w3 X hA3
  try simp only [Act.put]
  go_quiet (fail)
  rw [eN, eC]
  clear eN eC a0 a1 a2 a3 a4
  have hq4 : Below w3.heap.size w3 (w3.drewN nq) := below_drewN (Below.refl _ _) _
  obtain ⟨w4, hw4⟩ : ∃ w4, w3.drewN nq = w4 := ⟨_, rfl⟩
  rw [hw4] at hq4 ⊢
  clear hw4
  have hB4 := hB3.trans (hq4.mono hB3.size)
  have hk4 := hk3.below hq4
  have hA4 := range_below hA3 hq4 (by omega)
  have hR4 := range_below hR3 hq4 (by omega)
  have hY4' := Nat.lt_of_lt_of_le hY3' hq4.size
  clear hB3 hk3 hA3 hR3 hY3' hq4
  obtain ⟨a0, a1, a2, a3, a4⟩ := haL w4 X hA4
  go_wp2_with fail
  refine (cmk p w4 hk4 (hG.below hB4)).mono ?_
  rintro e w5 ⟨rfl, hw5⟩
  clear cmk a0 a1 a2 a3 a4
  have hB5 := hB4.trans (hw5.mono hB4.size)
  have hk5 := hk4.below hw5
  have hA5 := range_below hA4 hw5 (by omega)
  have hR5 := range_below hR4 hw5 (by omega)
  have hY5' := Nat.lt_of_lt_of_le hY4' hw5.size
  clear hB4 hk4 hA4 hR4 hY4' hw5
  have F := fresh_store w5 #[.int .i64 0, .int .i64 0, .string ⟨#[]⟩, .int .u8 0, .int .u8 0, .int .u8 0, .int .u8 0, .int .u8 0, .int .u8 0, .int .u8 0, .int .u8 0, .int .u8 0, .int .u8 0, .int .u8 0, .int .u8 0, .int .u8 0, .int .u8 0, .int .u8 0, .int .u8 0] 33 Q (by rw [HLQ.out]; rfl)
  have hN : (w5.alloc (.cells #[.int .i64 0, .int .i64 0, .string ⟨#[]⟩, .int .u8 0, .int .u8 0, .int .u8 0, .int .u8 0, .int .u8 0, .int .u8 0, .int .u8 0, .int .u8 0, .int .u8 0, .int .u8 0, .int .u8 0, .int .u8 0, .int .u8 0, .int .u8 0, .int .u8 0, .int .u8 0] 33)).there w5.heap.size 0 Q.toArray.size := by
    have := there_new w5 #[.int .i64 0, .int .i64 0, .string ⟨#[]⟩, .int .u8 0, .int .u8 0, .int .u8 0, .int .u8 0, .int .u8 0, .int .u8 0, .int .u8 0, .int .u8 0, .int .u8 0, .int .u8 0, .int .u8 0, .int .u8 0, .int .u8 0, .int .u8 0, .int .u8 0, .int .u8 0] 33
    have e : Q.toArray.size = 19 := by have := HLQ.out; simpa using this
    rw [e]; exact this
  go_upto_region 6 with (refine wpList_store_mid (op := ⟨none, .store 33 (.tmp 11) (.tmp 50), _, _, _, none⟩) rfl 33 _ _ rfl _ _ Q.toArray rfl rfl hN hiQ hoQ ?_)
  go_name_world w6 hwn
  rw [show (w5.alloc (.cells #[.int .i64 0, .int .i64 0, .string ⟨#[]⟩, .int .u8 0, .int .u8 0, .int .u8 0, .int .u8 0, .int .u8 0, .int .u8 0, .int .u8 0, .int .u8 0, .int .u8 0, .int .u8 0, .int .u8 0, .int .u8 0, .int .u8 0, .int .u8 0, .int .u8 0, .int .u8 0] 33)).setCells w5.heap.size 0 Q = w6 from hwn] at F
  clear hwn hN
  obtain ⟨hRU6, hF6, hzz, hTU6⟩ := F
  have hTU6 : w6.there w5.heap.size 0 19 := hTU6
  obtain ⟨U, hU⟩ : ∃ U, Hid (w5.heap.size = U) := ⟨_, hide rfl⟩
  have hUb : Y < U := by rw [← hU.out]; omega
  rw [hU.out] at hRU6 hTU6 hzz ⊢
  have hU6' : U < w6.heap.size := by omega
  clear hzz
  try simp only [Act.put]
  have hB6 := hB5.trans (hF6.mono hB5.size)
  have hk6 := hk5.below hF6
  have hA6 := range_below hA5 hF6 (by omega)
  have hR6 := range_below hR5 hF6 (by omega)
  have hY6' := Nat.lt_of_lt_of_le hY5' hF6.size
  clear hB5 hk5 hA5 hR5 hY5' hF6
  clear hTU6
  go_upto_region 8 with fail
  try simp only [Act.put]
  refine wp_region_list ?_
  refine wpList_step fun K hK => ?_
  go_simp
  refine hK _ _ ?_
  clear hK K
  refine wpList_step fun K hK => ?_
  go_simp
  refine hK _ _ ?_
  clear hK K
  refine wpList_step fun K hK => ?_
  go_simp
  refine hK _ _ ?_
  clear hK K
  refine wpList_step fun K hK => ?_
  go_simp
  refine hK _ _ ?_
  clear hK K
  refine wpList_load_mid rfl 33 _ rfl _ _ rfl Q _ hRU6 Tryd.underlying33 rfl hiQ' ?_
  go_wp2_with fail
  refine (cg1 p w6 hk6 (hG.below hB6)).mono ?_
  rintro e w7 ⟨rfl, hw7⟩
  clear cg1
  have hB7 := hB6.trans (hw7.mono hB6.size)
  have hk7 := hk6.below hw7
  have hA7 := range_below hA6 hw7 (by omega)
  have hR7 := range_below hR6 hw7 (by omega)
  have hRU7 := range_below hRU6 hw7 (by omega)
  have hY7' := Nat.lt_of_lt_of_le hY6' hw7.size
  have hU7' := Nat.lt_of_lt_of_le hU6' hw7.size
  clear hB6 hk6 hA6 hR6 hRU6 hY6' hU6' hw7
  go_upto_region 10 with fail
  try simp only [Act.put]
  refine wp_region_list ?_
  refine wpList_load_mid rfl 33 _ rfl _ _ rfl Q _ hRU7 Tryd.underlying33 rfl hiQ' ?_
  have F := fresh_store w7 #[.int .i64 0, .int .i64 0, .string ⟨#[]⟩, .int .u8 0, .int .u8 0, .int .u8 0, .int .u8 0, .int .u8 0, .int .u8 0, .int .u8 0, .int .u8 0, .int .u8 0, .int .u8 0, .int .u8 0, .int .u8 0, .int .u8 0, .int .u8 0, .int .u8 0, .int .u8 0] 33 Q (by rw [HLQ.out]; rfl)
  have hN : (w7.alloc (.cells #[.int .i64 0, .int .i64 0, .string ⟨#[]⟩, .int .u8 0, .int .u8 0, .int .u8 0, .int .u8 0, .int .u8 0, .int .u8 0, .int .u8 0, .int .u8 0, .int .u8 0, .int .u8 0, .int .u8 0, .int .u8 0, .int .u8 0, .int .u8 0, .int .u8 0, .int .u8 0] 33)).there w7.heap.size 0 Q.toArray.size := by
    have := there_new w7 #[.int .i64 0, .int .i64 0, .string ⟨#[]⟩, .int .u8 0, .int .u8 0, .int .u8 0, .int .u8 0, .int .u8 0, .int .u8 0, .int .u8 0, .int .u8 0, .int .u8 0, .int .u8 0, .int .u8 0, .int .u8 0, .int .u8 0, .int .u8 0, .int .u8 0, .int .u8 0] 33
    have e : Q.toArray.size = 19 := by have := HLQ.out; simpa using this
    rw [e]; exact this
  go_upto_region 11 with (refine wpList_store_mid (op := ⟨none, .store 33 (.tmp 13) (.tmp 72), _, _, _, none⟩) rfl 33 _ _ rfl _ _ Q.toArray rfl rfl hN hiQ hoQ ?_)
  go_name_world w8 hwn
  rw [show (w7.alloc (.cells #[.int .i64 0, .int .i64 0, .string ⟨#[]⟩, .int .u8 0, .int .u8 0, .int .u8 0, .int .u8 0, .int .u8 0, .int .u8 0, .int .u8 0, .int .u8 0, .int .u8 0, .int .u8 0, .int .u8 0, .int .u8 0, .int .u8 0, .int .u8 0, .int .u8 0, .int .u8 0] 33)).setCells w7.heap.size 0 Q = w8 from hwn] at F
  clear hwn hN
  obtain ⟨hRV8, hF8, hzz, hTV8⟩ := F
  have hTV8 : w8.there w7.heap.size 0 19 := hTV8
  obtain ⟨V, hV⟩ : ∃ V, Hid (w7.heap.size = V) := ⟨_, hide rfl⟩
  have hVb : U < V := by rw [← hV.out]; omega
  rw [hV.out] at hRV8 hTV8 hzz ⊢
  have hV8' : V < w8.heap.size := by omega
  clear hzz
  try simp only [Act.put]
  have hk7c := hk7
  have hF8c := hF8
  have hB8 := hB7.trans (hF8.mono hB7.size)
  have hk8 := hk7.below hF8
  have hA8 := range_below hA7 hF8 (by omega)
  have hR8 := range_below hR7 hF8 (by omega)
  have hRU8 := range_below hRU7 hF8 (by omega)
  have hY8' := Nat.lt_of_lt_of_le hY7' hF8.size
  have hU8' := Nat.lt_of_lt_of_le hU7' hF8.size
  clear hB7 hk7 hA7 hR7 hRU7 hY7' hU7' hF8
  obtain ⟨q0, q1, q2⟩ := hq0 w8 V hRV8
  have f1 : w8.frozen? ⟨V, 1, none⟩ = false := by have := (hTV8 1 (by omega)).2; simpa using this
  have f2 : (w8.setCell ⟨V, 1, none⟩ (.int .i64 u)).frozen? ⟨V, 2, none⟩ = false := by have := (there_set hTV8 ⟨V, 1, none⟩ (.int .i64 u) 2 (by omega)).2; simpa using this
  have q2' : (w8.setCell ⟨V, 1, none⟩ (.int .i64 u)).cell? ⟨V, 2, none⟩ = some (.string s) := by
    have := range_set hRV8 1 (.int .i64 u) 2 (.string s) (by rw [← hQ.out]; rfl)
    simpa using this
  have hRV9 : ((w8.setCell ⟨V, 1, none⟩ (.int .i64 u)).setCell ⟨V, 2, none⟩ (.string d)).rangeAt V 0 E := by
    rw [← HSET.out]
    have := range_set (range_set hRV8 1 (.int .i64 u)) 2 (.string d)
    simpa using this
  have hB89 : Below V w8 ((w8.setCell ⟨V, 1, none⟩ (.int .i64 u)).setCell ⟨V, 2, none⟩ (.string d)) := ((Below.refl _ _).setCell (p := ⟨V, 1, none⟩) (Nat.le_refl _) _).setCell (p := ⟨V, 2, none⟩) (Nat.le_refl _) _
  have hs89 : ((w8.setCell ⟨V, 1, none⟩ (.int .i64 u)).setCell ⟨V, 2, none⟩ (.string d)).heap.size = w8.heap.size := by simp
  go_upto_region 12 with fail
  obtain ⟨w9, hw9⟩ : ∃ w9, (w8.setCell ⟨V, 1, none⟩ (.int .i64 u)).setCell ⟨V, 2, none⟩ (.string d) = w9 := ⟨_, rfl⟩
  rw [hw9] at hRV9 hB89 hs89 ⊢
  have hA9 := range_below hA8 hB89 (by omega)
  have hR9 := range_below hR8 hB89 (by omega)
  have hRU9 := range_below hRU8 hB89 (by omega)
  have hB9 : Below w.heap.size w w9 := hB8.trans (hB89.mono (by rw [hX.out]; omega))
  have hk9 : KeysAt w9 p (keysOf seedR 72) := hk7c.below (hF8c.trans (by rw [hV.out]; exact hB89))
  have hV9' : V < w9.heap.size := by omega
  clear hw9 q0 q1 q2 f1 f2 q2' hRV8 hTV8 hA8 hR8 hRU8 hB8 hk7c hF8c hk8 hB89 hs89 hY8' hU8' hV8' hq0 hiQ hiQ' hoQ HSET
  try simp only [Act.put]
  have hu1 : ¬ u < 1 := by omega
  have hu2 : ¬ 1099511627776 < u := by omega
  have hwd := (Below.refl w9.heap.size w9).drew
  have hB20 := hB9.drew
  have hRV20 : w9.drew.rangeAt V 0 E := (World.rangeAt_drew _ _ _ _).2 hRV9
  have hR20 : w9.drew.rangeAt Y 0 rkL := (World.rangeAt_drew _ _ _ _).2 hR9
  have hRUc : w9.drew.rangeAt U 0 Q := (World.rangeAt_drew _ _ _ _).2 hRU9
  have hYl : V < w9.drew.heap.size := hV9'
  have hk9 := hk9.below hwd
  clear hB9 hRV9 hR9 hRU9 hV9' hwd hA9
  go_wp2_with fail
  obtain ⟨w20, hw20⟩ : ∃ w20, w9.drew = w20 := ⟨_, rfl⟩
  rw [hw20] at hB20 hRV20 hR20 hRUc hYl hk9
  refine hs_begin (S := (fun W : World => W.rangeAt V 0 E ∧ W.rangeAt Y 0 rkL ∧ Below w.heap.size w W)) 13 rfl (by kernel_rfl) ?_
  rw [hw20]
  clear hw20
  have hS : (fun W : World => W.rangeAt V 0 E ∧ W.rangeAt Y 0 rkL ∧ Below w.heap.size w W) w20 := ⟨hRV20, hR20, hB20⟩
  have hkc := hk9
  have hbz : Below w20.heap.size w20 w20 := Below.refl _ _
  clear hRV20 hR20 hB20
  refine hs_take (i := 0) (d := some 92) (v := .agg rkL.toArray) rfl (by kernel_rfl) (by kernel_rfl) (by kernel_rfl) (by rfl) (fun w' hw => exec_load rfl rfl (run_loadVar_mid (P := Tryd.prog) w' Y 0 27 _ _ hw.2.1 Tryd.underlying27 rfl hiK')) hS rfl ?_
  simp only [Act.put, List.setIfInBounds_toArray, List.set_cons_zero, List.set_cons_succ]
  refine hs_take (i := 1) (d := some 93) (v := ?_) rfl (by kernel_rfl) (by kernel_rfl) (by kernel_rfl) (by rfl) ?_ hS rfl ?_
  rotate_left
  · intro w' hw
    go_simp
    try with_reducible rfl
  simp only [Act.put, List.setIfInBounds_toArray, List.set_cons_zero, List.set_cons_succ]
  refine hs_take (i := 2) (d := some 94) (v := ?_) rfl (by kernel_rfl) (by kernel_rfl) (by kernel_rfl) (by rfl) ?_ hS rfl ?_
  rotate_left
  · intro w' hw
    go_simp
    try with_reducible rfl
  simp only [Act.put, List.setIfInBounds_toArray, List.set_cons_zero, List.set_cons_succ]
  refine hs_take (i := 3) (d := some 95) (v := .int .i64 (N + C)) rfl (by kernel_rfl) (by kernel_rfl) (by kernel_rfl) (by rfl) (fun w' hw => by go_simp) hS rfl ?_
  simp only [Act.put, List.setIfInBounds_toArray, List.set_cons_zero, List.set_cons_succ]
  refine hs_take (i := 4) (d := some 96) (v := .agg E.toArray) rfl (by kernel_rfl) (by kernel_rfl) (by kernel_rfl) (by rfl) (fun w' hw => exec_load rfl rfl (run_loadVar_mid (P := Tryd.prog) w' V 0 33 E _ hw.1 Tryd.underlying33 rfl hiE')) hS rfl ?_
  simp only [Act.put, List.setIfInBounds_toArray, List.set_cons_zero, List.set_cons_succ]
  refine hs_fork (i := 5) (j := 10) (by kernel_rfl) ?_ ?_
  · refine st_call (i := 5) (d := some 97) rfl (by rfl) (by go_simp; first | done | exact ⟨rfl, rfl⟩ | with_reducible rfl) rfl ?_
    refine (cb w20).mono ?_
    rintro e' w21 ⟨rfl, hw_w21⟩
    have hS : (fun W : World => W.rangeAt V 0 E ∧ W.rangeAt Y 0 rkL ∧ Below w.heap.size w W) w21 := ⟨range_below hS.1 hw_w21 (by omega), range_below hS.2.1 hw_w21 (by omega), hS.2.2.trans (hw_w21.mono hS.2.2.size)⟩
    refine ⟨_, rfl, hS, ?_⟩
    simp only [Act.put, List.setIfInBounds_toArray, List.set_cons_zero, List.set_cons_succ]
    have hRUc := range_below hRUc hw_w21 (by omega)
    have hkc := hkc.below hw_w21
    have hYl := Nat.lt_of_lt_of_le hYl hw_w21.size
    have hbz := hbz.trans (hw_w21.mono hbz.size)
    clear hw_w21
    refine hs_fork (i := 6) (j := 10) (by kernel_rfl) ?_ ?_
    · refine st_call (i := 6) (d := some 98) rfl (by rfl) (by go_simp; first | done | exact ⟨rfl, rfl⟩ | with_reducible rfl) rfl ?_
      refine (cs w21).mono ?_
      rintro e' w22 ⟨rfl, hw_w22⟩
      have hS : (fun W : World => W.rangeAt V 0 E ∧ W.rangeAt Y 0 rkL ∧ Below w.heap.size w W) w22 := ⟨range_below hS.1 hw_w22 (by omega), range_below hS.2.1 hw_w22 (by omega), hS.2.2.trans (hw_w22.mono hS.2.2.size)⟩
      refine ⟨_, rfl, hS, ?_⟩
      simp only [Act.put, List.setIfInBounds_toArray, List.set_cons_zero, List.set_cons_succ]
      have hRUc := range_below hRUc hw_w22 (by omega)
      have hkc := hkc.below hw_w22
      have hYl := Nat.lt_of_lt_of_le hYl hw_w22.size
      have hbz := hbz.trans (hw_w22.mono hbz.size)
      clear hw_w22
      refine hs_take (i := 7) (d := some 91) (v := ?_) rfl (by kernel_rfl) (by kernel_rfl) (by kernel_rfl) (by rfl) ?_ hS rfl ?_
      rotate_left
      · intro w' hw
        go_simp
        try with_reducible rfl
      simp only [Act.put, List.setIfInBounds_toArray, List.set_cons_zero, List.set_cons_succ]
      refine hs_take (i := 8) (d := some 99) (v := ?_) rfl (by kernel_rfl) (by kernel_rfl) (by kernel_rfl) (by rfl) ?_ hS rfl ?_
      rotate_left
      · intro w' hw
        go_simp
        try with_reducible rfl
      simp only [Act.put, List.setIfInBounds_toArray, List.set_cons_zero, List.set_cons_succ]
      refine hs_take (i := 9) (d := some 100) (v := ?_) rfl (by kernel_rfl) (by kernel_rfl) (by kernel_rfl) (by rfl) ?_ hS rfl ?_
      rotate_left
      · intro w' hw
        go_simp
        try with_reducible rfl
      simp only [Act.put, List.setIfInBounds_toArray, List.set_cons_zero, List.set_cons_succ]
      have hF7 : Below w22.heap.size w22 (w22.alloc (.cells (Array.replicate 16 (.int .u8 0)) 31)) := (Below.refl _ _).alloc (Nat.le_refl _) _
      have hTZ : (w22.alloc (.cells (Array.replicate 16 (.int .u8 0)) 31)).there w22.heap.size 0 16 := there_new w22 (Array.replicate 16 (.int .u8 0)) 31
      have hZl : w22.heap.size < (w22.alloc (.cells (Array.replicate 16 (.int .u8 0)) 31)).heap.size := by simp
      obtain ⟨w23, hw7⟩ : ∃ w23, w22.alloc (.cells (Array.replicate 16 (.int .u8 0)) 31) = w23 := ⟨_, rfl⟩
      rw [hw7] at hF7 hTZ hZl
      have hYZ := hYl
      have hSZ0 := hbz.size
      have hbz := hbz.trans (hF7.mono hbz.size)
      have hS : (fun W : World => W.rangeAt V 0 E ∧ W.rangeAt Y 0 rkL ∧ Below w.heap.size w W) w23 := ⟨range_below hS.1 hF7 (by omega), range_below hS.2.1 hF7 (by omega), hS.2.2.trans (hF7.mono hS.2.2.size)⟩
      refine hs_run (i := 10) (d := some 14) (v := .pointer (some ⟨w22.heap.size, 0, none⟩)) (w' := w23) rfl (by kernel_rfl) (by rfl) (by rw [← hw7]; exact exec_alloc_tag w22) rfl hS ?_
      simp only [Act.put, List.setIfInBounds_toArray, List.set_cons_zero, List.set_cons_succ]
      clear hw7
      have hRUc := range_below hRUc hF7 (by omega)
      have hkc := hkc.below hF7
      have hYl := Nat.lt_of_lt_of_le hYl hF7.size
      obtain ⟨Z, hZ⟩ : ∃ Z, Hid (w22.heap.size = Z) := ⟨_, hide rfl⟩
      have hSZ : w20.heap.size ≤ Z := Nat.le_trans hSZ0 (Nat.le_of_eq hZ.out)
      rw [hZ.out] at hTZ hZl hYZ ⊢
      clear hZ hF7 hSZ0
      have hN7 : w23.there Z 0 r.toArray.size := by
        have e : r.toArray.size = 16 := by have := hrl.out; simpa using this
        rw [e]; exact hTZ
      have hst := run_storeVar_mid (P := Tryd.prog) w23 Z 0 31 r.toArray hN7 hir hor
      have hBl : Below w.heap.size w (w23.setCells Z 0 r) := below_sets (by rw [hX.out]; omega) _ 0 w23 hS.2.2
      have hR8 := World.rangeAt_setCells_apart hS.1 Z 0 r (.inl (by omega))
      have hk8 := World.rangeAt_setCells_apart hS.2.1 Z 0 r (.inl (by omega))
      refine hs_store (i := 11) (w' := (w23.setCells Z 0 r)) rfl (by kernel_rfl) (by rfl) (exec_store rfl rfl rfl hst) rfl ⟨hR8, hk8, hBl⟩ ?_
      have hS : (fun W : World => W.rangeAt V 0 E ∧ W.rangeAt Y 0 rkL ∧ Below w.heap.size w W) (w23.setCells Z 0 r) := ⟨hR8, hk8, hBl⟩
      refine hs_take (i := 12) (d := some 15) (v := ?_) rfl (by kernel_rfl) (by kernel_rfl) (by kernel_rfl) (by rfl) ?_ hS rfl ?_
      rotate_left
      · intro w' hw
        go_simp
        try with_reducible rfl
      simp only [Act.put, List.setIfInBounds_toArray, List.set_cons_zero, List.set_cons_succ]
      refine hs_done (by kernel_rfl) ?_
      have hR8t : (w23.setCells Z 0 r).rangeAt Z 0 r := World.rangeAt_setCells_same w23 Z 0 r (by have := hN7; simpa using this)
      have hRU8 : (w23.setCells Z 0 r).rangeAt U 0 Q := World.rangeAt_setCells_apart hRUc Z 0 r (.inl (by omega))
      have hkk : KeysAt (w23.setCells Z 0 r) p (keysOf seedR 72) := hk9.below (hbz.trans (below_sets hSZ _ 0 w23 (Below.refl _ _)))
      obtain ⟨w8, hw8⟩ : ∃ w8, w23.setCells Z 0 r = w8 := ⟨_, rfl⟩
      rw [hw8] at hR8 hBl hR8t hRU8 hkk ⊢
      clear hS hw8 hst hN7 hRUc hkc hTZ hk8 hYl hZl
      have hTT := htg w8 U hRU8
      go_upto_region 16 with fail
      try simp only [Act.put]
      refine wp_region_list ?_
      refine wpList_load_mid rfl 31 _ rfl _ _ rfl r _ hR8t Tryd.underlying31 rfl hir' ?_
      refine wpList_step fun K hK => ?_
      go_simp
      refine hK _ _ ?_
      clear hK K
      refine wpList_load_mid rfl 31 _ rfl _ _ rfl tt _ hTT Tryd.underlying31 rfl hit' ?_
      clear hTT hR8t hRU8
      by_cases hrt : r0 = t
      · have e : (r0 == t) = true := by simpa using hrt
        rw [e] at hneq
        simp only [if_pos hrt] at cg2
        clear hrt e
        go_upto_region 18 with fail
        try simp only [Act.put]
        refine wp_region_list ?_
        refine wpList_step fun K hK => ?_
        go_simp
        refine hK _ _ ?_
        clear hK K
        refine wpList_step fun K hK => ?_
        go_simp
        refine hK _ _ ?_
        clear hK K
        refine wpList_load_mid rfl 33 _ rfl _ _ rfl E _ hR8 Tryd.underlying33 rfl hiE' ?_
        go_wp2_with fail
        refine (cg2 p w8 hkk (hG.below hBl)).mono ?_
        rintro e w10 ⟨rfl, hw10⟩
        have hB10 := hBl.trans (hw10.mono hBl.size)
        go_wp2_with fail
        refine (lives6_any w10 (hG.below hB10)).mono ?_
        rintro e w11 ⟨rfl, hw11⟩
        go_wp2_with fail
        go_ret
        exact ⟨rfl, hB10.trans (hw11.mono hB10.size)⟩
      · have e : (r0 == t) = false := by simpa using hrt
        rw [e] at hneq
        simp only [if_neg hrt] at cg2
        clear hrt e
        go_upto_region 18 with fail
        try simp only [Act.put]
        refine wp_region_list ?_
        refine wpList_step fun K hK => ?_
        go_simp
        refine hK _ _ ?_
        clear hK K
        refine wpList_step fun K hK => ?_
        go_simp
        refine hK _ _ ?_
        clear hK K
        refine wpList_load_mid rfl 33 _ rfl _ _ rfl E _ hR8 Tryd.underlying33 rfl hiE' ?_
        go_wp2_with fail
        refine (cg2 p w8 hkk (hG.below hBl)).mono ?_
        rintro e w10 ⟨rfl, hw10⟩
        have hB10 := hBl.trans (hw10.mono hBl.size)
        go_wp2_with fail
        refine (lives6_any w10 (hG.below hB10)).mono ?_
        rintro e w11 ⟨rfl, hw11⟩
        go_wp2_with fail
        go_ret
        exact ⟨rfl, hB10.trans (hw11.mono hB10.size)⟩
    · have hF7 : Below w21.heap.size w21 (w21.alloc (.cells (Array.replicate 16 (.int .u8 0)) 31)) := (Below.refl _ _).alloc (Nat.le_refl _) _
      have hTZ : (w21.alloc (.cells (Array.replicate 16 (.int .u8 0)) 31)).there w21.heap.size 0 16 := there_new w21 (Array.replicate 16 (.int .u8 0)) 31
      have hZl : w21.heap.size < (w21.alloc (.cells (Array.replicate 16 (.int .u8 0)) 31)).heap.size := by simp
      obtain ⟨w22, hw7⟩ : ∃ w22, w21.alloc (.cells (Array.replicate 16 (.int .u8 0)) 31) = w22 := ⟨_, rfl⟩
      rw [hw7] at hF7 hTZ hZl
      have hYZ := hYl
      have hSZ0 := hbz.size
      have hbz := hbz.trans (hF7.mono hbz.size)
      have hS : (fun W : World => W.rangeAt V 0 E ∧ W.rangeAt Y 0 rkL ∧ Below w.heap.size w W) w22 := ⟨range_below hS.1 hF7 (by omega), range_below hS.2.1 hF7 (by omega), hS.2.2.trans (hF7.mono hS.2.2.size)⟩
      refine st_run (i := 10) (d := some 14) (v := .pointer (some ⟨w21.heap.size, 0, none⟩)) (w' := w22) rfl (by rfl) (by rw [← hw7]; exact exec_alloc_tag w21) rfl hS ?_
      simp only [Act.put, List.setIfInBounds_toArray, List.set_cons_zero, List.set_cons_succ]
      clear hw7
      have hRUc := range_below hRUc hF7 (by omega)
      have hkc := hkc.below hF7
      have hYl := Nat.lt_of_lt_of_le hYl hF7.size
      obtain ⟨Z, hZ⟩ : ∃ Z, Hid (w21.heap.size = Z) := ⟨_, hide rfl⟩
      have hSZ : w20.heap.size ≤ Z := Nat.le_trans hSZ0 (Nat.le_of_eq hZ.out)
      rw [hZ.out] at hTZ hZl hYZ ⊢
      clear hZ hF7 hSZ0
      refine hs_call (i := 6) (d := some 98) rfl (by kernel_rfl) (by rfl) (by go_simp; first | done | exact ⟨rfl, rfl⟩ | with_reducible rfl) rfl ?_
      refine (cs w22).mono ?_
      rintro e' w23 ⟨rfl, hw_w23⟩
      have hS : (fun W : World => W.rangeAt V 0 E ∧ W.rangeAt Y 0 rkL ∧ Below w.heap.size w W) w23 := ⟨range_below hS.1 hw_w23 (by omega), range_below hS.2.1 hw_w23 (by omega), hS.2.2.trans (hw_w23.mono hS.2.2.size)⟩
      refine ⟨_, rfl, hS, ?_⟩
      simp only [Act.put, List.setIfInBounds_toArray, List.set_cons_zero, List.set_cons_succ]
      have hRUc := range_below hRUc hw_w23 (by omega)
      have hkc := hkc.below hw_w23
      have hTZ := there_below hTZ hw_w23 hZl
      have hZl := Nat.lt_of_lt_of_le hZl hw_w23.size
      have hYl := Nat.lt_of_lt_of_le hYl hw_w23.size
      have hbz := hbz.trans (hw_w23.mono hbz.size)
      clear hw_w23
      refine hs_take (i := 7) (d := some 91) (v := ?_) rfl (by kernel_rfl) (by kernel_rfl) (by kernel_rfl) (by rfl) ?_ hS rfl ?_
      rotate_left
      · intro w' hw
        go_simp
        try with_reducible rfl
      simp only [Act.put, List.setIfInBounds_toArray, List.set_cons_zero, List.set_cons_succ]
      refine hs_take (i := 8) (d := some 99) (v := ?_) rfl (by kernel_rfl) (by kernel_rfl) (by kernel_rfl) (by rfl) ?_ hS rfl ?_
      rotate_left
      · intro w' hw
        go_simp
        try with_reducible rfl
      simp only [Act.put, List.setIfInBounds_toArray, List.set_cons_zero, List.set_cons_succ]
      refine hs_take (i := 9) (d := some 100) (v := ?_) rfl (by kernel_rfl) (by kernel_rfl) (by kernel_rfl) (by rfl) ?_ hS rfl ?_
      rotate_left
      · intro w' hw
        go_simp
        try with_reducible rfl
      simp only [Act.put, List.setIfInBounds_toArray, List.set_cons_zero, List.set_cons_succ]
      have hN7 : w23.there Z 0 r.toArray.size := by
        have e : r.toArray.size = 16 := by have := hrl.out; simpa using this
        rw [e]; exact hTZ
      have hst := run_storeVar_mid (P := Tryd.prog) w23 Z 0 31 r.toArray hN7 hir hor
      have hBl : Below w.heap.size w (w23.setCells Z 0 r) := below_sets (by rw [hX.out]; omega) _ 0 w23 hS.2.2
      have hR8 := World.rangeAt_setCells_apart hS.1 Z 0 r (.inl (by omega))
      have hk8 := World.rangeAt_setCells_apart hS.2.1 Z 0 r (.inl (by omega))
      refine hs_store (i := 11) (w' := (w23.setCells Z 0 r)) rfl (by kernel_rfl) (by rfl) (exec_store rfl rfl rfl hst) rfl ⟨hR8, hk8, hBl⟩ ?_
      have hS : (fun W : World => W.rangeAt V 0 E ∧ W.rangeAt Y 0 rkL ∧ Below w.heap.size w W) (w23.setCells Z 0 r) := ⟨hR8, hk8, hBl⟩
      refine hs_take (i := 12) (d := some 15) (v := ?_) rfl (by kernel_rfl) (by kernel_rfl) (by kernel_rfl) (by rfl) ?_ hS rfl ?_
      rotate_left
      · intro w' hw
        go_simp
        try with_reducible rfl
      simp only [Act.put, List.setIfInBounds_toArray, List.set_cons_zero, List.set_cons_succ]
      refine hs_done (by kernel_rfl) ?_
      have hR8t : (w23.setCells Z 0 r).rangeAt Z 0 r := World.rangeAt_setCells_same w23 Z 0 r (by have := hN7; simpa using this)
      have hRU8 : (w23.setCells Z 0 r).rangeAt U 0 Q := World.rangeAt_setCells_apart hRUc Z 0 r (.inl (by omega))
      have hkk : KeysAt (w23.setCells Z 0 r) p (keysOf seedR 72) := hk9.below (hbz.trans (below_sets hSZ _ 0 w23 (Below.refl _ _)))
      obtain ⟨w8, hw8⟩ : ∃ w8, w23.setCells Z 0 r = w8 := ⟨_, rfl⟩
      rw [hw8] at hR8 hBl hR8t hRU8 hkk ⊢
      clear hS hw8 hst hN7 hRUc hkc hTZ hk8 hYl hZl
      have hTT := htg w8 U hRU8
      go_upto_region 16 with fail
      try simp only [Act.put]
      refine wp_region_list ?_
      refine wpList_load_mid rfl 31 _ rfl _ _ rfl r _ hR8t Tryd.underlying31 rfl hir' ?_
      refine wpList_step fun K hK => ?_
      go_simp
      refine hK _ _ ?_
      clear hK K
      refine wpList_load_mid rfl 31 _ rfl _ _ rfl tt _ hTT Tryd.underlying31 rfl hit' ?_
      clear hTT hR8t hRU8
      by_cases hrt : r0 = t
      · have e : (r0 == t) = true := by simpa using hrt
        rw [e] at hneq
        simp only [if_pos hrt] at cg2
        clear hrt e
        go_upto_region 18 with fail
        try simp only [Act.put]
        refine wp_region_list ?_
        refine wpList_step fun K hK => ?_
        go_simp
        refine hK _ _ ?_
        clear hK K
        refine wpList_step fun K hK => ?_
        go_simp
        refine hK _ _ ?_
        clear hK K
        refine wpList_load_mid rfl 33 _ rfl _ _ rfl E _ hR8 Tryd.underlying33 rfl hiE' ?_
        go_wp2_with fail
        refine (cg2 p w8 hkk (hG.below hBl)).mono ?_
        rintro e w10 ⟨rfl, hw10⟩
        have hB10 := hBl.trans (hw10.mono hBl.size)
        go_wp2_with fail
        refine (lives6_any w10 (hG.below hB10)).mono ?_
        rintro e w11 ⟨rfl, hw11⟩
        go_wp2_with fail
        go_ret
        exact ⟨rfl, hB10.trans (hw11.mono hB10.size)⟩
      · have e : (r0 == t) = false := by simpa using hrt
        rw [e] at hneq
        simp only [if_neg hrt] at cg2
        clear hrt e
        go_upto_region 18 with fail
        try simp only [Act.put]
        refine wp_region_list ?_
        refine wpList_step fun K hK => ?_
        go_simp
        refine hK _ _ ?_
        clear hK K
        refine wpList_step fun K hK => ?_
        go_simp
        refine hK _ _ ?_
        clear hK K
        refine wpList_load_mid rfl 33 _ rfl _ _ rfl E _ hR8 Tryd.underlying33 rfl hiE' ?_
        go_wp2_with fail
        refine (cg2 p w8 hkk (hG.below hBl)).mono ?_
        rintro e w10 ⟨rfl, hw10⟩
        have hB10 := hBl.trans (hw10.mono hBl.size)
        go_wp2_with fail
        refine (lives6_any w10 (hG.below hB10)).mono ?_
        rintro e w11 ⟨rfl, hw11⟩
        go_wp2_with fail
        go_ret
        exact ⟨rfl, hB10.trans (hw11.mono hB10.size)⟩
  · have hF7 : Below w20.heap.size w20 (w20.alloc (.cells (Array.replicate 16 (.int .u8 0)) 31)) := (Below.refl _ _).alloc (Nat.le_refl _) _
    have hTZ : (w20.alloc (.cells (Array.replicate 16 (.int .u8 0)) 31)).there w20.heap.size 0 16 := there_new w20 (Array.replicate 16 (.int .u8 0)) 31
    have hZl : w20.heap.size < (w20.alloc (.cells (Array.replicate 16 (.int .u8 0)) 31)).heap.size := by simp
    obtain ⟨w21, hw7⟩ : ∃ w21, w20.alloc (.cells (Array.replicate 16 (.int .u8 0)) 31) = w21 := ⟨_, rfl⟩
    rw [hw7] at hF7 hTZ hZl
    have hYZ := hYl
    have hSZ0 := hbz.size
    have hbz := hbz.trans (hF7.mono hbz.size)
    have hS : (fun W : World => W.rangeAt V 0 E ∧ W.rangeAt Y 0 rkL ∧ Below w.heap.size w W) w21 := ⟨range_below hS.1 hF7 (by omega), range_below hS.2.1 hF7 (by omega), hS.2.2.trans (hF7.mono hS.2.2.size)⟩
    refine st_run (i := 10) (d := some 14) (v := .pointer (some ⟨w20.heap.size, 0, none⟩)) (w' := w21) rfl (by rfl) (by rw [← hw7]; exact exec_alloc_tag w20) rfl hS ?_
    simp only [Act.put, List.setIfInBounds_toArray, List.set_cons_zero, List.set_cons_succ]
    clear hw7
    have hRUc := range_below hRUc hF7 (by omega)
    have hkc := hkc.below hF7
    have hYl := Nat.lt_of_lt_of_le hYl hF7.size
    obtain ⟨Z, hZ⟩ : ∃ Z, Hid (w20.heap.size = Z) := ⟨_, hide rfl⟩
    have hSZ : w20.heap.size ≤ Z := Nat.le_trans hSZ0 (Nat.le_of_eq hZ.out)
    rw [hZ.out] at hTZ hZl hYZ ⊢
    clear hZ hF7 hSZ0
    refine hs_call (i := 5) (d := some 97) rfl (by kernel_rfl) (by rfl) (by go_simp; first | done | exact ⟨rfl, rfl⟩ | with_reducible rfl) rfl ?_
    refine (cb w21).mono ?_
    rintro e' w22 ⟨rfl, hw_w22⟩
    have hS : (fun W : World => W.rangeAt V 0 E ∧ W.rangeAt Y 0 rkL ∧ Below w.heap.size w W) w22 := ⟨range_below hS.1 hw_w22 (by omega), range_below hS.2.1 hw_w22 (by omega), hS.2.2.trans (hw_w22.mono hS.2.2.size)⟩
    refine ⟨_, rfl, hS, ?_⟩
    simp only [Act.put, List.setIfInBounds_toArray, List.set_cons_zero, List.set_cons_succ]
    have hRUc := range_below hRUc hw_w22 (by omega)
    have hkc := hkc.below hw_w22
    have hTZ := there_below hTZ hw_w22 hZl
    have hZl := Nat.lt_of_lt_of_le hZl hw_w22.size
    have hYl := Nat.lt_of_lt_of_le hYl hw_w22.size
    have hbz := hbz.trans (hw_w22.mono hbz.size)
    clear hw_w22
    refine hs_call (i := 6) (d := some 98) rfl (by kernel_rfl) (by rfl) (by go_simp; first | done | exact ⟨rfl, rfl⟩ | with_reducible rfl) rfl ?_
    refine (cs w22).mono ?_
    rintro e' w23 ⟨rfl, hw_w23⟩
    have hS : (fun W : World => W.rangeAt V 0 E ∧ W.rangeAt Y 0 rkL ∧ Below w.heap.size w W) w23 := ⟨range_below hS.1 hw_w23 (by omega), range_below hS.2.1 hw_w23 (by omega), hS.2.2.trans (hw_w23.mono hS.2.2.size)⟩
    refine ⟨_, rfl, hS, ?_⟩
    simp only [Act.put, List.setIfInBounds_toArray, List.set_cons_zero, List.set_cons_succ]
    have hRUc := range_below hRUc hw_w23 (by omega)
    have hkc := hkc.below hw_w23
    have hTZ := there_below hTZ hw_w23 hZl
    have hZl := Nat.lt_of_lt_of_le hZl hw_w23.size
    have hYl := Nat.lt_of_lt_of_le hYl hw_w23.size
    have hbz := hbz.trans (hw_w23.mono hbz.size)
    clear hw_w23
    refine hs_take (i := 7) (d := some 91) (v := ?_) rfl (by kernel_rfl) (by kernel_rfl) (by kernel_rfl) (by rfl) ?_ hS rfl ?_
    rotate_left
    · intro w' hw
      go_simp
      try with_reducible rfl
    simp only [Act.put, List.setIfInBounds_toArray, List.set_cons_zero, List.set_cons_succ]
    refine hs_take (i := 8) (d := some 99) (v := ?_) rfl (by kernel_rfl) (by kernel_rfl) (by kernel_rfl) (by rfl) ?_ hS rfl ?_
    rotate_left
    · intro w' hw
      go_simp
      try with_reducible rfl
    simp only [Act.put, List.setIfInBounds_toArray, List.set_cons_zero, List.set_cons_succ]
    refine hs_take (i := 9) (d := some 100) (v := ?_) rfl (by kernel_rfl) (by kernel_rfl) (by kernel_rfl) (by rfl) ?_ hS rfl ?_
    rotate_left
    · intro w' hw
      go_simp
      try with_reducible rfl
    simp only [Act.put, List.setIfInBounds_toArray, List.set_cons_zero, List.set_cons_succ]
    have hN7 : w23.there Z 0 r.toArray.size := by
      have e : r.toArray.size = 16 := by have := hrl.out; simpa using this
      rw [e]; exact hTZ
    have hst := run_storeVar_mid (P := Tryd.prog) w23 Z 0 31 r.toArray hN7 hir hor
    have hBl : Below w.heap.size w (w23.setCells Z 0 r) := below_sets (by rw [hX.out]; omega) _ 0 w23 hS.2.2
    have hR8 := World.rangeAt_setCells_apart hS.1 Z 0 r (.inl (by omega))
    have hk8 := World.rangeAt_setCells_apart hS.2.1 Z 0 r (.inl (by omega))
    refine hs_store (i := 11) (w' := (w23.setCells Z 0 r)) rfl (by kernel_rfl) (by rfl) (exec_store rfl rfl rfl hst) rfl ⟨hR8, hk8, hBl⟩ ?_
    have hS : (fun W : World => W.rangeAt V 0 E ∧ W.rangeAt Y 0 rkL ∧ Below w.heap.size w W) (w23.setCells Z 0 r) := ⟨hR8, hk8, hBl⟩
    refine hs_take (i := 12) (d := some 15) (v := ?_) rfl (by kernel_rfl) (by kernel_rfl) (by kernel_rfl) (by rfl) ?_ hS rfl ?_
    rotate_left
    · intro w' hw
      go_simp
      try with_reducible rfl
    simp only [Act.put, List.setIfInBounds_toArray, List.set_cons_zero, List.set_cons_succ]
    refine hs_done (by kernel_rfl) ?_
    have hR8t : (w23.setCells Z 0 r).rangeAt Z 0 r := World.rangeAt_setCells_same w23 Z 0 r (by have := hN7; simpa using this)
    have hRU8 : (w23.setCells Z 0 r).rangeAt U 0 Q := World.rangeAt_setCells_apart hRUc Z 0 r (.inl (by omega))
    have hkk : KeysAt (w23.setCells Z 0 r) p (keysOf seedR 72) := hk9.below (hbz.trans (below_sets hSZ _ 0 w23 (Below.refl _ _)))
    obtain ⟨w8, hw8⟩ : ∃ w8, w23.setCells Z 0 r = w8 := ⟨_, rfl⟩
    rw [hw8] at hR8 hBl hR8t hRU8 hkk ⊢
    clear hS hw8 hst hN7 hRUc hkc hTZ hk8 hYl hZl
    have hTT := htg w8 U hRU8
    go_upto_region 16 with fail
    try simp only [Act.put]
    refine wp_region_list ?_
    refine wpList_load_mid rfl 31 _ rfl _ _ rfl r _ hR8t Tryd.underlying31 rfl hir' ?_
    refine wpList_step fun K hK => ?_
    go_simp
    refine hK _ _ ?_
    clear hK K
    refine wpList_load_mid rfl 31 _ rfl _ _ rfl tt _ hTT Tryd.underlying31 rfl hit' ?_
    clear hTT hR8t hRU8
    by_cases hrt : r0 = t
    · have e : (r0 == t) = true := by simpa using hrt
      rw [e] at hneq
      simp only [if_pos hrt] at cg2
      clear hrt e
      go_upto_region 18 with fail
      try simp only [Act.put]
      refine wp_region_list ?_
      refine wpList_step fun K hK => ?_
      go_simp
      refine hK _ _ ?_
      clear hK K
      refine wpList_step fun K hK => ?_
      go_simp
      refine hK _ _ ?_
      clear hK K
      refine wpList_load_mid rfl 33 _ rfl _ _ rfl E _ hR8 Tryd.underlying33 rfl hiE' ?_
      go_wp2_with fail
      refine (cg2 p w8 hkk (hG.below hBl)).mono ?_
      rintro e w10 ⟨rfl, hw10⟩
      have hB10 := hBl.trans (hw10.mono hBl.size)
      go_wp2_with fail
      refine (lives6_any w10 (hG.below hB10)).mono ?_
      rintro e w11 ⟨rfl, hw11⟩
      go_wp2_with fail
      go_ret
      exact ⟨rfl, hB10.trans (hw11.mono hB10.size)⟩
    · have e : (r0 == t) = false := by simpa using hrt
      rw [e] at hneq
      simp only [if_neg hrt] at cg2
      clear hrt e
      go_upto_region 18 with fail
      try simp only [Act.put]
      refine wp_region_list ?_
      refine wpList_step fun K hK => ?_
      go_simp
      refine hK _ _ ?_
      clear hK K
      refine wpList_step fun K hK => ?_
      go_simp
      refine hK _ _ ?_
      clear hK K
      refine wpList_load_mid rfl 33 _ rfl _ _ rfl E _ hR8 Tryd.underlying33 rfl hiE' ?_
      go_wp2_with fail
      refine (cg2 p w8 hkk (hG.below hBl)).mono ?_
      rintro e w10 ⟨rfl, hw10⟩
      have hB10 := hBl.trans (hw10.mono hBl.size)
      go_wp2_with fail
      refine (lives6_any w10 (hG.below hB10)).mono ?_
      rintro e w11 ⟨rfl, hw11⟩
      go_wp2_with fail
      go_ret
      exact ⟨rfl, hB10.trans (hw11.mono hB10.size)⟩
theorem made_walk (N0 M0 c0 n u : Int) (s d : ByteArray) (w : World) (hG : Glob w) :
   Calls Tryd.prog 6 #[.agg (askL N0 M0 c0 n s).toArray, .int .i64 u, .string d] w fun e w' => e = .returned (.bool true) ∧ Below w.heap.size w w' := by
  by_cases h1 : s.size ≤ 64
  · by_cases h2 : d.size ≤ 64
    · by_cases hn : 1 ≤ n ∧ n ≤ 1099511627776
      · by_cases hu : 1 ≤ u ∧ u ≤ 1099511627776
        · exact made_all N0 M0 c0 n u s d w hG h1 h2 hn hu
        · exact made_noU N0 M0 c0 n u s d w hG h1 h2 hn hu
      · exact made_noN N0 M0 c0 n u s d w hG h1 h2 hn
    · exact made_bigB N0 M0 c0 n u s d w hG h1 (by omega)
  · exact made_bigA N0 M0 c0 n u s d w hG (by omega)
end Go.Proofs.YtbfhpgneaklgoabDoor
