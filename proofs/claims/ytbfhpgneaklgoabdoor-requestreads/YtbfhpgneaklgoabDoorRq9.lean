/- The law of making requests: the walk -/
import Derived.Test.YtbfhpgneaklgoabDoorRq8
namespace Go.Proofs.YtbfhpgneaklgoabDoor
open Go.RowKit
open Sha Tal
/-- what is asked for: its cells -/
def askL (N M c n : Int) (s : ByteArray) : List Value := [.int .i64 N, .int .i64 M, .int .i64 c, .int .i64 n, .string s]
theorem ask_cells (w : World) (N M c n : Int) (s : ByteArray) : (w.alloc (.cells (askL N M c n s).toArray 23)).rangeAt w.heap.size 0 (askL N M c n s) := by
  have := range_new w (askL N M c n s).toArray 23
  simpa using this
theorem askL_at {w : World} {b : Nat} {N M c n : Int} {s : ByteArray} (h : w.rangeAt b 0 (askL N M c n s)) : w.cell? ⟨b, 0, none⟩ = some (.int .i64 N) ∧ w.cell? ⟨b, 1, none⟩ = some (.int .i64 M) ∧ w.cell? ⟨b, 2, none⟩ = some (.int .i64 c) ∧ w.cell? ⟨b, 3, none⟩ = some (.int .i64 n) ∧ w.cell? ⟨b, 4, none⟩ = some (.string s) :=
  ⟨h 0 _ rfl, h 1 _ rfl, h 2 _ rfl, h 3 _ rfl, h 4 _ rfl⟩
theorem makeV_shape (ds : List (List Int)) (N c n : Int) (s : ByteArray) : ∃ c' n' s' t', (makeV ds N c n s).1 = reqL c' n' s' t' ∧ t'.length = 16 := by
  unfold makeV
  split
  · exact ⟨0, 0, _, zeros16, rfl, rfl⟩
  · split
    · exact ⟨0, 0, _, zeros16, rfl, rfl⟩
    · split
      · exact ⟨0, 0, _, zeros16, rfl, rfl⟩
      · exact ⟨c, n, s, _, rfl, tagV_length _ _ _ _ _⟩
set_option maxRecDepth 100000 in
set_option maxHeartbeats 2000000 in
theorem makes_walk (N M c n : Int) (s : ByteArray) (w : World) (hG : Glob w) :
   Calls Tryd.prog 3 #[.agg (askL N M c n s).toArray] w fun e w' => e = .returned (.bool true) ∧ Below w.heap.size w w' := by
  have hB0 : Below w.heap.size w (w.alloc (.cells (askL N M c n s).toArray 23)) := (Below.refl _ _).alloc (Nat.le_refl _) _
  have hA0 := ask_cells w N M c n s
  have hz0 : w.heap.size < (w.alloc (.cells (askL N M c n s).toArray 23)).heap.size := by simp
  have haL := fun (w0 : World) (b0 : Nat) h0 => @askL_at w0 b0 N M c n s h0
  obtain ⟨A, hA⟩ : ∃ A, Hid (askL N M c n s = A) := ⟨_, hide rfl⟩
  rw [hA.out] at hB0 hA0 hz0 ⊢
  simp only [hA.out] at haL
  have cmk := fun p w0 h0 hG0 => make_any p (keysOf seedR 72) N c n s w0 h0 hG0
  have crm := fun w0 => refMake_any seedR 72 N c n s w0 (by decide) (by decide)
  simp only [← make_same] at crm
  have cmn := fun w0 hG0 => make_any none [] N c n s w0 (.inl ⟨rfl, rfl⟩) hG0
  have hmn : makeV [] N c n s = (noReq, 1) := rfl
  simp only [hmn] at cmn
  clear hmn
  obtain ⟨c', n', s', t', hsh, ht'⟩ := makeV_shape (keysOf seedR 72) N c n s
  have heq := eqReq c' n' s' t' c' n' s' t' ht' ht'
  rw [reqB_same] at heq
  rw [← hsh] at heq
  have hlQ : (makeV (keysOf seedR 72) N c n s).1.length = 19 := by rw [hsh]; exact reqL_length _ _ _ _ ht'
  have hoQ : ((makeV (keysOf seedR 72) N c n s).1.toArray.all fun x => x.oneCell') = true := by rw [hsh]; exact all_oneCell_toArray (reqL_one c' n' s' t')
  clear hsh ht'
  obtain ⟨er, her⟩ : ∃ er, Hid ((makeV (keysOf seedR 72) N c n s).2 = er) := ⟨_, hide rfl⟩
  obtain ⟨Q, hQ⟩ : ∃ Q, Hid ((makeV (keysOf seedR 72) N c n s).1 = Q) := ⟨_, hide rfl⟩
  simp only [her.out, hQ.out] at cmk crm heq
  rw [hQ.out] at hlQ hoQ
  have hiQ : (Tryd.prog.info? 33).map (·.size) = some Q.toArray.size := by rw [List.size_toArray, hlQ]; exact iszR
  have hiQ' : (Tryd.prog.info? 33).map (·.size) = some Q.length := by rw [hlQ]; exact iszR
  have HLQ := hide hlQ
  clear hlQ
  have hiK : (Tryd.prog.info? 27).map (·.size) = some rkL.toArray.size := iszK
  have hiK' : (Tryd.prog.info? 27).map (·.size) = some rkL.length := iszK
  have hoK : (rkL.toArray.all fun x => x.oneCell') = true := by simp [rkL, Value.oneCell']
  have hiN := iszN
  have hoN := all_oneCell_toArray (reqL_one 0 0 ⟨#[]⟩ zeros16)
  change (noReq.toArray.all fun x => x.oneCell') = true at hoN
  have hNl : noReq.length = 19 := reqL_length _ _ _ _ rfl
  obtain ⟨Z, hZ⟩ : ∃ Z, Hid (noReq = Z) := ⟨_, hide rfl⟩
  rw [hZ.out] at hiN hoN hNl
  simp only [hZ.out] at cmn
  have HNL := hide hNl
  clear hNl
  go_enter Tryd.func3, Tryd.ntmps3
  go_upto_region 1 with fail
  go_name_world w1 hw1
  rw [hw1] at hB0 hA0 hz0
  clear hw1
  obtain ⟨X, hX⟩ : ∃ X, Hid (w.heap.size = X) := ⟨_, hide rfl⟩
  rw [hX.out] at hA0 hz0 ⊢
  obtain ⟨a0, a1, a2, a3, a4⟩ := haL w1 X hA0
  try simp only [Act.put]
  by_cases hbig : 2000 < s.size
  · have hbig' : (2000 : Int) < s.size := by omega
    clear heq hiQ hiQ' hoQ hiK hiK' hoK hiN hoN cmk crm cmn haL a0 a1 a2 a3
    go_wp2_with (go_at_call 8; refine (lives6_any w1 (hG.below hB0)).mono ?_; rintro e w9 ⟨rfl, hw9⟩)
    go_ret
    exact ⟨rfl, hB0.trans (hw9.mono hB0.size)⟩
  have hbig' : ¬ (2000 : Int) < s.size := by omega
  go_wp2_with fail
  refine (keys6_any w1 (hG.below hB0)).mono ?_
  rintro e w2 ⟨p, rfl, hp, hk2, hw2⟩
  have hB2 := hB0.trans (hw2.mono hB0.size)
  have hA2 := range_below hA0 hw2 hz0
  have hz2 := Nat.lt_of_lt_of_le hz0 hw2.size
  clear hB0 hA0 hz0 hw2 a0 a1 a2 a3 a4 hbig hbig'
  have F := fresh_store w2 #[.string ⟨#[]⟩, .int .i64 0] 27 rkL rfl
  have hN2 : (w2.alloc (.cells #[.string ⟨#[]⟩, .int .i64 0] 27)).there w2.heap.size 0 rkL.toArray.size := there_new w2 #[.string ⟨#[]⟩, .int .i64 0] 27
  go_upto_region 4 with (refine wpList_store_mid (op := ⟨none, .store 27 (.tmp 4) (.tmp 19), _, _, _, none⟩) rfl 27 _ _ rfl _ _ rkL.toArray rfl rfl hN2 hiK hoK ?_)
  go_name_world w3 hw3
  rw [show (w2.alloc (.cells #[.string ⟨#[]⟩, .int .i64 0] 27)).setCells w2.heap.size 0 rkL = w3 from hw3] at F
  clear hw3 hN2 hiK hoK
  obtain ⟨hR3, hF3, hz3, _⟩ := F
  have hB3 := hB2.trans (hF3.mono hB2.size)
  have hA3 := range_below hA2 hF3 hz2
  have hk3 := hk2.below hF3
  obtain ⟨Y, hY⟩ : ∃ Y, Hid (w2.heap.size = Y) := ⟨_, hide rfl⟩
  have hXY : X < Y := by rw [← hY.out]; exact hz2
  rw [hY.out] at hR3 hz3 ⊢
  have hY3' : Y < w3.heap.size := by omega
  clear hB2 hA2 hk2 hF3 hz2 hz3
  obtain ⟨a0, a1, a2, a3, a4⟩ := haL w3 X hA3
  try simp only [Act.put]
  go_wp2_with fail
  refine (cmk p w3 hk3 (hG.below hB3)).mono ?_
  rintro e w4 ⟨rfl, hw4⟩
  clear cmk a0 a1 a2 a3 a4
  have hB4 := hB3.trans (hw4.mono hB3.size)
  have hA4 := range_below hA3 hw4 (by omega)
  have hR4 := range_below hR3 hw4 (by omega)
  have hY4' := Nat.lt_of_lt_of_le hY3' hw4.size
  have hk4 := hk3.below hw4
  clear hB3 hA3 hR3 hk3 hw4 hY3'
  have F := fresh_store w4 #[.int .i64 0, .int .i64 0, .string ⟨#[]⟩, .int .u8 0, .int .u8 0, .int .u8 0, .int .u8 0, .int .u8 0, .int .u8 0, .int .u8 0, .int .u8 0, .int .u8 0, .int .u8 0, .int .u8 0, .int .u8 0, .int .u8 0, .int .u8 0, .int .u8 0, .int .u8 0] 33 Q (by rw [HLQ.out]; rfl)
  have hN : (w4.alloc (.cells #[.int .i64 0, .int .i64 0, .string ⟨#[]⟩, .int .u8 0, .int .u8 0, .int .u8 0, .int .u8 0, .int .u8 0, .int .u8 0, .int .u8 0, .int .u8 0, .int .u8 0, .int .u8 0, .int .u8 0, .int .u8 0, .int .u8 0, .int .u8 0, .int .u8 0, .int .u8 0] 33)).there w4.heap.size 0 Q.toArray.size := by
    have := there_new w4 #[.int .i64 0, .int .i64 0, .string ⟨#[]⟩, .int .u8 0, .int .u8 0, .int .u8 0, .int .u8 0, .int .u8 0, .int .u8 0, .int .u8 0, .int .u8 0, .int .u8 0, .int .u8 0, .int .u8 0, .int .u8 0, .int .u8 0, .int .u8 0, .int .u8 0, .int .u8 0] 33
    have e : Q.toArray.size = 19 := by have := HLQ.out; simpa using this
    rw [e]; exact this
  go_upto_region 5 with (refine wpList_store_mid (op := ⟨none, .store 33 (.tmp 5) (.tmp 31), _, _, _, none⟩) rfl 33 _ _ rfl _ _ Q.toArray rfl rfl hN hiQ hoQ ?_)
  go_name_world w5 hwn
  rw [show (w4.alloc (.cells #[.int .i64 0, .int .i64 0, .string ⟨#[]⟩, .int .u8 0, .int .u8 0, .int .u8 0, .int .u8 0, .int .u8 0, .int .u8 0, .int .u8 0, .int .u8 0, .int .u8 0, .int .u8 0, .int .u8 0, .int .u8 0, .int .u8 0, .int .u8 0, .int .u8 0, .int .u8 0] 33)).setCells w4.heap.size 0 Q = w5 from hwn] at F
  clear hwn hN
  obtain ⟨hRU5, hF5, hzz, _⟩ := F
  obtain ⟨U, hU⟩ : ∃ U, Hid (w4.heap.size = U) := ⟨_, hide rfl⟩
  have hUb : Y < U := by rw [← hU.out]; omega
  rw [hU.out] at hRU5 hzz ⊢
  try simp only [Act.put]
  have hB5 := hB4.trans (hF5.mono hB4.size)
  have hA5 := range_below hA4 hF5 (by omega)
  have hR5 := range_below hR4 hF5 (by omega)
  have hY5' := Nat.lt_of_lt_of_le hY4' hF5.size
  have hU5' : U < w5.heap.size := by omega
  clear hB4 hA4 hR4 hY4' hF5 hzz hk4
  obtain ⟨a0, a1, a2, a3, a4⟩ := haL w5 X hA5
  refine wp_region_list ?_
  refine wpList_load_mid rfl 27 _ rfl _ _ rfl rkL _ hR5 Tryd.underlying27 rfl hiK' ?_
  go_wp2_with fail
  refine (crm w5).mono ?_
  rintro e w6 ⟨rfl, hw6⟩
  clear crm a0 a1 a2 a3 a4
  have hB6 := hB5.trans (hw6.mono hB5.size)
  have hA6 := range_below hA5 hw6 (by omega)
  have hRU6 := range_below hRU5 hw6 (by omega)
  have hY6' := Nat.lt_of_lt_of_le hY5' hw6.size
  have hU6' := Nat.lt_of_lt_of_le hU5' hw6.size
  clear hB5 hA5 hR5 hRU5 hY5' hU5' hw6
  have F := fresh_store w6 #[.int .i64 0, .int .i64 0, .string ⟨#[]⟩, .int .u8 0, .int .u8 0, .int .u8 0, .int .u8 0, .int .u8 0, .int .u8 0, .int .u8 0, .int .u8 0, .int .u8 0, .int .u8 0, .int .u8 0, .int .u8 0, .int .u8 0, .int .u8 0, .int .u8 0, .int .u8 0] 33 Q (by rw [HLQ.out]; rfl)
  have hN : (w6.alloc (.cells #[.int .i64 0, .int .i64 0, .string ⟨#[]⟩, .int .u8 0, .int .u8 0, .int .u8 0, .int .u8 0, .int .u8 0, .int .u8 0, .int .u8 0, .int .u8 0, .int .u8 0, .int .u8 0, .int .u8 0, .int .u8 0, .int .u8 0, .int .u8 0, .int .u8 0, .int .u8 0] 33)).there w6.heap.size 0 Q.toArray.size := by
    have := there_new w6 #[.int .i64 0, .int .i64 0, .string ⟨#[]⟩, .int .u8 0, .int .u8 0, .int .u8 0, .int .u8 0, .int .u8 0, .int .u8 0, .int .u8 0, .int .u8 0, .int .u8 0, .int .u8 0, .int .u8 0, .int .u8 0, .int .u8 0, .int .u8 0, .int .u8 0, .int .u8 0] 33
    have e : Q.toArray.size = 19 := by have := HLQ.out; simpa using this
    rw [e]; exact this
  go_upto_region 6 with (refine wpList_store_mid (op := ⟨none, .store 33 (.tmp 7) (.tmp 44), _, _, _, none⟩) rfl 33 _ _ rfl _ _ Q.toArray rfl rfl hN hiQ hoQ ?_)
  go_name_world w7 hwn
  rw [show (w6.alloc (.cells #[.int .i64 0, .int .i64 0, .string ⟨#[]⟩, .int .u8 0, .int .u8 0, .int .u8 0, .int .u8 0, .int .u8 0, .int .u8 0, .int .u8 0, .int .u8 0, .int .u8 0, .int .u8 0, .int .u8 0, .int .u8 0, .int .u8 0, .int .u8 0, .int .u8 0, .int .u8 0] 33)).setCells w6.heap.size 0 Q = w7 from hwn] at F
  clear hwn hN
  obtain ⟨hRV7, hF7, hzz, _⟩ := F
  obtain ⟨V, hV⟩ : ∃ V, Hid (w6.heap.size = V) := ⟨_, hide rfl⟩
  have hVb : Y < V := by rw [← hV.out]; omega
  rw [hV.out] at hRV7 hzz ⊢
  try simp only [Act.put]
  have hB7 := hB6.trans (hF7.mono hB6.size)
  have hA7 := range_below hA6 hF7 (by omega)
  have hRU7 := range_below hRU6 hF7 (by omega)
  have hY7' := Nat.lt_of_lt_of_le hY6' hF7.size
  have hU7' := Nat.lt_of_lt_of_le hU6' hF7.size
  have hV7' : V < w7.heap.size := by omega
  clear hB6 hA6 hRU6 hY6' hU6' hF7 hzz
  obtain ⟨a0, a1, a2, a3, a4⟩ := haL w7 X hA7
  go_wp2_with fail
  refine (cmn w7 (hG.below hB7)).mono ?_
  rintro e w8 ⟨rfl, hw8⟩
  clear cmn a0 a1 a2 a3 a4 haL
  have hB8 := hB7.trans (hw8.mono hB7.size)
  have hRU8 := range_below hRU7 hw8 (by omega)
  have hRV8 := range_below hRV7 hw8 (by omega)
  have hY8' := Nat.lt_of_lt_of_le hY7' hw8.size
  have hU8' := Nat.lt_of_lt_of_le hU7' hw8.size
  have hV8' := Nat.lt_of_lt_of_le hV7' hw8.size
  clear hB7 hA7 hRU7 hRV7 hY7' hU7' hV7' hw8
  have F := fresh_store w8 #[.int .i64 0, .int .i64 0, .string ⟨#[]⟩, .int .u8 0, .int .u8 0, .int .u8 0, .int .u8 0, .int .u8 0, .int .u8 0, .int .u8 0, .int .u8 0, .int .u8 0, .int .u8 0, .int .u8 0, .int .u8 0, .int .u8 0, .int .u8 0, .int .u8 0, .int .u8 0] 33 Z (by rw [HNL.out]; rfl)
  have hN : (w8.alloc (.cells #[.int .i64 0, .int .i64 0, .string ⟨#[]⟩, .int .u8 0, .int .u8 0, .int .u8 0, .int .u8 0, .int .u8 0, .int .u8 0, .int .u8 0, .int .u8 0, .int .u8 0, .int .u8 0, .int .u8 0, .int .u8 0, .int .u8 0, .int .u8 0, .int .u8 0, .int .u8 0] 33)).there w8.heap.size 0 Z.toArray.size := by
    have := there_new w8 #[.int .i64 0, .int .i64 0, .string ⟨#[]⟩, .int .u8 0, .int .u8 0, .int .u8 0, .int .u8 0, .int .u8 0, .int .u8 0, .int .u8 0, .int .u8 0, .int .u8 0, .int .u8 0, .int .u8 0, .int .u8 0, .int .u8 0, .int .u8 0, .int .u8 0, .int .u8 0] 33
    have e : Z.toArray.size = 19 := by have := HNL.out; simpa using this
    rw [e]; exact this
  go_upto_region 7 with (refine wpList_store_mid (op := ⟨none, .store 33 (.tmp 9) (.tmp 56), _, _, _, none⟩) rfl 33 _ _ rfl _ _ Z.toArray rfl rfl hN hiN hoN ?_)
  go_name_world w9 hwn
  rw [show (w8.alloc (.cells #[.int .i64 0, .int .i64 0, .string ⟨#[]⟩, .int .u8 0, .int .u8 0, .int .u8 0, .int .u8 0, .int .u8 0, .int .u8 0, .int .u8 0, .int .u8 0, .int .u8 0, .int .u8 0, .int .u8 0, .int .u8 0, .int .u8 0, .int .u8 0, .int .u8 0, .int .u8 0] 33)).setCells w8.heap.size 0 Z = w9 from hwn] at F
  clear hwn hN
  obtain ⟨hRR9, hF9, hzz, _⟩ := F
  obtain ⟨R, hR⟩ : ∃ R, Hid (w8.heap.size = R) := ⟨_, hide rfl⟩
  have hRb : Y < R := by rw [← hR.out]; omega
  rw [hR.out] at hRR9 hzz ⊢
  try simp only [Act.put]
  have hB9 := hB8.trans (hF9.mono hB8.size)
  have hRU9 := range_below hRU8 hF9 (by omega)
  have hRV9 := range_below hRV8 hF9 (by omega)
  have hY9' := Nat.lt_of_lt_of_le hY8' hF9.size
  clear hB8 hRU8 hRV8 hY8' hU8' hV8' hzz hF9
  refine wp_region_list ?_
  refine wpList_load_mid rfl 33 _ rfl _ _ rfl Q _ hRU9 Tryd.underlying33 rfl hiQ' ?_
  refine wpList_load_mid rfl 33 _ rfl _ _ rfl Q _ hRV9 Tryd.underlying33 rfl hiQ' ?_
  clear hRU9 hRV9 hRR9
  go_wp2_with fail
  refine (lives6_any w9 (hG.below hB9)).mono ?_
  rintro e w10 ⟨rfl, hw10⟩
  go_wp2_with fail
  go_ret
  exact ⟨rfl, hB9.trans (hw10.mono hB9.size)⟩
end Go.Proofs.YtbfhpgneaklgoabDoor
