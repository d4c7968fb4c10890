/- the document's Make: contracts -/
import Derived.Test.YtbfhpgneaklgoabDoorRq5
import Derived.Test.YtbfhpgneaklgoabDoorFork
namespace Go.Proofs.YtbfhpgneaklgoabDoor
open Go.RowKit
open Sha Tal
set_option maxRecDepth 100000 in
set_option maxHeartbeats 2000000 in
theorem refMake_noA (seed : ByteArray) (M N c n : Int) (s : ByteArray) (w : World) (hm : ¬ (0 ≤ c ∧ c < 8 ∧ 1 ≤ n ∧ n ≤ 1099511627776 ∧ s.size ≤ 64)) :
   Calls Tryd.prog 11 #[.agg #[.string seed, .int .i64 M], .int .i64 N, .int .i64 c, .int .i64 n, .string s] w fun e w' => e = .returned (.tuple #[.agg noReq.toArray, .int .i64 60]) ∧ Below w.heap.size w w' := by
  have hi0 : (Tryd.prog.info? 33).map (·.size) = some (reqL c n s zeros16).toArray.size := by rw [List.size_toArray, reqL_length _ _ _ _ rfl]; exact iszR
  have h1c := all_oneCell_toArray (reqL_one c n s zeros16)
  have hBk : Below w.heap.size w (w.alloc (.cells #[.string seed, .int .i64 M] 27)) := (Below.refl _ _).alloc (Nat.le_refl _) _
  have hB0 : Below w.heap.size w ((w.alloc (.cells #[.string seed, .int .i64 M] 27)).alloc (.cells #[.int .i64 0, .int .i64 0, .string ⟨#[]⟩, .int .u8 0, .int .u8 0, .int .u8 0, .int .u8 0, .int .u8 0, .int .u8 0, .int .u8 0, .int .u8 0, .int .u8 0, .int .u8 0, .int .u8 0, .int .u8 0, .int .u8 0, .int .u8 0, .int .u8 0, .int .u8 0] 33)) := hBk.alloc hBk.size _
  have hk0 : ((w.alloc (.cells #[.string seed, .int .i64 M] 27)).alloc (.cells #[.int .i64 0, .int .i64 0, .string ⟨#[]⟩, .int .u8 0, .int .u8 0, .int .u8 0, .int .u8 0, .int .u8 0, .int .u8 0, .int .u8 0, .int .u8 0, .int .u8 0, .int .u8 0, .int .u8 0, .int .u8 0, .int .u8 0, .int .u8 0, .int .u8 0, .int .u8 0] 33)).rangeAt w.heap.size 0 [.string seed, .int .i64 M] := World.rangeAt_alloc (range_new w #[.string seed, .int .i64 M] 27) _
  have ht0 : ((w.alloc (.cells #[.string seed, .int .i64 M] 27)).alloc (.cells #[.int .i64 0, .int .i64 0, .string ⟨#[]⟩, .int .u8 0, .int .u8 0, .int .u8 0, .int .u8 0, .int .u8 0, .int .u8 0, .int .u8 0, .int .u8 0, .int .u8 0, .int .u8 0, .int .u8 0, .int .u8 0, .int .u8 0, .int .u8 0, .int .u8 0, .int .u8 0] 33)).there (w.heap.size + 1) 0 19 := by have := there_new (w.alloc (.cells #[.string seed, .int .i64 M] 27)) #[.int .i64 0, .int .i64 0, .string ⟨#[]⟩, .int .u8 0, .int .u8 0, .int .u8 0, .int .u8 0, .int .u8 0, .int .u8 0, .int .u8 0, .int .u8 0, .int .u8 0, .int .u8 0, .int .u8 0, .int .u8 0, .int .u8 0, .int .u8 0, .int .u8 0, .int .u8 0] 33; rw [World.size_alloc] at this; exact this
  have hz0 : w.heap.size + 1 < ((w.alloc (.cells #[.string seed, .int .i64 M] 27)).alloc (.cells #[.int .i64 0, .int .i64 0, .string ⟨#[]⟩, .int .u8 0, .int .u8 0, .int .u8 0, .int .u8 0, .int .u8 0, .int .u8 0, .int .u8 0, .int .u8 0, .int .u8 0, .int .u8 0, .int .u8 0, .int .u8 0, .int .u8 0, .int .u8 0, .int .u8 0, .int .u8 0] 33)).heap.size := by simp
  go_enter Tryd.func11, Tryd.ntmps11
  go_upto_region 1 with fail
  go_name_world w1 hw1
  rw [show ((w.alloc (.cells #[.string seed, .int .i64 M] 27)).alloc (.cells #[.int .i64 0, .int .i64 0, .string ⟨#[]⟩, .int .u8 0, .int .u8 0, .int .u8 0, .int .u8 0, .int .u8 0, .int .u8 0, .int .u8 0, .int .u8 0, .int .u8 0, .int .u8 0, .int .u8 0, .int .u8 0, .int .u8 0, .int .u8 0, .int .u8 0, .int .u8 0] 33)) = w1 from hw1] at ht0 hB0 hz0 hk0
  clear hw1 hBk
  have F := fresh_store w1 #[.int .i64 0, .int .i64 0, .string ⟨#[]⟩, .int .u8 0, .int .u8 0, .int .u8 0, .int .u8 0, .int .u8 0, .int .u8 0, .int .u8 0, .int .u8 0, .int .u8 0, .int .u8 0, .int .u8 0, .int .u8 0, .int .u8 0, .int .u8 0, .int .u8 0, .int .u8 0] 33 (reqL c n s zeros16) (by rw [reqL_length _ _ _ _ rfl]; rfl)
  have hN1 : (w1.alloc (.cells #[.int .i64 0, .int .i64 0, .string ⟨#[]⟩, .int .u8 0, .int .u8 0, .int .u8 0, .int .u8 0, .int .u8 0, .int .u8 0, .int .u8 0, .int .u8 0, .int .u8 0, .int .u8 0, .int .u8 0, .int .u8 0, .int .u8 0, .int .u8 0, .int .u8 0, .int .u8 0] 33)).there w1.heap.size 0 (reqL c n s zeros16).toArray.size := there_new w1 #[.int .i64 0, .int .i64 0, .string ⟨#[]⟩, .int .u8 0, .int .u8 0, .int .u8 0, .int .u8 0, .int .u8 0, .int .u8 0, .int .u8 0, .int .u8 0, .int .u8 0, .int .u8 0, .int .u8 0, .int .u8 0, .int .u8 0, .int .u8 0, .int .u8 0, .int .u8 0] 33
  go_upto_region 2 with (refine wpList_store_mid (op := ⟨none, .store 33 (.tmp 12) (.tmp 18), _, _, _, none⟩) rfl 33 _ _ rfl _ _ (reqL c n s zeros16).toArray rfl rfl hN1 hi0 h1c ?_)
  go_name_world w2 hw2
  rw [show (w1.alloc (.cells #[.int .i64 0, .int .i64 0, .string ⟨#[]⟩, .int .u8 0, .int .u8 0, .int .u8 0, .int .u8 0, .int .u8 0, .int .u8 0, .int .u8 0, .int .u8 0, .int .u8 0, .int .u8 0, .int .u8 0, .int .u8 0, .int .u8 0, .int .u8 0, .int .u8 0, .int .u8 0] 33)).setCells w1.heap.size 0 (reqL c n s zeros16) = w2 from hw2] at F
  clear hw2 hN1 h1c
  obtain ⟨hR2, hF2, hz2, hT2⟩ := F
  have hT2 : w2.there w1.heap.size 0 19 := hT2
  have hB2 := hB0.trans (hF2.mono hB0.size)
  have ht2 := there_below ht0 hF2 hz0
  have hk2 := range_below hk0 hF2 (by omega)
  have hi0' : (Tryd.prog.info? 33).map (·.size) = some (reqL c n s zeros16).length := by rw [reqL_length _ _ _ _ rfl]; exact iszR
  clear hB0 ht0 hF2 hi0 hk0
  try simp only [Act.put]
  generalize Value.agg #[Value.int IntKind.i64 c, Value.int IntKind.i64 n, Value.string s, Value.int IntKind.u8 0, Value.int IntKind.u8 0, Value.int IntKind.u8 0, Value.int IntKind.u8 0, Value.int IntKind.u8 0, Value.int IntKind.u8 0, Value.int IntKind.u8 0, Value.int IntKind.u8 0, Value.int IntKind.u8 0, Value.int IntKind.u8 0, Value.int IntKind.u8 0, Value.int IntKind.u8 0, Value.int IntKind.u8 0, Value.int IntKind.u8 0, Value.int IntKind.u8 0, Value.int IntKind.u8 0] = v18
  obtain ⟨V, hV⟩ : ∃ V, Hid (w.heap.size = V) := ⟨_, hide rfl⟩
  obtain ⟨X, hX⟩ : ∃ X, Hid (w.heap.size + 1 = X) := ⟨_, hide rfl⟩
  obtain ⟨Y, hY⟩ : ∃ Y, Hid (w1.heap.size = Y) := ⟨_, hide rfl⟩
  have hVX : V < X := by rw [← hX.out, ← hV.out]; omega
  have hXY : X < Y := by rw [← hX.out, ← hY.out]; exact hz0
  have hY2 : Y < w2.heap.size := by rw [hz2, hY.out]; omega
  clear hz0 hz2
  rw [hX.out] at ht2 ⊢
  rw [hV.out] at hk2 ⊢
  rw [hY.out] at hR2 hT2 ⊢
  have cm := fun w0 => form_any c n 8 s zeros16 w0
  have hmb : decide (0 ≤ c ∧ c < 8 ∧ 1 ≤ n ∧ n ≤ 1099511627776 ∧ s.size ≤ 64) = false := decide_eq_false hm
  simp only [hmb] at cm
  clear hmb
  obtain ⟨q, hq⟩ : ∃ q, Hid (reqL c n s zeros16 = q) := ⟨_, hide rfl⟩
  rw [hq.out] at hR2 hi0'
  simp only [hq.out] at cm
  refine wp_region_list ?_
  refine wpList_load_mid rfl 33 _ rfl _ _ rfl q _ hR2 Tryd.underlying33 rfl hi0' ?_
  go_wp2_with fail
  refine (cm w2).mono ?_
  rintro e w3 ⟨rfl, hw3⟩
  have hB3 := hB2.trans (hw3.mono hB2.size)
  have hR3 := range_below hR2 hw3 hY2
  have ht3 := there_below ht2 hw3 (by omega)
  have hT3 := there_below hT2 hw3 hY2
  have hk3 := range_below hk2 hw3 (by omega)
  have hY3 := Nat.lt_of_lt_of_le hY2 hw3.size
  clear hB2 hR2 ht2 hY2 cm hw3 hT2 hk2
  have hlit := litReq
  have hi := iszN
  have ho := all_oneCell_toArray (reqL_one 0 0 ⟨#[]⟩ zeros16)
  change (noReq.toArray.all fun x => x.oneCell') = true at ho
  have hzl : noReq.toArray.size = 19 := by rw [List.size_toArray]; exact reqL_length _ _ _ _ rfl
  obtain ⟨zs, hzs⟩ : ∃ zs, Hid (noReq = zs) := ⟨_, hide rfl⟩
  rw [hzs.out] at hlit hi ho hzl
  rw [← hzl] at ht3
  have hi' : (Tryd.prog.info? 33).map (·.size) = some zs.length := by simpa using hi
  have hzl' := hide hzl
  clear hzl
  have hrs := run_loadVar_mid (P := Tryd.prog) (w3.setCells X 0 zs) X 0 33 zs _ (World.rangeAt_setCells_same w3 X 0 zs (by have := ht3; simpa using this)) Tryd.underlying33 rfl hi'
  have hBl : Below w.heap.size w (w3.setCells X 0 zs) := below_sets (by rw [hV.out]; omega) _ 0 w3 hB3
  go_wp2_with (refine wpList_store_mid rfl 33 _ _ rfl _ _ zs.toArray rfl rfl ht3 hi ho ?_)
  exact bodyPost_ret (v := .tuple #[.agg zs.toArray, .int .i64 60]) (by simp [results, Tryd.results11, asAddr, hrs]) rfl ⟨by rw [hzs.out], hBl⟩
set_option maxRecDepth 100000 in
set_option maxHeartbeats 2000000 in
theorem refMake_noB (seed : ByteArray) (M N c n : Int) (s : ByteArray) (w : World) (hm : 0 ≤ c ∧ c < 8 ∧ 1 ≤ n ∧ n ≤ 1099511627776 ∧ s.size ≤ 64) (hN : N < 0 ∨ 64 < N) :
   Calls Tryd.prog 11 #[.agg #[.string seed, .int .i64 M], .int .i64 N, .int .i64 c, .int .i64 n, .string s] w fun e w' => e = .returned (.tuple #[.agg noReq.toArray, .int .i64 2]) ∧ Below w.heap.size w w' := by
  have hi0 : (Tryd.prog.info? 33).map (·.size) = some (reqL c n s zeros16).toArray.size := by rw [List.size_toArray, reqL_length _ _ _ _ rfl]; exact iszR
  have h1c := all_oneCell_toArray (reqL_one c n s zeros16)
  have hBk : Below w.heap.size w (w.alloc (.cells #[.string seed, .int .i64 M] 27)) := (Below.refl _ _).alloc (Nat.le_refl _) _
  have hB0 : Below w.heap.size w ((w.alloc (.cells #[.string seed, .int .i64 M] 27)).alloc (.cells #[.int .i64 0, .int .i64 0, .string ⟨#[]⟩, .int .u8 0, .int .u8 0, .int .u8 0, .int .u8 0, .int .u8 0, .int .u8 0, .int .u8 0, .int .u8 0, .int .u8 0, .int .u8 0, .int .u8 0, .int .u8 0, .int .u8 0, .int .u8 0, .int .u8 0, .int .u8 0] 33)) := hBk.alloc hBk.size _
  have hk0 : ((w.alloc (.cells #[.string seed, .int .i64 M] 27)).alloc (.cells #[.int .i64 0, .int .i64 0, .string ⟨#[]⟩, .int .u8 0, .int .u8 0, .int .u8 0, .int .u8 0, .int .u8 0, .int .u8 0, .int .u8 0, .int .u8 0, .int .u8 0, .int .u8 0, .int .u8 0, .int .u8 0, .int .u8 0, .int .u8 0, .int .u8 0, .int .u8 0] 33)).rangeAt w.heap.size 0 [.string seed, .int .i64 M] := World.rangeAt_alloc (range_new w #[.string seed, .int .i64 M] 27) _
  have ht0 : ((w.alloc (.cells #[.string seed, .int .i64 M] 27)).alloc (.cells #[.int .i64 0, .int .i64 0, .string ⟨#[]⟩, .int .u8 0, .int .u8 0, .int .u8 0, .int .u8 0, .int .u8 0, .int .u8 0, .int .u8 0, .int .u8 0, .int .u8 0, .int .u8 0, .int .u8 0, .int .u8 0, .int .u8 0, .int .u8 0, .int .u8 0, .int .u8 0] 33)).there (w.heap.size + 1) 0 19 := by have := there_new (w.alloc (.cells #[.string seed, .int .i64 M] 27)) #[.int .i64 0, .int .i64 0, .string ⟨#[]⟩, .int .u8 0, .int .u8 0, .int .u8 0, .int .u8 0, .int .u8 0, .int .u8 0, .int .u8 0, .int .u8 0, .int .u8 0, .int .u8 0, .int .u8 0, .int .u8 0, .int .u8 0, .int .u8 0, .int .u8 0, .int .u8 0] 33; rw [World.size_alloc] at this; exact this
  have hz0 : w.heap.size + 1 < ((w.alloc (.cells #[.string seed, .int .i64 M] 27)).alloc (.cells #[.int .i64 0, .int .i64 0, .string ⟨#[]⟩, .int .u8 0, .int .u8 0, .int .u8 0, .int .u8 0, .int .u8 0, .int .u8 0, .int .u8 0, .int .u8 0, .int .u8 0, .int .u8 0, .int .u8 0, .int .u8 0, .int .u8 0, .int .u8 0, .int .u8 0, .int .u8 0] 33)).heap.size := by simp
  go_enter Tryd.func11, Tryd.ntmps11
  go_upto_region 1 with fail
  go_name_world w1 hw1
  rw [show ((w.alloc (.cells #[.string seed, .int .i64 M] 27)).alloc (.cells #[.int .i64 0, .int .i64 0, .string ⟨#[]⟩, .int .u8 0, .int .u8 0, .int .u8 0, .int .u8 0, .int .u8 0, .int .u8 0, .int .u8 0, .int .u8 0, .int .u8 0, .int .u8 0, .int .u8 0, .int .u8 0, .int .u8 0, .int .u8 0, .int .u8 0, .int .u8 0] 33)) = w1 from hw1] at ht0 hB0 hz0 hk0
  clear hw1 hBk
  have F := fresh_store w1 #[.int .i64 0, .int .i64 0, .string ⟨#[]⟩, .int .u8 0, .int .u8 0, .int .u8 0, .int .u8 0, .int .u8 0, .int .u8 0, .int .u8 0, .int .u8 0, .int .u8 0, .int .u8 0, .int .u8 0, .int .u8 0, .int .u8 0, .int .u8 0, .int .u8 0, .int .u8 0] 33 (reqL c n s zeros16) (by rw [reqL_length _ _ _ _ rfl]; rfl)
  have hN1 : (w1.alloc (.cells #[.int .i64 0, .int .i64 0, .string ⟨#[]⟩, .int .u8 0, .int .u8 0, .int .u8 0, .int .u8 0, .int .u8 0, .int .u8 0, .int .u8 0, .int .u8 0, .int .u8 0, .int .u8 0, .int .u8 0, .int .u8 0, .int .u8 0, .int .u8 0, .int .u8 0, .int .u8 0] 33)).there w1.heap.size 0 (reqL c n s zeros16).toArray.size := there_new w1 #[.int .i64 0, .int .i64 0, .string ⟨#[]⟩, .int .u8 0, .int .u8 0, .int .u8 0, .int .u8 0, .int .u8 0, .int .u8 0, .int .u8 0, .int .u8 0, .int .u8 0, .int .u8 0, .int .u8 0, .int .u8 0, .int .u8 0, .int .u8 0, .int .u8 0, .int .u8 0] 33
  go_upto_region 2 with (refine wpList_store_mid (op := ⟨none, .store 33 (.tmp 12) (.tmp 18), _, _, _, none⟩) rfl 33 _ _ rfl _ _ (reqL c n s zeros16).toArray rfl rfl hN1 hi0 h1c ?_)
  go_name_world w2 hw2
  rw [show (w1.alloc (.cells #[.int .i64 0, .int .i64 0, .string ⟨#[]⟩, .int .u8 0, .int .u8 0, .int .u8 0, .int .u8 0, .int .u8 0, .int .u8 0, .int .u8 0, .int .u8 0, .int .u8 0, .int .u8 0, .int .u8 0, .int .u8 0, .int .u8 0, .int .u8 0, .int .u8 0, .int .u8 0] 33)).setCells w1.heap.size 0 (reqL c n s zeros16) = w2 from hw2] at F
  clear hw2 hN1 h1c
  obtain ⟨hR2, hF2, hz2, hT2⟩ := F
  have hT2 : w2.there w1.heap.size 0 19 := hT2
  have hB2 := hB0.trans (hF2.mono hB0.size)
  have ht2 := there_below ht0 hF2 hz0
  have hk2 := range_below hk0 hF2 (by omega)
  have hi0' : (Tryd.prog.info? 33).map (·.size) = some (reqL c n s zeros16).length := by rw [reqL_length _ _ _ _ rfl]; exact iszR
  clear hB0 ht0 hF2 hi0 hk0
  try simp only [Act.put]
  generalize Value.agg #[Value.int IntKind.i64 c, Value.int IntKind.i64 n, Value.string s, Value.int IntKind.u8 0, Value.int IntKind.u8 0, Value.int IntKind.u8 0, Value.int IntKind.u8 0, Value.int IntKind.u8 0, Value.int IntKind.u8 0, Value.int IntKind.u8 0, Value.int IntKind.u8 0, Value.int IntKind.u8 0, Value.int IntKind.u8 0, Value.int IntKind.u8 0, Value.int IntKind.u8 0, Value.int IntKind.u8 0, Value.int IntKind.u8 0, Value.int IntKind.u8 0, Value.int IntKind.u8 0] = v18
  obtain ⟨V, hV⟩ : ∃ V, Hid (w.heap.size = V) := ⟨_, hide rfl⟩
  obtain ⟨X, hX⟩ : ∃ X, Hid (w.heap.size + 1 = X) := ⟨_, hide rfl⟩
  obtain ⟨Y, hY⟩ : ∃ Y, Hid (w1.heap.size = Y) := ⟨_, hide rfl⟩
  have hVX : V < X := by rw [← hX.out, ← hV.out]; omega
  have hXY : X < Y := by rw [← hX.out, ← hY.out]; exact hz0
  have hY2 : Y < w2.heap.size := by rw [hz2, hY.out]; omega
  clear hz0 hz2
  rw [hX.out] at ht2 ⊢
  rw [hV.out] at hk2 ⊢
  rw [hY.out] at hR2 hT2 ⊢
  have cm := fun w0 => form_any c n 8 s zeros16 w0
  have hmb : decide (0 ≤ c ∧ c < 8 ∧ 1 ≤ n ∧ n ≤ 1099511627776 ∧ s.size ≤ 64) = true := decide_eq_true hm
  simp only [hmb] at cm
  clear hmb
  obtain ⟨q, hq⟩ : ∃ q, Hid (reqL c n s zeros16 = q) := ⟨_, hide rfl⟩
  rw [hq.out] at hR2 hi0'
  simp only [hq.out] at cm
  refine wp_region_list ?_
  refine wpList_load_mid rfl 33 _ rfl _ _ rfl q _ hR2 Tryd.underlying33 rfl hi0' ?_
  go_wp2_with fail
  refine (cm w2).mono ?_
  rintro e w3 ⟨rfl, hw3⟩
  have hB3 := hB2.trans (hw3.mono hB2.size)
  have hR3 := range_below hR2 hw3 hY2
  have ht3 := there_below ht2 hw3 (by omega)
  have hT3 := there_below hT2 hw3 hY2
  have hk3 := range_below hk2 hw3 (by omega)
  have hY3 := Nat.lt_of_lt_of_le hY2 hw3.size
  clear hB2 hR2 ht2 hY2 cm hw3 hT2 hk2
  rcases hN with hN | hN
  · have hlit := litReq
    have hi := iszN
    have ho := all_oneCell_toArray (reqL_one 0 0 ⟨#[]⟩ zeros16)
    change (noReq.toArray.all fun x => x.oneCell') = true at ho
    have hzl : noReq.toArray.size = 19 := by rw [List.size_toArray]; exact reqL_length _ _ _ _ rfl
    obtain ⟨zs, hzs⟩ : ∃ zs, Hid (noReq = zs) := ⟨_, hide rfl⟩
    rw [hzs.out] at hlit hi ho hzl
    rw [← hzl] at ht3
    have hi' : (Tryd.prog.info? 33).map (·.size) = some zs.length := by simpa using hi
    have hzl' := hide hzl
    clear hzl
    have hrs := run_loadVar_mid (P := Tryd.prog) (w3.setCells X 0 zs) X 0 33 zs _ (World.rangeAt_setCells_same w3 X 0 zs (by have := ht3; simpa using this)) Tryd.underlying33 rfl hi'
    have hBl : Below w.heap.size w (w3.setCells X 0 zs) := below_sets (by rw [hV.out]; omega) _ 0 w3 hB3
    go_wp2_with (refine wpList_store_mid rfl 33 _ _ rfl _ _ zs.toArray rfl rfl ht3 hi ho ?_)
    exact bodyPost_ret (v := .tuple #[.agg zs.toArray, .int .i64 2]) (by simp [results, Tryd.results11, asAddr, hrs]) rfl ⟨by rw [hzs.out], hBl⟩
  · have hN0 : ¬ N < 0 := by omega
    have hlit := litReq
    have hi := iszN
    have ho := all_oneCell_toArray (reqL_one 0 0 ⟨#[]⟩ zeros16)
    change (noReq.toArray.all fun x => x.oneCell') = true at ho
    have hzl : noReq.toArray.size = 19 := by rw [List.size_toArray]; exact reqL_length _ _ _ _ rfl
    obtain ⟨zs, hzs⟩ : ∃ zs, Hid (noReq = zs) := ⟨_, hide rfl⟩
    rw [hzs.out] at hlit hi ho hzl
    rw [← hzl] at ht3
    have hi' : (Tryd.prog.info? 33).map (·.size) = some zs.length := by simpa using hi
    have hzl' := hide hzl
    clear hzl
    have hrs := run_loadVar_mid (P := Tryd.prog) (w3.setCells X 0 zs) X 0 33 zs _ (World.rangeAt_setCells_same w3 X 0 zs (by have := ht3; simpa using this)) Tryd.underlying33 rfl hi'
    have hBl : Below w.heap.size w (w3.setCells X 0 zs) := below_sets (by rw [hV.out]; omega) _ 0 w3 hB3
    go_wp2_with (refine wpList_store_mid rfl 33 _ _ rfl _ _ zs.toArray rfl rfl ht3 hi ho ?_)
    exact bodyPost_ret (v := .tuple #[.agg zs.toArray, .int .i64 2]) (by simp [results, Tryd.results11, asAddr, hrs]) rfl ⟨by rw [hzs.out], hBl⟩
theorem exec_alloc_tag (w : World) {a : Act} {o : Oper} (h : o.op = Op.alloc 31 := by rfl) : (execOp a.eval o).run Tryd.prog w = .ok (.value (.pointer (some ⟨w.heap.size, 0, none⟩))) (w.alloc (.cells (Array.replicate 16 (.int .u8 0)) 31)) := by
  unfold execOp
  rw [h]
  go_simp
  rfl
set_option maxRecDepth 100000 in
set_option maxHeartbeats 2000000 in
theorem refMake_noC (seed : ByteArray) (M N c n : Int) (s : ByteArray) (w : World) (hm : 0 ≤ c ∧ c < 8 ∧ 1 ≤ n ∧ n ≤ 1099511627776 ∧ s.size ≤ 64) (hN : 0 ≤ N ∧ N ≤ 64) (hsd : seed.size ≤ 100000) (hM : M ≤ 100000) (hne : (refSignOf seed M (N + c) (strOf (bodyL c n s))).2 ≠ 0) :
   Calls Tryd.prog 11 #[.agg #[.string seed, .int .i64 M], .int .i64 N, .int .i64 c, .int .i64 n, .string s] w fun e w' => e = .returned (.tuple #[.agg noReq.toArray, .int .i64 (refSignOf seed M (N + c) (strOf (bodyL c n s))).2]) ∧ Below w.heap.size w w' := by
  have hw65 : IntKind.i64.wrap (N + c) = N + c := by rw [IntKind.wrap_i64]; omega
  have cb := fun w0 => refBody_any c n s zeros16 w0 (by omega) (by omega) (by omega)
  obtain ⟨bd, hbd⟩ : ∃ bd, Hid (strOf (bodyL c n s) = bd) := ⟨_, hide rfl⟩
  have hbs : bd.size ≤ 100000 := by rw [← hbd.out, strOf_size]; exact body_small c n s (by omega) (by omega) (by omega)
  simp only [hbd.out] at cb
  have cs := fun w0 => refSign_any seed M (N + c) bd w0 hsd hM hbs
  rw [hbd.out] at hne
  rw [hbd.out]
  have hrl0 := refSignOf_length seed M (N + c) bd
  obtain ⟨er, her⟩ : ∃ er, Hid ((refSignOf seed M (N + c) bd).2 = er) := ⟨_, hide rfl⟩
  obtain ⟨r0, hr0⟩ : ∃ r0, Hid ((refSignOf seed M (N + c) bd).1 = r0) := ⟨_, hide rfl⟩
  simp only [her.out, hr0.out] at cs
  rw [hr0.out] at hrl0
  rw [her.out] at hne ⊢
  have hir := info16 r0 hrl0
  have hor := all_oneCell_toArray (v8_one r0)
  have hir' : (Tryd.prog.info? 31).map (·.size) = some (v8 r0).length := by rw [v8_length, hrl0]; exact iszT
  have hput := fun (w0 : World) (b0 : Nat) h1 h2 => @reqL_put w0 b0 c n s zeros16 r0 h1 hrl0 h2
  have hiR : (Tryd.prog.info? 33).map (·.size) = some (reqL c n s r0).toArray.size := by rw [List.size_toArray, reqL_length c n s r0 hrl0]; exact iszR
  have hoR := all_oneCell_toArray (reqL_one c n s r0)
  have hRl : (reqL c n s r0).toArray.size = 19 := by rw [List.size_toArray, reqL_length c n s r0 hrl0]
  have hrl : Hid ((v8 r0).length = 16) := by show _ = _; rw [v8_length, hrl0]
  obtain ⟨r, hr⟩ : ∃ r, Hid (v8 r0 = r) := ⟨_, hide rfl⟩
  obtain ⟨Q, hQ⟩ : ∃ Q, Hid (reqL c n s r0 = Q) := ⟨_, hide rfl⟩
  simp only [hr.out] at cs
  rw [hr.out] at hir hor hir' hrl
  rw [hQ.out] at hiR hoR hRl
  simp only [hr.out, hQ.out] at hput
  have hRl' := hide hRl
  have hiR' : (Tryd.prog.info? 33).map (·.size) = some Q.length := by simpa using hiR
  clear hrl0 hRl hbs
  have hi0 : (Tryd.prog.info? 33).map (·.size) = some (reqL c n s zeros16).toArray.size := by rw [List.size_toArray, reqL_length _ _ _ _ rfl]; exact iszR
  have h1c := all_oneCell_toArray (reqL_one c n s zeros16)
  have hBk : Below w.heap.size w (w.alloc (.cells #[.string seed, .int .i64 M] 27)) := (Below.refl _ _).alloc (Nat.le_refl _) _
  have hB0 : Below w.heap.size w ((w.alloc (.cells #[.string seed, .int .i64 M] 27)).alloc (.cells #[.int .i64 0, .int .i64 0, .string ⟨#[]⟩, .int .u8 0, .int .u8 0, .int .u8 0, .int .u8 0, .int .u8 0, .int .u8 0, .int .u8 0, .int .u8 0, .int .u8 0, .int .u8 0, .int .u8 0, .int .u8 0, .int .u8 0, .int .u8 0, .int .u8 0, .int .u8 0] 33)) := hBk.alloc hBk.size _
  have hk0 : ((w.alloc (.cells #[.string seed, .int .i64 M] 27)).alloc (.cells #[.int .i64 0, .int .i64 0, .string ⟨#[]⟩, .int .u8 0, .int .u8 0, .int .u8 0, .int .u8 0, .int .u8 0, .int .u8 0, .int .u8 0, .int .u8 0, .int .u8 0, .int .u8 0, .int .u8 0, .int .u8 0, .int .u8 0, .int .u8 0, .int .u8 0, .int .u8 0] 33)).rangeAt w.heap.size 0 [.string seed, .int .i64 M] := World.rangeAt_alloc (range_new w #[.string seed, .int .i64 M] 27) _
  have ht0 : ((w.alloc (.cells #[.string seed, .int .i64 M] 27)).alloc (.cells #[.int .i64 0, .int .i64 0, .string ⟨#[]⟩, .int .u8 0, .int .u8 0, .int .u8 0, .int .u8 0, .int .u8 0, .int .u8 0, .int .u8 0, .int .u8 0, .int .u8 0, .int .u8 0, .int .u8 0, .int .u8 0, .int .u8 0, .int .u8 0, .int .u8 0, .int .u8 0] 33)).there (w.heap.size + 1) 0 19 := by have := there_new (w.alloc (.cells #[.string seed, .int .i64 M] 27)) #[.int .i64 0, .int .i64 0, .string ⟨#[]⟩, .int .u8 0, .int .u8 0, .int .u8 0, .int .u8 0, .int .u8 0, .int .u8 0, .int .u8 0, .int .u8 0, .int .u8 0, .int .u8 0, .int .u8 0, .int .u8 0, .int .u8 0, .int .u8 0, .int .u8 0, .int .u8 0] 33; rw [World.size_alloc] at this; exact this
  have hz0 : w.heap.size + 1 < ((w.alloc (.cells #[.string seed, .int .i64 M] 27)).alloc (.cells #[.int .i64 0, .int .i64 0, .string ⟨#[]⟩, .int .u8 0, .int .u8 0, .int .u8 0, .int .u8 0, .int .u8 0, .int .u8 0, .int .u8 0, .int .u8 0, .int .u8 0, .int .u8 0, .int .u8 0, .int .u8 0, .int .u8 0, .int .u8 0, .int .u8 0, .int .u8 0] 33)).heap.size := by simp
  go_enter Tryd.func11, Tryd.ntmps11
  go_upto_region 1 with fail
  go_name_world w1 hw1
  rw [show ((w.alloc (.cells #[.string seed, .int .i64 M] 27)).alloc (.cells #[.int .i64 0, .int .i64 0, .string ⟨#[]⟩, .int .u8 0, .int .u8 0, .int .u8 0, .int .u8 0, .int .u8 0, .int .u8 0, .int .u8 0, .int .u8 0, .int .u8 0, .int .u8 0, .int .u8 0, .int .u8 0, .int .u8 0, .int .u8 0, .int .u8 0, .int .u8 0] 33)) = w1 from hw1] at ht0 hB0 hz0 hk0
  clear hw1 hBk
  have F := fresh_store w1 #[.int .i64 0, .int .i64 0, .string ⟨#[]⟩, .int .u8 0, .int .u8 0, .int .u8 0, .int .u8 0, .int .u8 0, .int .u8 0, .int .u8 0, .int .u8 0, .int .u8 0, .int .u8 0, .int .u8 0, .int .u8 0, .int .u8 0, .int .u8 0, .int .u8 0, .int .u8 0] 33 (reqL c n s zeros16) (by rw [reqL_length _ _ _ _ rfl]; rfl)
  have hN1 : (w1.alloc (.cells #[.int .i64 0, .int .i64 0, .string ⟨#[]⟩, .int .u8 0, .int .u8 0, .int .u8 0, .int .u8 0, .int .u8 0, .int .u8 0, .int .u8 0, .int .u8 0, .int .u8 0, .int .u8 0, .int .u8 0, .int .u8 0, .int .u8 0, .int .u8 0, .int .u8 0, .int .u8 0] 33)).there w1.heap.size 0 (reqL c n s zeros16).toArray.size := there_new w1 #[.int .i64 0, .int .i64 0, .string ⟨#[]⟩, .int .u8 0, .int .u8 0, .int .u8 0, .int .u8 0, .int .u8 0, .int .u8 0, .int .u8 0, .int .u8 0, .int .u8 0, .int .u8 0, .int .u8 0, .int .u8 0, .int .u8 0, .int .u8 0, .int .u8 0, .int .u8 0] 33
  go_upto_region 2 with (refine wpList_store_mid (op := ⟨none, .store 33 (.tmp 12) (.tmp 18), _, _, _, none⟩) rfl 33 _ _ rfl _ _ (reqL c n s zeros16).toArray rfl rfl hN1 hi0 h1c ?_)
  go_name_world w2 hw2
  rw [show (w1.alloc (.cells #[.int .i64 0, .int .i64 0, .string ⟨#[]⟩, .int .u8 0, .int .u8 0, .int .u8 0, .int .u8 0, .int .u8 0, .int .u8 0, .int .u8 0, .int .u8 0, .int .u8 0, .int .u8 0, .int .u8 0, .int .u8 0, .int .u8 0, .int .u8 0, .int .u8 0, .int .u8 0] 33)).setCells w1.heap.size 0 (reqL c n s zeros16) = w2 from hw2] at F
  clear hw2 hN1 h1c
  obtain ⟨hR2, hF2, hz2, hT2⟩ := F
  have hT2 : w2.there w1.heap.size 0 19 := hT2
  have hB2 := hB0.trans (hF2.mono hB0.size)
  have ht2 := there_below ht0 hF2 hz0
  have hk2 := range_below hk0 hF2 (by omega)
  have hi0' : (Tryd.prog.info? 33).map (·.size) = some (reqL c n s zeros16).length := by rw [reqL_length _ _ _ _ rfl]; exact iszR
  clear hB0 ht0 hF2 hi0 hk0
  try simp only [Act.put]
  generalize Value.agg #[Value.int IntKind.i64 c, Value.int IntKind.i64 n, Value.string s, Value.int IntKind.u8 0, Value.int IntKind.u8 0, Value.int IntKind.u8 0, Value.int IntKind.u8 0, Value.int IntKind.u8 0, Value.int IntKind.u8 0, Value.int IntKind.u8 0, Value.int IntKind.u8 0, Value.int IntKind.u8 0, Value.int IntKind.u8 0, Value.int IntKind.u8 0, Value.int IntKind.u8 0, Value.int IntKind.u8 0, Value.int IntKind.u8 0, Value.int IntKind.u8 0, Value.int IntKind.u8 0] = v18
  obtain ⟨V, hV⟩ : ∃ V, Hid (w.heap.size = V) := ⟨_, hide rfl⟩
  obtain ⟨X, hX⟩ : ∃ X, Hid (w.heap.size + 1 = X) := ⟨_, hide rfl⟩
  obtain ⟨Y, hY⟩ : ∃ Y, Hid (w1.heap.size = Y) := ⟨_, hide rfl⟩
  have hVX : V < X := by rw [← hX.out, ← hV.out]; omega
  have hXY : X < Y := by rw [← hX.out, ← hY.out]; exact hz0
  have hY2 : Y < w2.heap.size := by rw [hz2, hY.out]; omega
  clear hz0 hz2
  rw [hX.out] at ht2 ⊢
  rw [hV.out] at hk2 ⊢
  rw [hY.out] at hR2 hT2 ⊢
  have cm := fun w0 => form_any c n 8 s zeros16 w0
  have hmb : decide (0 ≤ c ∧ c < 8 ∧ 1 ≤ n ∧ n ≤ 1099511627776 ∧ s.size ≤ 64) = true := decide_eq_true hm
  simp only [hmb] at cm
  clear hmb
  obtain ⟨q, hq⟩ : ∃ q, Hid (reqL c n s zeros16 = q) := ⟨_, hide rfl⟩
  rw [hq.out] at hR2 hi0'
  simp only [hq.out] at cm
  simp only [hq.out] at cb
  refine wp_region_list ?_
  refine wpList_load_mid rfl 33 _ rfl _ _ rfl q _ hR2 Tryd.underlying33 rfl hi0' ?_
  go_wp2_with fail
  refine (cm w2).mono ?_
  rintro e w3 ⟨rfl, hw3⟩
  have hB3 := hB2.trans (hw3.mono hB2.size)
  have hR3 := range_below hR2 hw3 hY2
  have ht3 := there_below ht2 hw3 (by omega)
  have hT3 := there_below hT2 hw3 hY2
  have hk3 := range_below hk2 hw3 (by omega)
  have hY3 := Nat.lt_of_lt_of_le hY2 hw3.size
  clear hB2 hR2 ht2 hY2 cm hw3 hT2 hk2
  have hN0 : ¬ N < 0 := by omega
  have hN1 : ¬ 64 < N := by omega
  have hB4 := hB3.drew
  have hR4 : w3.drew.rangeAt Y 0 q := (World.rangeAt_drew _ _ _ _).2 hR3
  have hk4 : w3.drew.rangeAt V 0 [.string seed, .int .i64 M] := (World.rangeAt_drew _ _ _ _).2 hk3
  have ht4 : w3.drew.there X 0 19 := (World.there_drew _ _ _ _).2 ht3
  have hT4 : w3.drew.there Y 0 19 := (World.there_drew _ _ _ _).2 hT3
  have hY4 : Y < w3.drew.heap.size := hY3
  clear hB3 hR3 hk3 ht3 hT3 hY3
  go_wp2_with fail
  obtain ⟨w4, hw4⟩ : ∃ w4, w3.drew = w4 := ⟨_, rfl⟩
  rw [hw4] at hB4 hR4 hk4 ht4 hT4 hY4
  refine hs_begin (S := (fun W : World => W.rangeAt Y 0 q ∧ W.rangeAt V 0 [.string seed, .int .i64 M] ∧ Below w.heap.size w W)) 13 rfl (by kernel_rfl) ?_
  rw [hw4]
  clear hw4
  have hS : (fun W : World => W.rangeAt Y 0 q ∧ W.rangeAt V 0 [.string seed, .int .i64 M] ∧ Below w.heap.size w W) w4 := ⟨hR4, hk4, hB4⟩
  clear hR4 hk4 hB4
  refine hs_take (i := 0) (d := some 31) (v := .agg [Value.string seed, .int .i64 M].toArray) rfl (by kernel_rfl) (by kernel_rfl) (by kernel_rfl) (by rfl) (fun w' hw => exec_load rfl rfl (run_loadVar_mid (P := Tryd.prog) w' V 0 27 _ _ hw.2.1 Tryd.underlying27 rfl iszK)) hS rfl ?_
  simp only [Act.put, List.setIfInBounds_toArray, List.set_cons_zero, List.set_cons_succ]
  refine hs_take (i := 1) (d := some 32) (v := ?_) rfl (by kernel_rfl) (by kernel_rfl) (by kernel_rfl) (by rfl) ?_ hS rfl ?_
  rotate_left
  · intro w' hw
    go_simp
    try with_reducible rfl
  simp only [Act.put, List.setIfInBounds_toArray, List.set_cons_zero, List.set_cons_succ]
  refine hs_take (i := 2) (d := some 33) (v := ?_) rfl (by kernel_rfl) (by kernel_rfl) (by kernel_rfl) (by rfl) ?_ hS rfl ?_
  rotate_left
  · intro w' hw
    go_simp
    try with_reducible rfl
  simp only [Act.put, List.setIfInBounds_toArray, List.set_cons_zero, List.set_cons_succ]
  refine hs_take (i := 3) (d := some 34) (v := .int .i64 (N + c)) rfl (by kernel_rfl) (by kernel_rfl) (by kernel_rfl) (by rfl) (fun w' hw => by go_simp) hS rfl ?_
  simp only [Act.put, List.setIfInBounds_toArray, List.set_cons_zero, List.set_cons_succ]
  refine hs_take (i := 4) (d := some 35) (v := .agg q.toArray) rfl (by kernel_rfl) (by kernel_rfl) (by kernel_rfl) (by rfl) (fun w' hw => exec_load rfl rfl (run_loadVar_mid (P := Tryd.prog) w' Y 0 33 q _ hw.1 Tryd.underlying33 rfl hi0')) hS rfl ?_
  simp only [Act.put, List.setIfInBounds_toArray, List.set_cons_zero, List.set_cons_succ]
  have hTX := ht4
  have hTY := hT4
  have hYl := hY4
  clear ht4 hT4 hY4
  refine hs_fork (i := 5) (j := 10) (by kernel_rfl) ?_ ?_
  · refine st_call (i := 5) (d := some 36) rfl (by rfl) (by go_simp; first | done | exact ⟨rfl, rfl⟩ | with_reducible rfl) rfl ?_
    refine (cb w4).mono ?_
    rintro e' w5 ⟨rfl, hw_w5⟩
    have hS : (fun W : World => W.rangeAt Y 0 q ∧ W.rangeAt V 0 [.string seed, .int .i64 M] ∧ Below w.heap.size w W) w5 := ⟨range_below hS.1 hw_w5 (by omega), range_below hS.2.1 hw_w5 (by omega), hS.2.2.trans (hw_w5.mono hS.2.2.size)⟩
    refine ⟨_, rfl, hS, ?_⟩
    simp only [Act.put, List.setIfInBounds_toArray, List.set_cons_zero, List.set_cons_succ]
    have hTX := there_below hTX hw_w5 (by omega)
    have hTY := there_below hTY hw_w5 hYl
    have hYl := Nat.lt_of_lt_of_le hYl hw_w5.size
    clear hw_w5
    refine hs_fork (i := 6) (j := 10) (by kernel_rfl) ?_ ?_
    · refine st_call (i := 6) (d := some 37) rfl (by rfl) (by go_simp; first | done | exact ⟨rfl, rfl⟩ | with_reducible rfl) rfl ?_
      refine (cs w5).mono ?_
      rintro e' w6 ⟨rfl, hw_w6⟩
      have hS : (fun W : World => W.rangeAt Y 0 q ∧ W.rangeAt V 0 [.string seed, .int .i64 M] ∧ Below w.heap.size w W) w6 := ⟨range_below hS.1 hw_w6 (by omega), range_below hS.2.1 hw_w6 (by omega), hS.2.2.trans (hw_w6.mono hS.2.2.size)⟩
      refine ⟨_, rfl, hS, ?_⟩
      simp only [Act.put, List.setIfInBounds_toArray, List.set_cons_zero, List.set_cons_succ]
      have hTX := there_below hTX hw_w6 (by omega)
      have hTY := there_below hTY hw_w6 hYl
      have hYl := Nat.lt_of_lt_of_le hYl hw_w6.size
      clear hw_w6
      refine hs_take (i := 7) (d := some 30) (v := ?_) rfl (by kernel_rfl) (by kernel_rfl) (by kernel_rfl) (by rfl) ?_ hS rfl ?_
      rotate_left
      · intro w' hw
        go_simp
        try with_reducible rfl
      simp only [Act.put, List.setIfInBounds_toArray, List.set_cons_zero, List.set_cons_succ]
      refine hs_take (i := 8) (d := some 38) (v := ?_) rfl (by kernel_rfl) (by kernel_rfl) (by kernel_rfl) (by rfl) ?_ hS rfl ?_
      rotate_left
      · intro w' hw
        go_simp
        try with_reducible rfl
      simp only [Act.put, List.setIfInBounds_toArray, List.set_cons_zero, List.set_cons_succ]
      refine hs_take (i := 9) (d := some 39) (v := ?_) rfl (by kernel_rfl) (by kernel_rfl) (by kernel_rfl) (by rfl) ?_ hS rfl ?_
      rotate_left
      · intro w' hw
        go_simp
        try with_reducible rfl
      simp only [Act.put, List.setIfInBounds_toArray, List.set_cons_zero, List.set_cons_succ]
      have hF7 : Below w6.heap.size w6 (w6.alloc (.cells (Array.replicate 16 (.int .u8 0)) 31)) := (Below.refl _ _).alloc (Nat.le_refl _) _
      have hTZ : (w6.alloc (.cells (Array.replicate 16 (.int .u8 0)) 31)).there w6.heap.size 0 16 := there_new w6 (Array.replicate 16 (.int .u8 0)) 31
      have hZl : w6.heap.size < (w6.alloc (.cells (Array.replicate 16 (.int .u8 0)) 31)).heap.size := by simp
      obtain ⟨w7, hw7⟩ : ∃ w7, w6.alloc (.cells (Array.replicate 16 (.int .u8 0)) 31) = w7 := ⟨_, rfl⟩
      rw [hw7] at hF7 hTZ hZl
      have hYZ := hYl
      have hS : (fun W : World => W.rangeAt Y 0 q ∧ W.rangeAt V 0 [.string seed, .int .i64 M] ∧ Below w.heap.size w W) w7 := ⟨range_below hS.1 hF7 (by omega), range_below hS.2.1 hF7 (by omega), hS.2.2.trans (hF7.mono hS.2.2.size)⟩
      refine hs_run (i := 10) (d := some 13) (v := .pointer (some ⟨w6.heap.size, 0, none⟩)) (w' := w7) rfl (by kernel_rfl) (by rfl) (by rw [← hw7]; exact exec_alloc_tag w6) rfl hS ?_
      simp only [Act.put, List.setIfInBounds_toArray, List.set_cons_zero, List.set_cons_succ]
      clear hw7
      have hTX := there_below hTX hF7 (by omega)
      have hTY := there_below hTY hF7 hYl
      have hYl := Nat.lt_of_lt_of_le hYl hF7.size
      obtain ⟨Z, hZ⟩ : ∃ Z, Hid (w6.heap.size = Z) := ⟨_, hide rfl⟩
      rw [hZ.out] at hTZ hZl hYZ ⊢
      clear hZ hF7
      have hN7 : w7.there Z 0 r.toArray.size := by
        have e : r.toArray.size = 16 := by have := hrl.out; simpa using this
        rw [e]; exact hTZ
      have hst := run_storeVar_mid (P := Tryd.prog) w7 Z 0 31 r.toArray hN7 hir hor
      have hBl : Below w.heap.size w (w7.setCells Z 0 r) := below_sets (by rw [hV.out]; omega) _ 0 w7 hS.2.2
      have hR8 := World.rangeAt_setCells_apart hS.1 Z 0 r (.inl (by omega))
      have hk8 := World.rangeAt_setCells_apart hS.2.1 Z 0 r (.inl (by omega))
      refine hs_store (i := 11) (w' := (w7.setCells Z 0 r)) rfl (by kernel_rfl) (by rfl) (exec_store rfl rfl rfl hst) rfl ⟨hR8, hk8, hBl⟩ ?_
      have hS : (fun W : World => W.rangeAt Y 0 q ∧ W.rangeAt V 0 [.string seed, .int .i64 M] ∧ Below w.heap.size w W) (w7.setCells Z 0 r) := ⟨hR8, hk8, hBl⟩
      refine hs_take (i := 12) (d := some 14) (v := ?_) rfl (by kernel_rfl) (by kernel_rfl) (by kernel_rfl) (by rfl) ?_ hS rfl ?_
      rotate_left
      · intro w' hw
        go_simp
        try with_reducible rfl
      simp only [Act.put, List.setIfInBounds_toArray, List.set_cons_zero, List.set_cons_succ]
      refine hs_done (by kernel_rfl) ?_
      have hR8t : (w7.setCells Z 0 r).rangeAt Z 0 r := World.rangeAt_setCells_same w7 Z 0 r (by have := hN7; simpa using this)
      have ht8 : (w7.setCells Z 0 r).there X 0 19 := World.there_setCells hTX _ _ _
      have hT8 : (w7.setCells Z 0 r).there Y 0 19 := World.there_setCells hTY _ _ _
      obtain ⟨w8, hw8⟩ : ∃ w8, w7.setCells Z 0 r = w8 := ⟨_, rfl⟩
      rw [hw8] at hR8 hBl hR8t ht8 hT8 ⊢
      clear hS hw8 hst hN7 hTX hTY hTZ hk8 hYl hZl
      have hne0 : (er == 0) = false := by simpa using hne
      have hlit := litReq
      have hi := iszN
      have ho := all_oneCell_toArray (reqL_one 0 0 ⟨#[]⟩ zeros16)
      change (noReq.toArray.all fun x => x.oneCell') = true at ho
      have hzl : noReq.toArray.size = 19 := by rw [List.size_toArray]; exact reqL_length _ _ _ _ rfl
      obtain ⟨zs, hzs⟩ : ∃ zs, Hid (noReq = zs) := ⟨_, hide rfl⟩
      rw [hzs.out] at hlit hi ho hzl
      rw [← hzl] at ht8
      have hi' : (Tryd.prog.info? 33).map (·.size) = some zs.length := by simpa using hi
      have hzl' := hide hzl
      clear hzl
      have hrs := run_loadVar_mid (P := Tryd.prog) (w8.setCells X 0 zs) X 0 33 zs _ (World.rangeAt_setCells_same w8 X 0 zs (by have := ht8; simpa using this)) Tryd.underlying33 rfl hi'
      have hBm : Below w.heap.size w (w8.setCells X 0 zs) := below_sets (by rw [hV.out]; omega) _ 0 w8 hBl
      go_wp2_with (refine wpList_store_mid rfl 33 _ _ rfl _ _ zs.toArray rfl rfl ht8 hi ho ?_)
      exact bodyPost_ret (v := .tuple #[.agg zs.toArray, .int .i64 er]) (by simp [results, Tryd.results11, asAddr, hrs]) rfl ⟨by rw [hzs.out], hBm⟩
    · have hF7 : Below w5.heap.size w5 (w5.alloc (.cells (Array.replicate 16 (.int .u8 0)) 31)) := (Below.refl _ _).alloc (Nat.le_refl _) _
      have hTZ : (w5.alloc (.cells (Array.replicate 16 (.int .u8 0)) 31)).there w5.heap.size 0 16 := there_new w5 (Array.replicate 16 (.int .u8 0)) 31
      have hZl : w5.heap.size < (w5.alloc (.cells (Array.replicate 16 (.int .u8 0)) 31)).heap.size := by simp
      obtain ⟨w6, hw7⟩ : ∃ w6, w5.alloc (.cells (Array.replicate 16 (.int .u8 0)) 31) = w6 := ⟨_, rfl⟩
      rw [hw7] at hF7 hTZ hZl
      have hYZ := hYl
      have hS : (fun W : World => W.rangeAt Y 0 q ∧ W.rangeAt V 0 [.string seed, .int .i64 M] ∧ Below w.heap.size w W) w6 := ⟨range_below hS.1 hF7 (by omega), range_below hS.2.1 hF7 (by omega), hS.2.2.trans (hF7.mono hS.2.2.size)⟩
      refine st_run (i := 10) (d := some 13) (v := .pointer (some ⟨w5.heap.size, 0, none⟩)) (w' := w6) rfl (by rfl) (by rw [← hw7]; exact exec_alloc_tag w5) rfl hS ?_
      simp only [Act.put, List.setIfInBounds_toArray, List.set_cons_zero, List.set_cons_succ]
      clear hw7
      have hTX := there_below hTX hF7 (by omega)
      have hTY := there_below hTY hF7 hYl
      have hYl := Nat.lt_of_lt_of_le hYl hF7.size
      obtain ⟨Z, hZ⟩ : ∃ Z, Hid (w5.heap.size = Z) := ⟨_, hide rfl⟩
      rw [hZ.out] at hTZ hZl hYZ ⊢
      clear hZ hF7
      refine hs_call (i := 6) (d := some 37) rfl (by kernel_rfl) (by rfl) (by go_simp; first | done | exact ⟨rfl, rfl⟩ | with_reducible rfl) rfl ?_
      refine (cs w6).mono ?_
      rintro e' w7 ⟨rfl, hw_w7⟩
      have hS : (fun W : World => W.rangeAt Y 0 q ∧ W.rangeAt V 0 [.string seed, .int .i64 M] ∧ Below w.heap.size w W) w7 := ⟨range_below hS.1 hw_w7 (by omega), range_below hS.2.1 hw_w7 (by omega), hS.2.2.trans (hw_w7.mono hS.2.2.size)⟩
      refine ⟨_, rfl, hS, ?_⟩
      simp only [Act.put, List.setIfInBounds_toArray, List.set_cons_zero, List.set_cons_succ]
      have hTX := there_below hTX hw_w7 (by omega)
      have hTY := there_below hTY hw_w7 hYl
      have hTZ := there_below hTZ hw_w7 hZl
      have hZl := Nat.lt_of_lt_of_le hZl hw_w7.size
      have hYl := Nat.lt_of_lt_of_le hYl hw_w7.size
      clear hw_w7
      refine hs_take (i := 7) (d := some 30) (v := ?_) rfl (by kernel_rfl) (by kernel_rfl) (by kernel_rfl) (by rfl) ?_ hS rfl ?_
      rotate_left
      · intro w' hw
        go_simp
        try with_reducible rfl
      simp only [Act.put, List.setIfInBounds_toArray, List.set_cons_zero, List.set_cons_succ]
      refine hs_take (i := 8) (d := some 38) (v := ?_) rfl (by kernel_rfl) (by kernel_rfl) (by kernel_rfl) (by rfl) ?_ hS rfl ?_
      rotate_left
      · intro w' hw
        go_simp
        try with_reducible rfl
      simp only [Act.put, List.setIfInBounds_toArray, List.set_cons_zero, List.set_cons_succ]
      refine hs_take (i := 9) (d := some 39) (v := ?_) rfl (by kernel_rfl) (by kernel_rfl) (by kernel_rfl) (by rfl) ?_ hS rfl ?_
      rotate_left
      · intro w' hw
        go_simp
        try with_reducible rfl
      simp only [Act.put, List.setIfInBounds_toArray, List.set_cons_zero, List.set_cons_succ]
      have hN7 : w7.there Z 0 r.toArray.size := by
        have e : r.toArray.size = 16 := by have := hrl.out; simpa using this
        rw [e]; exact hTZ
      have hst := run_storeVar_mid (P := Tryd.prog) w7 Z 0 31 r.toArray hN7 hir hor
      have hBl : Below w.heap.size w (w7.setCells Z 0 r) := below_sets (by rw [hV.out]; omega) _ 0 w7 hS.2.2
      have hR8 := World.rangeAt_setCells_apart hS.1 Z 0 r (.inl (by omega))
      have hk8 := World.rangeAt_setCells_apart hS.2.1 Z 0 r (.inl (by omega))
      refine hs_store (i := 11) (w' := (w7.setCells Z 0 r)) rfl (by kernel_rfl) (by rfl) (exec_store rfl rfl rfl hst) rfl ⟨hR8, hk8, hBl⟩ ?_
      have hS : (fun W : World => W.rangeAt Y 0 q ∧ W.rangeAt V 0 [.string seed, .int .i64 M] ∧ Below w.heap.size w W) (w7.setCells Z 0 r) := ⟨hR8, hk8, hBl⟩
      refine hs_take (i := 12) (d := some 14) (v := ?_) rfl (by kernel_rfl) (by kernel_rfl) (by kernel_rfl) (by rfl) ?_ hS rfl ?_
      rotate_left
      · intro w' hw
        go_simp
        try with_reducible rfl
      simp only [Act.put, List.setIfInBounds_toArray, List.set_cons_zero, List.set_cons_succ]
      refine hs_done (by kernel_rfl) ?_
      have hR8t : (w7.setCells Z 0 r).rangeAt Z 0 r := World.rangeAt_setCells_same w7 Z 0 r (by have := hN7; simpa using this)
      have ht8 : (w7.setCells Z 0 r).there X 0 19 := World.there_setCells hTX _ _ _
      have hT8 : (w7.setCells Z 0 r).there Y 0 19 := World.there_setCells hTY _ _ _
      obtain ⟨w8, hw8⟩ : ∃ w8, w7.setCells Z 0 r = w8 := ⟨_, rfl⟩
      rw [hw8] at hR8 hBl hR8t ht8 hT8 ⊢
      clear hS hw8 hst hN7 hTX hTY hTZ hk8 hYl hZl
      have hne0 : (er == 0) = false := by simpa using hne
      have hlit := litReq
      have hi := iszN
      have ho := all_oneCell_toArray (reqL_one 0 0 ⟨#[]⟩ zeros16)
      change (noReq.toArray.all fun x => x.oneCell') = true at ho
      have hzl : noReq.toArray.size = 19 := by rw [List.size_toArray]; exact reqL_length _ _ _ _ rfl
      obtain ⟨zs, hzs⟩ : ∃ zs, Hid (noReq = zs) := ⟨_, hide rfl⟩
      rw [hzs.out] at hlit hi ho hzl
      rw [← hzl] at ht8
      have hi' : (Tryd.prog.info? 33).map (·.size) = some zs.length := by simpa using hi
      have hzl' := hide hzl
      clear hzl
      have hrs := run_loadVar_mid (P := Tryd.prog) (w8.setCells X 0 zs) X 0 33 zs _ (World.rangeAt_setCells_same w8 X 0 zs (by have := ht8; simpa using this)) Tryd.underlying33 rfl hi'
      have hBm : Below w.heap.size w (w8.setCells X 0 zs) := below_sets (by rw [hV.out]; omega) _ 0 w8 hBl
      go_wp2_with (refine wpList_store_mid rfl 33 _ _ rfl _ _ zs.toArray rfl rfl ht8 hi ho ?_)
      exact bodyPost_ret (v := .tuple #[.agg zs.toArray, .int .i64 er]) (by simp [results, Tryd.results11, asAddr, hrs]) rfl ⟨by rw [hzs.out], hBm⟩
  · have hF7 : Below w4.heap.size w4 (w4.alloc (.cells (Array.replicate 16 (.int .u8 0)) 31)) := (Below.refl _ _).alloc (Nat.le_refl _) _
    have hTZ : (w4.alloc (.cells (Array.replicate 16 (.int .u8 0)) 31)).there w4.heap.size 0 16 := there_new w4 (Array.replicate 16 (.int .u8 0)) 31
    have hZl : w4.heap.size < (w4.alloc (.cells (Array.replicate 16 (.int .u8 0)) 31)).heap.size := by simp
    obtain ⟨w5, hw7⟩ : ∃ w5, w4.alloc (.cells (Array.replicate 16 (.int .u8 0)) 31) = w5 := ⟨_, rfl⟩
    rw [hw7] at hF7 hTZ hZl
    have hYZ := hYl
    have hS : (fun W : World => W.rangeAt Y 0 q ∧ W.rangeAt V 0 [.string seed, .int .i64 M] ∧ Below w.heap.size w W) w5 := ⟨range_below hS.1 hF7 (by omega), range_below hS.2.1 hF7 (by omega), hS.2.2.trans (hF7.mono hS.2.2.size)⟩
    refine st_run (i := 10) (d := some 13) (v := .pointer (some ⟨w4.heap.size, 0, none⟩)) (w' := w5) rfl (by rfl) (by rw [← hw7]; exact exec_alloc_tag w4) rfl hS ?_
    simp only [Act.put, List.setIfInBounds_toArray, List.set_cons_zero, List.set_cons_succ]
    clear hw7
    have hTX := there_below hTX hF7 (by omega)
    have hTY := there_below hTY hF7 hYl
    have hYl := Nat.lt_of_lt_of_le hYl hF7.size
    obtain ⟨Z, hZ⟩ : ∃ Z, Hid (w4.heap.size = Z) := ⟨_, hide rfl⟩
    rw [hZ.out] at hTZ hZl hYZ ⊢
    clear hZ hF7
    refine hs_call (i := 5) (d := some 36) rfl (by kernel_rfl) (by rfl) (by go_simp; first | done | exact ⟨rfl, rfl⟩ | with_reducible rfl) rfl ?_
    refine (cb w5).mono ?_
    rintro e' w6 ⟨rfl, hw_w6⟩
    have hS : (fun W : World => W.rangeAt Y 0 q ∧ W.rangeAt V 0 [.string seed, .int .i64 M] ∧ Below w.heap.size w W) w6 := ⟨range_below hS.1 hw_w6 (by omega), range_below hS.2.1 hw_w6 (by omega), hS.2.2.trans (hw_w6.mono hS.2.2.size)⟩
    refine ⟨_, rfl, hS, ?_⟩
    simp only [Act.put, List.setIfInBounds_toArray, List.set_cons_zero, List.set_cons_succ]
    have hTX := there_below hTX hw_w6 (by omega)
    have hTY := there_below hTY hw_w6 hYl
    have hTZ := there_below hTZ hw_w6 hZl
    have hZl := Nat.lt_of_lt_of_le hZl hw_w6.size
    have hYl := Nat.lt_of_lt_of_le hYl hw_w6.size
    clear hw_w6
    refine hs_call (i := 6) (d := some 37) rfl (by kernel_rfl) (by rfl) (by go_simp; first | done | exact ⟨rfl, rfl⟩ | with_reducible rfl) rfl ?_
    refine (cs w6).mono ?_
    rintro e' w7 ⟨rfl, hw_w7⟩
    have hS : (fun W : World => W.rangeAt Y 0 q ∧ W.rangeAt V 0 [.string seed, .int .i64 M] ∧ Below w.heap.size w W) w7 := ⟨range_below hS.1 hw_w7 (by omega), range_below hS.2.1 hw_w7 (by omega), hS.2.2.trans (hw_w7.mono hS.2.2.size)⟩
    refine ⟨_, rfl, hS, ?_⟩
    simp only [Act.put, List.setIfInBounds_toArray, List.set_cons_zero, List.set_cons_succ]
    have hTX := there_below hTX hw_w7 (by omega)
    have hTY := there_below hTY hw_w7 hYl
    have hTZ := there_below hTZ hw_w7 hZl
    have hZl := Nat.lt_of_lt_of_le hZl hw_w7.size
    have hYl := Nat.lt_of_lt_of_le hYl hw_w7.size
    clear hw_w7
    refine hs_take (i := 7) (d := some 30) (v := ?_) rfl (by kernel_rfl) (by kernel_rfl) (by kernel_rfl) (by rfl) ?_ hS rfl ?_
    rotate_left
    · intro w' hw
      go_simp
      try with_reducible rfl
    simp only [Act.put, List.setIfInBounds_toArray, List.set_cons_zero, List.set_cons_succ]
    refine hs_take (i := 8) (d := some 38) (v := ?_) rfl (by kernel_rfl) (by kernel_rfl) (by kernel_rfl) (by rfl) ?_ hS rfl ?_
    rotate_left
    · intro w' hw
      go_simp
      try with_reducible rfl
    simp only [Act.put, List.setIfInBounds_toArray, List.set_cons_zero, List.set_cons_succ]
    refine hs_take (i := 9) (d := some 39) (v := ?_) rfl (by kernel_rfl) (by kernel_rfl) (by kernel_rfl) (by rfl) ?_ hS rfl ?_
    rotate_left
    · intro w' hw
      go_simp
      try with_reducible rfl
    simp only [Act.put, List.setIfInBounds_toArray, List.set_cons_zero, List.set_cons_succ]
    have hN7 : w7.there Z 0 r.toArray.size := by
      have e : r.toArray.size = 16 := by have := hrl.out; simpa using this
      rw [e]; exact hTZ
    have hst := run_storeVar_mid (P := Tryd.prog) w7 Z 0 31 r.toArray hN7 hir hor
    have hBl : Below w.heap.size w (w7.setCells Z 0 r) := below_sets (by rw [hV.out]; omega) _ 0 w7 hS.2.2
    have hR8 := World.rangeAt_setCells_apart hS.1 Z 0 r (.inl (by omega))
    have hk8 := World.rangeAt_setCells_apart hS.2.1 Z 0 r (.inl (by omega))
    refine hs_store (i := 11) (w' := (w7.setCells Z 0 r)) rfl (by kernel_rfl) (by rfl) (exec_store rfl rfl rfl hst) rfl ⟨hR8, hk8, hBl⟩ ?_
    have hS : (fun W : World => W.rangeAt Y 0 q ∧ W.rangeAt V 0 [.string seed, .int .i64 M] ∧ Below w.heap.size w W) (w7.setCells Z 0 r) := ⟨hR8, hk8, hBl⟩
    refine hs_take (i := 12) (d := some 14) (v := ?_) rfl (by kernel_rfl) (by kernel_rfl) (by kernel_rfl) (by rfl) ?_ hS rfl ?_
    rotate_left
    · intro w' hw
      go_simp
      try with_reducible rfl
    simp only [Act.put, List.setIfInBounds_toArray, List.set_cons_zero, List.set_cons_succ]
    refine hs_done (by kernel_rfl) ?_
    have hR8t : (w7.setCells Z 0 r).rangeAt Z 0 r := World.rangeAt_setCells_same w7 Z 0 r (by have := hN7; simpa using this)
    have ht8 : (w7.setCells Z 0 r).there X 0 19 := World.there_setCells hTX _ _ _
    have hT8 : (w7.setCells Z 0 r).there Y 0 19 := World.there_setCells hTY _ _ _
    obtain ⟨w8, hw8⟩ : ∃ w8, w7.setCells Z 0 r = w8 := ⟨_, rfl⟩
    rw [hw8] at hR8 hBl hR8t ht8 hT8 ⊢
    clear hS hw8 hst hN7 hTX hTY hTZ hk8 hYl hZl
    have hne0 : (er == 0) = false := by simpa using hne
    have hlit := litReq
    have hi := iszN
    have ho := all_oneCell_toArray (reqL_one 0 0 ⟨#[]⟩ zeros16)
    change (noReq.toArray.all fun x => x.oneCell') = true at ho
    have hzl : noReq.toArray.size = 19 := by rw [List.size_toArray]; exact reqL_length _ _ _ _ rfl
    obtain ⟨zs, hzs⟩ : ∃ zs, Hid (noReq = zs) := ⟨_, hide rfl⟩
    rw [hzs.out] at hlit hi ho hzl
    rw [← hzl] at ht8
    have hi' : (Tryd.prog.info? 33).map (·.size) = some zs.length := by simpa using hi
    have hzl' := hide hzl
    clear hzl
    have hrs := run_loadVar_mid (P := Tryd.prog) (w8.setCells X 0 zs) X 0 33 zs _ (World.rangeAt_setCells_same w8 X 0 zs (by have := ht8; simpa using this)) Tryd.underlying33 rfl hi'
    have hBm : Below w.heap.size w (w8.setCells X 0 zs) := below_sets (by rw [hV.out]; omega) _ 0 w8 hBl
    go_wp2_with (refine wpList_store_mid rfl 33 _ _ rfl _ _ zs.toArray rfl rfl ht8 hi ho ?_)
    exact bodyPost_ret (v := .tuple #[.agg zs.toArray, .int .i64 er]) (by simp [results, Tryd.results11, asAddr, hrs]) rfl ⟨by rw [hzs.out], hBm⟩
set_option maxRecDepth 100000 in
set_option maxHeartbeats 2000000 in
theorem refMake_yes (seed : ByteArray) (M N c n : Int) (s : ByteArray) (w : World) (hm : 0 ≤ c ∧ c < 8 ∧ 1 ≤ n ∧ n ≤ 1099511627776 ∧ s.size ≤ 64) (hN : 0 ≤ N ∧ N ≤ 64) (hsd : seed.size ≤ 100000) (hM : M ≤ 100000) (hne : (refSignOf seed M (N + c) (strOf (bodyL c n s))).2 = 0) :
   Calls Tryd.prog 11 #[.agg #[.string seed, .int .i64 M], .int .i64 N, .int .i64 c, .int .i64 n, .string s] w fun e w' => e = .returned (.tuple #[.agg (reqL c n s (refSignOf seed M (N + c) (strOf (bodyL c n s))).1).toArray, .int .i64 0]) ∧ Below w.heap.size w w' := by
  have hw65 : IntKind.i64.wrap (N + c) = N + c := by rw [IntKind.wrap_i64]; omega
  have cb := fun w0 => refBody_any c n s zeros16 w0 (by omega) (by omega) (by omega)
  obtain ⟨bd, hbd⟩ : ∃ bd, Hid (strOf (bodyL c n s) = bd) := ⟨_, hide rfl⟩
  have hbs : bd.size ≤ 100000 := by rw [← hbd.out, strOf_size]; exact body_small c n s (by omega) (by omega) (by omega)
  simp only [hbd.out] at cb
  have cs := fun w0 => refSign_any seed M (N + c) bd w0 hsd hM hbs
  rw [hbd.out] at hne
  rw [hbd.out]
  have hrl0 := refSignOf_length seed M (N + c) bd
  obtain ⟨er, her⟩ : ∃ er, Hid ((refSignOf seed M (N + c) bd).2 = er) := ⟨_, hide rfl⟩
  obtain ⟨r0, hr0⟩ : ∃ r0, Hid ((refSignOf seed M (N + c) bd).1 = r0) := ⟨_, hide rfl⟩
  simp only [her.out, hr0.out] at cs
  rw [hr0.out] at hrl0
  rw [her.out] at hne
  rw [hr0.out]
  subst hne
  have hir := info16 r0 hrl0
  have hor := all_oneCell_toArray (v8_one r0)
  have hir' : (Tryd.prog.info? 31).map (·.size) = some (v8 r0).length := by rw [v8_length, hrl0]; exact iszT
  have hput := fun (w0 : World) (b0 : Nat) h1 h2 => @reqL_put w0 b0 c n s zeros16 r0 h1 hrl0 h2
  have hiR : (Tryd.prog.info? 33).map (·.size) = some (reqL c n s r0).toArray.size := by rw [List.size_toArray, reqL_length c n s r0 hrl0]; exact iszR
  have hoR := all_oneCell_toArray (reqL_one c n s r0)
  have hRl : (reqL c n s r0).toArray.size = 19 := by rw [List.size_toArray, reqL_length c n s r0 hrl0]
  have hrl : Hid ((v8 r0).length = 16) := by show _ = _; rw [v8_length, hrl0]
  obtain ⟨r, hr⟩ : ∃ r, Hid (v8 r0 = r) := ⟨_, hide rfl⟩
  obtain ⟨Q, hQ⟩ : ∃ Q, Hid (reqL c n s r0 = Q) := ⟨_, hide rfl⟩
  simp only [hr.out] at cs
  rw [hr.out] at hir hor hir' hrl
  rw [hQ.out] at hiR hoR hRl
  simp only [hr.out, hQ.out] at hput
  have hRl' := hide hRl
  have hiR' : (Tryd.prog.info? 33).map (·.size) = some Q.length := by simpa using hiR
  clear hrl0 hRl hbs
  rw [hQ.out]
  have hi0 : (Tryd.prog.info? 33).map (·.size) = some (reqL c n s zeros16).toArray.size := by rw [List.size_toArray, reqL_length _ _ _ _ rfl]; exact iszR
  have h1c := all_oneCell_toArray (reqL_one c n s zeros16)
  have hBk : Below w.heap.size w (w.alloc (.cells #[.string seed, .int .i64 M] 27)) := (Below.refl _ _).alloc (Nat.le_refl _) _
  have hB0 : Below w.heap.size w ((w.alloc (.cells #[.string seed, .int .i64 M] 27)).alloc (.cells #[.int .i64 0, .int .i64 0, .string ⟨#[]⟩, .int .u8 0, .int .u8 0, .int .u8 0, .int .u8 0, .int .u8 0, .int .u8 0, .int .u8 0, .int .u8 0, .int .u8 0, .int .u8 0, .int .u8 0, .int .u8 0, .int .u8 0, .int .u8 0, .int .u8 0, .int .u8 0] 33)) := hBk.alloc hBk.size _
  have hk0 : ((w.alloc (.cells #[.string seed, .int .i64 M] 27)).alloc (.cells #[.int .i64 0, .int .i64 0, .string ⟨#[]⟩, .int .u8 0, .int .u8 0, .int .u8 0, .int .u8 0, .int .u8 0, .int .u8 0, .int .u8 0, .int .u8 0, .int .u8 0, .int .u8 0, .int .u8 0, .int .u8 0, .int .u8 0, .int .u8 0, .int .u8 0, .int .u8 0] 33)).rangeAt w.heap.size 0 [.string seed, .int .i64 M] := World.rangeAt_alloc (range_new w #[.string seed, .int .i64 M] 27) _
  have ht0 : ((w.alloc (.cells #[.string seed, .int .i64 M] 27)).alloc (.cells #[.int .i64 0, .int .i64 0, .string ⟨#[]⟩, .int .u8 0, .int .u8 0, .int .u8 0, .int .u8 0, .int .u8 0, .int .u8 0, .int .u8 0, .int .u8 0, .int .u8 0, .int .u8 0, .int .u8 0, .int .u8 0, .int .u8 0, .int .u8 0, .int .u8 0, .int .u8 0] 33)).there (w.heap.size + 1) 0 19 := by have := there_new (w.alloc (.cells #[.string seed, .int .i64 M] 27)) #[.int .i64 0, .int .i64 0, .string ⟨#[]⟩, .int .u8 0, .int .u8 0, .int .u8 0, .int .u8 0, .int .u8 0, .int .u8 0, .int .u8 0, .int .u8 0, .int .u8 0, .int .u8 0, .int .u8 0, .int .u8 0, .int .u8 0, .int .u8 0, .int .u8 0, .int .u8 0] 33; rw [World.size_alloc] at this; exact this
  have hz0 : w.heap.size + 1 < ((w.alloc (.cells #[.string seed, .int .i64 M] 27)).alloc (.cells #[.int .i64 0, .int .i64 0, .string ⟨#[]⟩, .int .u8 0, .int .u8 0, .int .u8 0, .int .u8 0, .int .u8 0, .int .u8 0, .int .u8 0, .int .u8 0, .int .u8 0, .int .u8 0, .int .u8 0, .int .u8 0, .int .u8 0, .int .u8 0, .int .u8 0, .int .u8 0] 33)).heap.size := by simp
  go_enter Tryd.func11, Tryd.ntmps11
  go_upto_region 1 with fail
  go_name_world w1 hw1
  rw [show ((w.alloc (.cells #[.string seed, .int .i64 M] 27)).alloc (.cells #[.int .i64 0, .int .i64 0, .string ⟨#[]⟩, .int .u8 0, .int .u8 0, .int .u8 0, .int .u8 0, .int .u8 0, .int .u8 0, .int .u8 0, .int .u8 0, .int .u8 0, .int .u8 0, .int .u8 0, .int .u8 0, .int .u8 0, .int .u8 0, .int .u8 0, .int .u8 0] 33)) = w1 from hw1] at ht0 hB0 hz0 hk0
  clear hw1 hBk
  have F := fresh_store w1 #[.int .i64 0, .int .i64 0, .string ⟨#[]⟩, .int .u8 0, .int .u8 0, .int .u8 0, .int .u8 0, .int .u8 0, .int .u8 0, .int .u8 0, .int .u8 0, .int .u8 0, .int .u8 0, .int .u8 0, .int .u8 0, .int .u8 0, .int .u8 0, .int .u8 0, .int .u8 0] 33 (reqL c n s zeros16) (by rw [reqL_length _ _ _ _ rfl]; rfl)
  have hN1 : (w1.alloc (.cells #[.int .i64 0, .int .i64 0, .string ⟨#[]⟩, .int .u8 0, .int .u8 0, .int .u8 0, .int .u8 0, .int .u8 0, .int .u8 0, .int .u8 0, .int .u8 0, .int .u8 0, .int .u8 0, .int .u8 0, .int .u8 0, .int .u8 0, .int .u8 0, .int .u8 0, .int .u8 0] 33)).there w1.heap.size 0 (reqL c n s zeros16).toArray.size := there_new w1 #[.int .i64 0, .int .i64 0, .string ⟨#[]⟩, .int .u8 0, .int .u8 0, .int .u8 0, .int .u8 0, .int .u8 0, .int .u8 0, .int .u8 0, .int .u8 0, .int .u8 0, .int .u8 0, .int .u8 0, .int .u8 0, .int .u8 0, .int .u8 0, .int .u8 0, .int .u8 0] 33
  go_upto_region 2 with (refine wpList_store_mid (op := ⟨none, .store 33 (.tmp 12) (.tmp 18), _, _, _, none⟩) rfl 33 _ _ rfl _ _ (reqL c n s zeros16).toArray rfl rfl hN1 hi0 h1c ?_)
  go_name_world w2 hw2
  rw [show (w1.alloc (.cells #[.int .i64 0, .int .i64 0, .string ⟨#[]⟩, .int .u8 0, .int .u8 0, .int .u8 0, .int .u8 0, .int .u8 0, .int .u8 0, .int .u8 0, .int .u8 0, .int .u8 0, .int .u8 0, .int .u8 0, .int .u8 0, .int .u8 0, .int .u8 0, .int .u8 0, .int .u8 0] 33)).setCells w1.heap.size 0 (reqL c n s zeros16) = w2 from hw2] at F
  clear hw2 hN1 h1c
  obtain ⟨hR2, hF2, hz2, hT2⟩ := F
  have hT2 : w2.there w1.heap.size 0 19 := hT2
  have hB2 := hB0.trans (hF2.mono hB0.size)
  have ht2 := there_below ht0 hF2 hz0
  have hk2 := range_below hk0 hF2 (by omega)
  have hi0' : (Tryd.prog.info? 33).map (·.size) = some (reqL c n s zeros16).length := by rw [reqL_length _ _ _ _ rfl]; exact iszR
  clear hB0 ht0 hF2 hi0 hk0
  try simp only [Act.put]
  generalize Value.agg #[Value.int IntKind.i64 c, Value.int IntKind.i64 n, Value.string s, Value.int IntKind.u8 0, Value.int IntKind.u8 0, Value.int IntKind.u8 0, Value.int IntKind.u8 0, Value.int IntKind.u8 0, Value.int IntKind.u8 0, Value.int IntKind.u8 0, Value.int IntKind.u8 0, Value.int IntKind.u8 0, Value.int IntKind.u8 0, Value.int IntKind.u8 0, Value.int IntKind.u8 0, Value.int IntKind.u8 0, Value.int IntKind.u8 0, Value.int IntKind.u8 0, Value.int IntKind.u8 0] = v18
  obtain ⟨V, hV⟩ : ∃ V, Hid (w.heap.size = V) := ⟨_, hide rfl⟩
  obtain ⟨X, hX⟩ : ∃ X, Hid (w.heap.size + 1 = X) := ⟨_, hide rfl⟩
  obtain ⟨Y, hY⟩ : ∃ Y, Hid (w1.heap.size = Y) := ⟨_, hide rfl⟩
  have hVX : V < X := by rw [← hX.out, ← hV.out]; omega
  have hXY : X < Y := by rw [← hX.out, ← hY.out]; exact hz0
  have hY2 : Y < w2.heap.size := by rw [hz2, hY.out]; omega
  clear hz0 hz2
  rw [hX.out] at ht2 ⊢
  rw [hV.out] at hk2 ⊢
  rw [hY.out] at hR2 hT2 ⊢
  have cm := fun w0 => form_any c n 8 s zeros16 w0
  have hmb : decide (0 ≤ c ∧ c < 8 ∧ 1 ≤ n ∧ n ≤ 1099511627776 ∧ s.size ≤ 64) = true := decide_eq_true hm
  simp only [hmb] at cm
  clear hmb
  obtain ⟨q, hq⟩ : ∃ q, Hid (reqL c n s zeros16 = q) := ⟨_, hide rfl⟩
  rw [hq.out] at hR2 hi0'
  simp only [hq.out] at cm
  simp only [hq.out] at cb hput
  refine wp_region_list ?_
  refine wpList_load_mid rfl 33 _ rfl _ _ rfl q _ hR2 Tryd.underlying33 rfl hi0' ?_
  go_wp2_with fail
  refine (cm w2).mono ?_
  rintro e w3 ⟨rfl, hw3⟩
  have hB3 := hB2.trans (hw3.mono hB2.size)
  have hR3 := range_below hR2 hw3 hY2
  have ht3 := there_below ht2 hw3 (by omega)
  have hT3 := there_below hT2 hw3 hY2
  have hk3 := range_below hk2 hw3 (by omega)
  have hY3 := Nat.lt_of_lt_of_le hY2 hw3.size
  clear hB2 hR2 ht2 hY2 cm hw3 hT2 hk2
  have hN0 : ¬ N < 0 := by omega
  have hN1 : ¬ 64 < N := by omega
  have hB4 := hB3.drew
  have hR4 : w3.drew.rangeAt Y 0 q := (World.rangeAt_drew _ _ _ _).2 hR3
  have hk4 : w3.drew.rangeAt V 0 [.string seed, .int .i64 M] := (World.rangeAt_drew _ _ _ _).2 hk3
  have ht4 : w3.drew.there X 0 19 := (World.there_drew _ _ _ _).2 ht3
  have hT4 : w3.drew.there Y 0 19 := (World.there_drew _ _ _ _).2 hT3
  have hY4 : Y < w3.drew.heap.size := hY3
  clear hB3 hR3 hk3 ht3 hT3 hY3
  go_wp2_with fail
  obtain ⟨w4, hw4⟩ : ∃ w4, w3.drew = w4 := ⟨_, rfl⟩
  rw [hw4] at hB4 hR4 hk4 ht4 hT4 hY4
  refine hs_begin (S := (fun W : World => W.rangeAt Y 0 q ∧ W.rangeAt V 0 [.string seed, .int .i64 M] ∧ Below w.heap.size w W)) 13 rfl (by kernel_rfl) ?_
  rw [hw4]
  clear hw4
  have hS : (fun W : World => W.rangeAt Y 0 q ∧ W.rangeAt V 0 [.string seed, .int .i64 M] ∧ Below w.heap.size w W) w4 := ⟨hR4, hk4, hB4⟩
  clear hR4 hk4 hB4
  refine hs_take (i := 0) (d := some 31) (v := .agg [Value.string seed, .int .i64 M].toArray) rfl (by kernel_rfl) (by kernel_rfl) (by kernel_rfl) (by rfl) (fun w' hw => exec_load rfl rfl (run_loadVar_mid (P := Tryd.prog) w' V 0 27 _ _ hw.2.1 Tryd.underlying27 rfl iszK)) hS rfl ?_
  simp only [Act.put, List.setIfInBounds_toArray, List.set_cons_zero, List.set_cons_succ]
  refine hs_take (i := 1) (d := some 32) (v := ?_) rfl (by kernel_rfl) (by kernel_rfl) (by kernel_rfl) (by rfl) ?_ hS rfl ?_
  rotate_left
  · intro w' hw
    go_simp
    try with_reducible rfl
  simp only [Act.put, List.setIfInBounds_toArray, List.set_cons_zero, List.set_cons_succ]
  refine hs_take (i := 2) (d := some 33) (v := ?_) rfl (by kernel_rfl) (by kernel_rfl) (by kernel_rfl) (by rfl) ?_ hS rfl ?_
  rotate_left
  · intro w' hw
    go_simp
    try with_reducible rfl
  simp only [Act.put, List.setIfInBounds_toArray, List.set_cons_zero, List.set_cons_succ]
  refine hs_take (i := 3) (d := some 34) (v := .int .i64 (N + c)) rfl (by kernel_rfl) (by kernel_rfl) (by kernel_rfl) (by rfl) (fun w' hw => by go_simp) hS rfl ?_
  simp only [Act.put, List.setIfInBounds_toArray, List.set_cons_zero, List.set_cons_succ]
  refine hs_take (i := 4) (d := some 35) (v := .agg q.toArray) rfl (by kernel_rfl) (by kernel_rfl) (by kernel_rfl) (by rfl) (fun w' hw => exec_load rfl rfl (run_loadVar_mid (P := Tryd.prog) w' Y 0 33 q _ hw.1 Tryd.underlying33 rfl hi0')) hS rfl ?_
  simp only [Act.put, List.setIfInBounds_toArray, List.set_cons_zero, List.set_cons_succ]
  have hTX := ht4
  have hTY := hT4
  have hYl := hY4
  clear ht4 hT4 hY4
  refine hs_fork (i := 5) (j := 10) (by kernel_rfl) ?_ ?_
  · refine st_call (i := 5) (d := some 36) rfl (by rfl) (by go_simp; first | done | exact ⟨rfl, rfl⟩ | with_reducible rfl) rfl ?_
    refine (cb w4).mono ?_
    rintro e' w5 ⟨rfl, hw_w5⟩
    have hS : (fun W : World => W.rangeAt Y 0 q ∧ W.rangeAt V 0 [.string seed, .int .i64 M] ∧ Below w.heap.size w W) w5 := ⟨range_below hS.1 hw_w5 (by omega), range_below hS.2.1 hw_w5 (by omega), hS.2.2.trans (hw_w5.mono hS.2.2.size)⟩
    refine ⟨_, rfl, hS, ?_⟩
    simp only [Act.put, List.setIfInBounds_toArray, List.set_cons_zero, List.set_cons_succ]
    have hTX := there_below hTX hw_w5 (by omega)
    have hTY := there_below hTY hw_w5 hYl
    have hYl := Nat.lt_of_lt_of_le hYl hw_w5.size
    clear hw_w5
    refine hs_fork (i := 6) (j := 10) (by kernel_rfl) ?_ ?_
    · refine st_call (i := 6) (d := some 37) rfl (by rfl) (by go_simp; first | done | exact ⟨rfl, rfl⟩ | with_reducible rfl) rfl ?_
      refine (cs w5).mono ?_
      rintro e' w6 ⟨rfl, hw_w6⟩
      have hS : (fun W : World => W.rangeAt Y 0 q ∧ W.rangeAt V 0 [.string seed, .int .i64 M] ∧ Below w.heap.size w W) w6 := ⟨range_below hS.1 hw_w6 (by omega), range_below hS.2.1 hw_w6 (by omega), hS.2.2.trans (hw_w6.mono hS.2.2.size)⟩
      refine ⟨_, rfl, hS, ?_⟩
      simp only [Act.put, List.setIfInBounds_toArray, List.set_cons_zero, List.set_cons_succ]
      have hTX := there_below hTX hw_w6 (by omega)
      have hTY := there_below hTY hw_w6 hYl
      have hYl := Nat.lt_of_lt_of_le hYl hw_w6.size
      clear hw_w6
      refine hs_take (i := 7) (d := some 30) (v := ?_) rfl (by kernel_rfl) (by kernel_rfl) (by kernel_rfl) (by rfl) ?_ hS rfl ?_
      rotate_left
      · intro w' hw
        go_simp
        try with_reducible rfl
      simp only [Act.put, List.setIfInBounds_toArray, List.set_cons_zero, List.set_cons_succ]
      refine hs_take (i := 8) (d := some 38) (v := ?_) rfl (by kernel_rfl) (by kernel_rfl) (by kernel_rfl) (by rfl) ?_ hS rfl ?_
      rotate_left
      · intro w' hw
        go_simp
        try with_reducible rfl
      simp only [Act.put, List.setIfInBounds_toArray, List.set_cons_zero, List.set_cons_succ]
      refine hs_take (i := 9) (d := some 39) (v := ?_) rfl (by kernel_rfl) (by kernel_rfl) (by kernel_rfl) (by rfl) ?_ hS rfl ?_
      rotate_left
      · intro w' hw
        go_simp
        try with_reducible rfl
      simp only [Act.put, List.setIfInBounds_toArray, List.set_cons_zero, List.set_cons_succ]
      have hF7 : Below w6.heap.size w6 (w6.alloc (.cells (Array.replicate 16 (.int .u8 0)) 31)) := (Below.refl _ _).alloc (Nat.le_refl _) _
      have hTZ : (w6.alloc (.cells (Array.replicate 16 (.int .u8 0)) 31)).there w6.heap.size 0 16 := there_new w6 (Array.replicate 16 (.int .u8 0)) 31
      have hZl : w6.heap.size < (w6.alloc (.cells (Array.replicate 16 (.int .u8 0)) 31)).heap.size := by simp
      obtain ⟨w7, hw7⟩ : ∃ w7, w6.alloc (.cells (Array.replicate 16 (.int .u8 0)) 31) = w7 := ⟨_, rfl⟩
      rw [hw7] at hF7 hTZ hZl
      have hYZ := hYl
      have hS : (fun W : World => W.rangeAt Y 0 q ∧ W.rangeAt V 0 [.string seed, .int .i64 M] ∧ Below w.heap.size w W) w7 := ⟨range_below hS.1 hF7 (by omega), range_below hS.2.1 hF7 (by omega), hS.2.2.trans (hF7.mono hS.2.2.size)⟩
      refine hs_run (i := 10) (d := some 13) (v := .pointer (some ⟨w6.heap.size, 0, none⟩)) (w' := w7) rfl (by kernel_rfl) (by rfl) (by rw [← hw7]; exact exec_alloc_tag w6) rfl hS ?_
      simp only [Act.put, List.setIfInBounds_toArray, List.set_cons_zero, List.set_cons_succ]
      clear hw7
      have hTX := there_below hTX hF7 (by omega)
      have hTY := there_below hTY hF7 hYl
      have hYl := Nat.lt_of_lt_of_le hYl hF7.size
      obtain ⟨Z, hZ⟩ : ∃ Z, Hid (w6.heap.size = Z) := ⟨_, hide rfl⟩
      rw [hZ.out] at hTZ hZl hYZ ⊢
      clear hZ hF7
      have hN7 : w7.there Z 0 r.toArray.size := by
        have e : r.toArray.size = 16 := by have := hrl.out; simpa using this
        rw [e]; exact hTZ
      have hst := run_storeVar_mid (P := Tryd.prog) w7 Z 0 31 r.toArray hN7 hir hor
      have hBl : Below w.heap.size w (w7.setCells Z 0 r) := below_sets (by rw [hV.out]; omega) _ 0 w7 hS.2.2
      have hR8 := World.rangeAt_setCells_apart hS.1 Z 0 r (.inl (by omega))
      have hk8 := World.rangeAt_setCells_apart hS.2.1 Z 0 r (.inl (by omega))
      refine hs_store (i := 11) (w' := (w7.setCells Z 0 r)) rfl (by kernel_rfl) (by rfl) (exec_store rfl rfl rfl hst) rfl ⟨hR8, hk8, hBl⟩ ?_
      have hS : (fun W : World => W.rangeAt Y 0 q ∧ W.rangeAt V 0 [.string seed, .int .i64 M] ∧ Below w.heap.size w W) (w7.setCells Z 0 r) := ⟨hR8, hk8, hBl⟩
      refine hs_take (i := 12) (d := some 14) (v := ?_) rfl (by kernel_rfl) (by kernel_rfl) (by kernel_rfl) (by rfl) ?_ hS rfl ?_
      rotate_left
      · intro w' hw
        go_simp
        try with_reducible rfl
      simp only [Act.put, List.setIfInBounds_toArray, List.set_cons_zero, List.set_cons_succ]
      refine hs_done (by kernel_rfl) ?_
      have hR8t : (w7.setCells Z 0 r).rangeAt Z 0 r := World.rangeAt_setCells_same w7 Z 0 r (by have := hN7; simpa using this)
      have ht8 : (w7.setCells Z 0 r).there X 0 19 := World.there_setCells hTX _ _ _
      have hT8 : (w7.setCells Z 0 r).there Y 0 19 := World.there_setCells hTY _ _ _
      obtain ⟨w8, hw8⟩ : ∃ w8, w7.setCells Z 0 r = w8 := ⟨_, rfl⟩
      rw [hw8] at hR8 hBl hR8t ht8 hT8 ⊢
      clear hS hw8 hst hN7 hTX hTY hTZ hk8 hYl hZl
      have hR9 := hput w8 Y hR8 hT8
      have er16 : r.toArray.size = 16 := by have := hrl.out; simpa using this
      have hT9 : w8.there Y 3 r.toArray.size := by have := there_part hT8 3 16 (by omega); rw [er16]; simpa using this
      clear er16
      have hB9 : Below w.heap.size w (w8.setCells Y 3 r) := below_sets (by rw [hV.out]; omega) _ 3 w8 hBl
      have ht9 : (w8.setCells Y 3 r).there X 0 19 := World.there_setCells ht8 _ _ _
      go_upto_region 9 with fail
      try simp only [Act.put]
      refine wp_region_list ?_
      refine wpList_load_mid rfl 31 _ rfl _ _ rfl r _ hR8t Tryd.underlying31 rfl hir' ?_
      refine wpList_step fun K hK => ?_
      go_simp
      refine hK _ _ ?_
      clear hK K
      refine wpList_store_mid rfl 31 _ _ rfl _ _ r.toArray rfl rfl hT9 hir hor ?_
      obtain ⟨w9, hw9⟩ : ∃ w9, w8.setCells Y 3 r = w9 := ⟨_, rfl⟩
      rw [show w8.setCells Y 3 r.toArray.toList = w9 from hw9]
      rw [hw9] at hR9 hB9 ht9
      clear hw9 hR8t hR8 hT8 ht8 hBl hT9
      go_upto_region 10 with fail
      try simp only [Act.put]
      refine wp_region_list ?_
      refine wpList_load_mid rfl 33 _ rfl _ _ rfl Q _ hR9 Tryd.underlying33 rfl hiR' ?_
      rw [← hRl'.out] at ht9
      have hrs := run_loadVar_mid (P := Tryd.prog) (w9.setCells X 0 Q) X 0 33 Q _ (World.rangeAt_setCells_same w9 X 0 Q (by have := ht9; simpa using this)) Tryd.underlying33 rfl hiR'
      have hBm : Below w.heap.size w (w9.setCells X 0 Q) := below_sets (by rw [hV.out]; omega) _ 0 w9 hB9
      refine wpList_store_mid rfl 33 _ _ rfl _ _ Q.toArray rfl rfl ht9 hiR hoR ?_
      go_wp2_with fail
      exact bodyPost_ret (v := .tuple #[.agg Q.toArray, .int .i64 0]) (by simp [results, Tryd.results11, asAddr, hrs]) rfl ⟨rfl, hBm⟩
    · have hF7 : Below w5.heap.size w5 (w5.alloc (.cells (Array.replicate 16 (.int .u8 0)) 31)) := (Below.refl _ _).alloc (Nat.le_refl _) _
      have hTZ : (w5.alloc (.cells (Array.replicate 16 (.int .u8 0)) 31)).there w5.heap.size 0 16 := there_new w5 (Array.replicate 16 (.int .u8 0)) 31
      have hZl : w5.heap.size < (w5.alloc (.cells (Array.replicate 16 (.int .u8 0)) 31)).heap.size := by simp
      obtain ⟨w6, hw7⟩ : ∃ w6, w5.alloc (.cells (Array.replicate 16 (.int .u8 0)) 31) = w6 := ⟨_, rfl⟩
      rw [hw7] at hF7 hTZ hZl
      have hYZ := hYl
      have hS : (fun W : World => W.rangeAt Y 0 q ∧ W.rangeAt V 0 [.string seed, .int .i64 M] ∧ Below w.heap.size w W) w6 := ⟨range_below hS.1 hF7 (by omega), range_below hS.2.1 hF7 (by omega), hS.2.2.trans (hF7.mono hS.2.2.size)⟩
      refine st_run (i := 10) (d := some 13) (v := .pointer (some ⟨w5.heap.size, 0, none⟩)) (w' := w6) rfl (by rfl) (by rw [← hw7]; exact exec_alloc_tag w5) rfl hS ?_
      simp only [Act.put, List.setIfInBounds_toArray, List.set_cons_zero, List.set_cons_succ]
      clear hw7
      have hTX := there_below hTX hF7 (by omega)
      have hTY := there_below hTY hF7 hYl
      have hYl := Nat.lt_of_lt_of_le hYl hF7.size
      obtain ⟨Z, hZ⟩ : ∃ Z, Hid (w5.heap.size = Z) := ⟨_, hide rfl⟩
      rw [hZ.out] at hTZ hZl hYZ ⊢
      clear hZ hF7
      refine hs_call (i := 6) (d := some 37) rfl (by kernel_rfl) (by rfl) (by go_simp; first | done | exact ⟨rfl, rfl⟩ | with_reducible rfl) rfl ?_
      refine (cs w6).mono ?_
      rintro e' w7 ⟨rfl, hw_w7⟩
      have hS : (fun W : World => W.rangeAt Y 0 q ∧ W.rangeAt V 0 [.string seed, .int .i64 M] ∧ Below w.heap.size w W) w7 := ⟨range_below hS.1 hw_w7 (by omega), range_below hS.2.1 hw_w7 (by omega), hS.2.2.trans (hw_w7.mono hS.2.2.size)⟩
      refine ⟨_, rfl, hS, ?_⟩
      simp only [Act.put, List.setIfInBounds_toArray, List.set_cons_zero, List.set_cons_succ]
      have hTX := there_below hTX hw_w7 (by omega)
      have hTY := there_below hTY hw_w7 hYl
      have hTZ := there_below hTZ hw_w7 hZl
      have hZl := Nat.lt_of_lt_of_le hZl hw_w7.size
      have hYl := Nat.lt_of_lt_of_le hYl hw_w7.size
      clear hw_w7
      refine hs_take (i := 7) (d := some 30) (v := ?_) rfl (by kernel_rfl) (by kernel_rfl) (by kernel_rfl) (by rfl) ?_ hS rfl ?_
      rotate_left
      · intro w' hw
        go_simp
        try with_reducible rfl
      simp only [Act.put, List.setIfInBounds_toArray, List.set_cons_zero, List.set_cons_succ]
      refine hs_take (i := 8) (d := some 38) (v := ?_) rfl (by kernel_rfl) (by kernel_rfl) (by kernel_rfl) (by rfl) ?_ hS rfl ?_
      rotate_left
      · intro w' hw
        go_simp
        try with_reducible rfl
      simp only [Act.put, List.setIfInBounds_toArray, List.set_cons_zero, List.set_cons_succ]
      refine hs_take (i := 9) (d := some 39) (v := ?_) rfl (by kernel_rfl) (by kernel_rfl) (by kernel_rfl) (by rfl) ?_ hS rfl ?_
      rotate_left
      · intro w' hw
        go_simp
        try with_reducible rfl
      simp only [Act.put, List.setIfInBounds_toArray, List.set_cons_zero, List.set_cons_succ]
      have hN7 : w7.there Z 0 r.toArray.size := by
        have e : r.toArray.size = 16 := by have := hrl.out; simpa using this
        rw [e]; exact hTZ
      have hst := run_storeVar_mid (P := Tryd.prog) w7 Z 0 31 r.toArray hN7 hir hor
      have hBl : Below w.heap.size w (w7.setCells Z 0 r) := below_sets (by rw [hV.out]; omega) _ 0 w7 hS.2.2
      have hR8 := World.rangeAt_setCells_apart hS.1 Z 0 r (.inl (by omega))
      have hk8 := World.rangeAt_setCells_apart hS.2.1 Z 0 r (.inl (by omega))
      refine hs_store (i := 11) (w' := (w7.setCells Z 0 r)) rfl (by kernel_rfl) (by rfl) (exec_store rfl rfl rfl hst) rfl ⟨hR8, hk8, hBl⟩ ?_
      have hS : (fun W : World => W.rangeAt Y 0 q ∧ W.rangeAt V 0 [.string seed, .int .i64 M] ∧ Below w.heap.size w W) (w7.setCells Z 0 r) := ⟨hR8, hk8, hBl⟩
      refine hs_take (i := 12) (d := some 14) (v := ?_) rfl (by kernel_rfl) (by kernel_rfl) (by kernel_rfl) (by rfl) ?_ hS rfl ?_
      rotate_left
      · intro w' hw
        go_simp
        try with_reducible rfl
      simp only [Act.put, List.setIfInBounds_toArray, List.set_cons_zero, List.set_cons_succ]
      refine hs_done (by kernel_rfl) ?_
      have hR8t : (w7.setCells Z 0 r).rangeAt Z 0 r := World.rangeAt_setCells_same w7 Z 0 r (by have := hN7; simpa using this)
      have ht8 : (w7.setCells Z 0 r).there X 0 19 := World.there_setCells hTX _ _ _
      have hT8 : (w7.setCells Z 0 r).there Y 0 19 := World.there_setCells hTY _ _ _
      obtain ⟨w8, hw8⟩ : ∃ w8, w7.setCells Z 0 r = w8 := ⟨_, rfl⟩
      rw [hw8] at hR8 hBl hR8t ht8 hT8 ⊢
      clear hS hw8 hst hN7 hTX hTY hTZ hk8 hYl hZl
      have hR9 := hput w8 Y hR8 hT8
      have er16 : r.toArray.size = 16 := by have := hrl.out; simpa using this
      have hT9 : w8.there Y 3 r.toArray.size := by have := there_part hT8 3 16 (by omega); rw [er16]; simpa using this
      clear er16
      have hB9 : Below w.heap.size w (w8.setCells Y 3 r) := below_sets (by rw [hV.out]; omega) _ 3 w8 hBl
      have ht9 : (w8.setCells Y 3 r).there X 0 19 := World.there_setCells ht8 _ _ _
      go_upto_region 9 with fail
      try simp only [Act.put]
      refine wp_region_list ?_
      refine wpList_load_mid rfl 31 _ rfl _ _ rfl r _ hR8t Tryd.underlying31 rfl hir' ?_
      refine wpList_step fun K hK => ?_
      go_simp
      refine hK _ _ ?_
      clear hK K
      refine wpList_store_mid rfl 31 _ _ rfl _ _ r.toArray rfl rfl hT9 hir hor ?_
      obtain ⟨w9, hw9⟩ : ∃ w9, w8.setCells Y 3 r = w9 := ⟨_, rfl⟩
      rw [show w8.setCells Y 3 r.toArray.toList = w9 from hw9]
      rw [hw9] at hR9 hB9 ht9
      clear hw9 hR8t hR8 hT8 ht8 hBl hT9
      go_upto_region 10 with fail
      try simp only [Act.put]
      refine wp_region_list ?_
      refine wpList_load_mid rfl 33 _ rfl _ _ rfl Q _ hR9 Tryd.underlying33 rfl hiR' ?_
      rw [← hRl'.out] at ht9
      have hrs := run_loadVar_mid (P := Tryd.prog) (w9.setCells X 0 Q) X 0 33 Q _ (World.rangeAt_setCells_same w9 X 0 Q (by have := ht9; simpa using this)) Tryd.underlying33 rfl hiR'
      have hBm : Below w.heap.size w (w9.setCells X 0 Q) := below_sets (by rw [hV.out]; omega) _ 0 w9 hB9
      refine wpList_store_mid rfl 33 _ _ rfl _ _ Q.toArray rfl rfl ht9 hiR hoR ?_
      go_wp2_with fail
      exact bodyPost_ret (v := .tuple #[.agg Q.toArray, .int .i64 0]) (by simp [results, Tryd.results11, asAddr, hrs]) rfl ⟨rfl, hBm⟩
  · have hF7 : Below w4.heap.size w4 (w4.alloc (.cells (Array.replicate 16 (.int .u8 0)) 31)) := (Below.refl _ _).alloc (Nat.le_refl _) _
    have hTZ : (w4.alloc (.cells (Array.replicate 16 (.int .u8 0)) 31)).there w4.heap.size 0 16 := there_new w4 (Array.replicate 16 (.int .u8 0)) 31
    have hZl : w4.heap.size < (w4.alloc (.cells (Array.replicate 16 (.int .u8 0)) 31)).heap.size := by simp
    obtain ⟨w5, hw7⟩ : ∃ w5, w4.alloc (.cells (Array.replicate 16 (.int .u8 0)) 31) = w5 := ⟨_, rfl⟩
    rw [hw7] at hF7 hTZ hZl
    have hYZ := hYl
    have hS : (fun W : World => W.rangeAt Y 0 q ∧ W.rangeAt V 0 [.string seed, .int .i64 M] ∧ Below w.heap.size w W) w5 := ⟨range_below hS.1 hF7 (by omega), range_below hS.2.1 hF7 (by omega), hS.2.2.trans (hF7.mono hS.2.2.size)⟩
    refine st_run (i := 10) (d := some 13) (v := .pointer (some ⟨w4.heap.size, 0, none⟩)) (w' := w5) rfl (by rfl) (by rw [← hw7]; exact exec_alloc_tag w4) rfl hS ?_
    simp only [Act.put, List.setIfInBounds_toArray, List.set_cons_zero, List.set_cons_succ]
    clear hw7
    have hTX := there_below hTX hF7 (by omega)
    have hTY := there_below hTY hF7 hYl
    have hYl := Nat.lt_of_lt_of_le hYl hF7.size
    obtain ⟨Z, hZ⟩ : ∃ Z, Hid (w4.heap.size = Z) := ⟨_, hide rfl⟩
    rw [hZ.out] at hTZ hZl hYZ ⊢
    clear hZ hF7
    refine hs_call (i := 5) (d := some 36) rfl (by kernel_rfl) (by rfl) (by go_simp; first | done | exact ⟨rfl, rfl⟩ | with_reducible rfl) rfl ?_
    refine (cb w5).mono ?_
    rintro e' w6 ⟨rfl, hw_w6⟩
    have hS : (fun W : World => W.rangeAt Y 0 q ∧ W.rangeAt V 0 [.string seed, .int .i64 M] ∧ Below w.heap.size w W) w6 := ⟨range_below hS.1 hw_w6 (by omega), range_below hS.2.1 hw_w6 (by omega), hS.2.2.trans (hw_w6.mono hS.2.2.size)⟩
    refine ⟨_, rfl, hS, ?_⟩
    simp only [Act.put, List.setIfInBounds_toArray, List.set_cons_zero, List.set_cons_succ]
    have hTX := there_below hTX hw_w6 (by omega)
    have hTY := there_below hTY hw_w6 hYl
    have hTZ := there_below hTZ hw_w6 hZl
    have hZl := Nat.lt_of_lt_of_le hZl hw_w6.size
    have hYl := Nat.lt_of_lt_of_le hYl hw_w6.size
    clear hw_w6
    refine hs_call (i := 6) (d := some 37) rfl (by kernel_rfl) (by rfl) (by go_simp; first | done | exact ⟨rfl, rfl⟩ | with_reducible rfl) rfl ?_
    refine (cs w6).mono ?_
    rintro e' w7 ⟨rfl, hw_w7⟩
    have hS : (fun W : World => W.rangeAt Y 0 q ∧ W.rangeAt V 0 [.string seed, .int .i64 M] ∧ Below w.heap.size w W) w7 := ⟨range_below hS.1 hw_w7 (by omega), range_below hS.2.1 hw_w7 (by omega), hS.2.2.trans (hw_w7.mono hS.2.2.size)⟩
    refine ⟨_, rfl, hS, ?_⟩
    simp only [Act.put, List.setIfInBounds_toArray, List.set_cons_zero, List.set_cons_succ]
    have hTX := there_below hTX hw_w7 (by omega)
    have hTY := there_below hTY hw_w7 hYl
    have hTZ := there_below hTZ hw_w7 hZl
    have hZl := Nat.lt_of_lt_of_le hZl hw_w7.size
    have hYl := Nat.lt_of_lt_of_le hYl hw_w7.size
    clear hw_w7
    refine hs_take (i := 7) (d := some 30) (v := ?_) rfl (by kernel_rfl) (by kernel_rfl) (by kernel_rfl) (by rfl) ?_ hS rfl ?_
    rotate_left
    · intro w' hw
      go_simp
      try with_reducible rfl
    simp only [Act.put, List.setIfInBounds_toArray, List.set_cons_zero, List.set_cons_succ]
    refine hs_take (i := 8) (d := some 38) (v := ?_) rfl (by kernel_rfl) (by kernel_rfl) (by kernel_rfl) (by rfl) ?_ hS rfl ?_
    rotate_left
    · intro w' hw
      go_simp
      try with_reducible rfl
    simp only [Act.put, List.setIfInBounds_toArray, List.set_cons_zero, List.set_cons_succ]
    refine hs_take (i := 9) (d := some 39) (v := ?_) rfl (by kernel_rfl) (by kernel_rfl) (by kernel_rfl) (by rfl) ?_ hS rfl ?_
    rotate_left
    · intro w' hw
      go_simp
      try with_reducible rfl
    simp only [Act.put, List.setIfInBounds_toArray, List.set_cons_zero, List.set_cons_succ]
    have hN7 : w7.there Z 0 r.toArray.size := by
      have e : r.toArray.size = 16 := by have := hrl.out; simpa using this
      rw [e]; exact hTZ
    have hst := run_storeVar_mid (P := Tryd.prog) w7 Z 0 31 r.toArray hN7 hir hor
    have hBl : Below w.heap.size w (w7.setCells Z 0 r) := below_sets (by rw [hV.out]; omega) _ 0 w7 hS.2.2
    have hR8 := World.rangeAt_setCells_apart hS.1 Z 0 r (.inl (by omega))
    have hk8 := World.rangeAt_setCells_apart hS.2.1 Z 0 r (.inl (by omega))
    refine hs_store (i := 11) (w' := (w7.setCells Z 0 r)) rfl (by kernel_rfl) (by rfl) (exec_store rfl rfl rfl hst) rfl ⟨hR8, hk8, hBl⟩ ?_
    have hS : (fun W : World => W.rangeAt Y 0 q ∧ W.rangeAt V 0 [.string seed, .int .i64 M] ∧ Below w.heap.size w W) (w7.setCells Z 0 r) := ⟨hR8, hk8, hBl⟩
    refine hs_take (i := 12) (d := some 14) (v := ?_) rfl (by kernel_rfl) (by kernel_rfl) (by kernel_rfl) (by rfl) ?_ hS rfl ?_
    rotate_left
    · intro w' hw
      go_simp
      try with_reducible rfl
    simp only [Act.put, List.setIfInBounds_toArray, List.set_cons_zero, List.set_cons_succ]
    refine hs_done (by kernel_rfl) ?_
    have hR8t : (w7.setCells Z 0 r).rangeAt Z 0 r := World.rangeAt_setCells_same w7 Z 0 r (by have := hN7; simpa using this)
    have ht8 : (w7.setCells Z 0 r).there X 0 19 := World.there_setCells hTX _ _ _
    have hT8 : (w7.setCells Z 0 r).there Y 0 19 := World.there_setCells hTY _ _ _
    obtain ⟨w8, hw8⟩ : ∃ w8, w7.setCells Z 0 r = w8 := ⟨_, rfl⟩
    rw [hw8] at hR8 hBl hR8t ht8 hT8 ⊢
    clear hS hw8 hst hN7 hTX hTY hTZ hk8 hYl hZl
    have hR9 := hput w8 Y hR8 hT8
    have er16 : r.toArray.size = 16 := by have := hrl.out; simpa using this
    have hT9 : w8.there Y 3 r.toArray.size := by have := there_part hT8 3 16 (by omega); rw [er16]; simpa using this
    clear er16
    have hB9 : Below w.heap.size w (w8.setCells Y 3 r) := below_sets (by rw [hV.out]; omega) _ 3 w8 hBl
    have ht9 : (w8.setCells Y 3 r).there X 0 19 := World.there_setCells ht8 _ _ _
    go_upto_region 9 with fail
    try simp only [Act.put]
    refine wp_region_list ?_
    refine wpList_load_mid rfl 31 _ rfl _ _ rfl r _ hR8t Tryd.underlying31 rfl hir' ?_
    refine wpList_step fun K hK => ?_
    go_simp
    refine hK _ _ ?_
    clear hK K
    refine wpList_store_mid rfl 31 _ _ rfl _ _ r.toArray rfl rfl hT9 hir hor ?_
    obtain ⟨w9, hw9⟩ : ∃ w9, w8.setCells Y 3 r = w9 := ⟨_, rfl⟩
    rw [show w8.setCells Y 3 r.toArray.toList = w9 from hw9]
    rw [hw9] at hR9 hB9 ht9
    clear hw9 hR8t hR8 hT8 ht8 hBl hT9
    go_upto_region 10 with fail
    try simp only [Act.put]
    refine wp_region_list ?_
    refine wpList_load_mid rfl 33 _ rfl _ _ rfl Q _ hR9 Tryd.underlying33 rfl hiR' ?_
    rw [← hRl'.out] at ht9
    have hrs := run_loadVar_mid (P := Tryd.prog) (w9.setCells X 0 Q) X 0 33 Q _ (World.rangeAt_setCells_same w9 X 0 Q (by have := ht9; simpa using this)) Tryd.underlying33 rfl hiR'
    have hBm : Below w.heap.size w (w9.setCells X 0 Q) := below_sets (by rw [hV.out]; omega) _ 0 w9 hB9
    refine wpList_store_mid rfl 33 _ _ rfl _ _ Q.toArray rfl rfl ht9 hiR hoR ?_
    go_wp2_with fail
    exact bodyPost_ret (v := .tuple #[.agg Q.toArray, .int .i64 0]) (by simp [results, Tryd.results11, asAddr, hrs]) rfl ⟨rfl, hBm⟩
def refMakeV (seed : ByteArray) (M N c n : Int) (s : ByteArray) : List Value × Int :=
  if ¬ (0 ≤ c ∧ c < 8 ∧ 1 ≤ n ∧ n ≤ 1099511627776 ∧ s.size ≤ 64) then (noReq, 60) else if N < 0 ∨ 64 < N then (noReq, 2)
  else if (refSignOf seed M (N + c) (strOf (bodyL c n s))).2 ≠ 0 then (noReq, (refSignOf seed M (N + c) (strOf (bodyL c n s))).2) else (reqL c n s (refSignOf seed M (N + c) (strOf (bodyL c n s))).1, 0)
theorem refMake_any (seed : ByteArray) (M N c n : Int) (s : ByteArray) (w : World) (hsd : seed.size ≤ 100000) (hM : M ≤ 100000) :
   Calls Tryd.prog 11 #[.agg #[.string seed, .int .i64 M], .int .i64 N, .int .i64 c, .int .i64 n, .string s] w fun e w' => e = .returned (.tuple #[.agg (refMakeV seed M N c n s).1.toArray, .int .i64 (refMakeV seed M N c n s).2]) ∧ Below w.heap.size w w' := by
  unfold refMakeV
  by_cases hm : 0 ≤ c ∧ c < 8 ∧ 1 ≤ n ∧ n ≤ 1099511627776 ∧ s.size ≤ 64
  · rw [if_neg (fun q => q hm)]
    by_cases hN : N < 0 ∨ 64 < N
    · rw [if_pos hN]; exact refMake_noB seed M N c n s w hm hN
    · rw [if_neg hN]
      by_cases hne : (refSignOf seed M (N + c) (strOf (bodyL c n s))).2 = 0
      · rw [if_neg (fun q => q hne)]; exact refMake_yes seed M N c n s w hm (by omega) hsd hM hne
      · rw [if_pos hne]; exact refMake_noC seed M N c n s w hm (by omega) hsd hM hne
  · rw [if_pos hm]; exact refMake_noA seed M N c n s w hm
end Go.Proofs.YtbfhpgneaklgoabDoor
