/- request.Make: contracts -/
import Derived.Test.YtbfhpgneaklgoabDoorRq4
namespace Go.Proofs.YtbfhpgneaklgoabDoor
open Go.RowKit
open Sha Tal
def noReq : List Value := reqL 0 0 ⟨#[]⟩ zeros16
theorem litReq : (#[.int .i64 0, .int .i64 0, .string ⟨#[]⟩, .int .u8 0, .int .u8 0, .int .u8 0, .int .u8 0, .int .u8 0, .int .u8 0, .int .u8 0, .int .u8 0, .int .u8 0, .int .u8 0, .int .u8 0, .int .u8 0, .int .u8 0, .int .u8 0, .int .u8 0, .int .u8 0] : Array Value) = noReq.toArray := by rfl
theorem iszN : (Tryd.prog.info? 33).map (·.size) = some noReq.toArray.size := by kernel_rfl
theorem reqL_one (c n : Int) (s : ByteArray) (t : List Int) : ∀ v ∈ reqL c n s t, v.oneCell' = true := by
  intro v hv
  simp only [reqL, List.mem_cons] at hv
  rcases hv with rfl | rfl | rfl | hv
  · rfl
  · rfl
  · rfl
  · exact v8_one t v hv
theorem strOf_aux : ∀ (zs : List Int) (r : ByteArray), (zs.foldl (fun r n => r.push (UInt8.ofNat n.toNat)) r).size = r.size + zs.length
  | [], r => by simp
  | z :: zs, r => by rw [List.foldl_cons, strOf_aux zs, ByteArray.size_push, List.length_cons]; omega
theorem strOf_size (zs : List Int) : (strOf zs).size = zs.length := by unfold strOf; rw [strOf_aux]; simp
theorem body_small (c n : Int) (s : ByteArray) (hc : c ≤ 9223372036854775807) (hn : n ≤ 9223372036854775807) (hs : s.size ≤ 90000) : (bodyL c n s).length ≤ 100000 := by
  have h1 := putL_length c (by omega)
  have h2 := putL_length n (by omega)
  have h3 := putL_length s.size (by omega)
  simp only [bodyL, textL, List.length_append, strL_length, List.length_cons, List.length_nil]
  omega
theorem reqL_put {w : World} {b : Nat} {c n : Int} {s : ByteArray} {t u : List Int} (h : w.rangeAt b 0 (reqL c n s t)) (hu : u.length = 16) (hT : w.there b 0 19) : (w.setCells b 3 (v8 u)).rangeAt b 0 (reqL c n s u) := by
  have e : ∀ x, reqL c n s x = [.int .i64 c, .int .i64 n, .string s] ++ v8 x := fun _ => rfl
  rw [e] at h ⊢
  refine range_join (World.rangeAt_setCells_apart (range_left h) b 3 (v8 u) (.inr (.inl (by simp)))) ?_
  exact World.rangeAt_setCells_same w b 3 (v8 u) (there_part hT 3 _ (by rw [v8_length, hu]; omega))
def mayB (c n m : Int) (s : ByteArray) : Prop := 0 ≤ c ∧ c < m ∧ 1 ≤ n ∧ n ≤ 1099511627776 ∧ s.size ≤ 64
theorem tag_any (p : Option Addr) (ds : List (List Int)) (N c n : Int) (s : ByteArray) (t : List Int) (w : World) (h : KeysAt w p ds) (hG : Glob w) (ht : t.length = 16) (hc0 : 0 ≤ c) (hcm : c ≤ 9223372036854775807) (hn : n ≤ 9223372036854775807) (hs : s.size ≤ 64) :
   Calls Tryd.prog 33 #[.pointer p, .int .i64 N, .agg (reqL c n s t).toArray] w fun e w' => e = .returned (.tuple #[.agg (v8 (tagV ds N c n s).1).toArray, .int .i64 (tagV ds N c n s).2]) ∧ Below w.heap.size w w' := by
  unfold tagV
  by_cases hN : N < 0
  · rw [if_pos (.inl hN)]; exact tag_noA p ds N c n s t w h hN
  · by_cases hN2 : 64 < N
    · rw [if_pos (.inr (.inl hN2))]; exact tag_noB p ds N c n s t w h hN hN2
    · by_cases hc : (ds.length : Int) - N ≤ c
      · rw [if_pos (.inr (.inr hc))]; exact tag_noC p ds N c n s t w h hN hN2 hc
      · rw [if_neg (by omega)]
        exact tag_yes p ds N c n s t w h hG ht hN hN2 hc (by omega) hn (by omega) (by rw [strOf_size]; exact body_small c n s hcm hn (by omega))
set_option maxRecDepth 100000 in
set_option maxHeartbeats 2000000 in
theorem make_none (p : Option Addr) (N c n : Int) (s : ByteArray) (w : World) (h : KeysAt w p []) :
   Calls Tryd.prog 10 #[.pointer p, .int .i64 N, .int .i64 c, .int .i64 n, .string s] w fun e w' => e = .returned (.tuple #[.agg noReq.toArray, .int .i64 1]) ∧ Below w.heap.size w w' := by
  have hi0 : (Tryd.prog.info? 33).map (·.size) = some (reqL c n s zeros16).toArray.size := by rw [List.size_toArray, reqL_length _ _ _ _ rfl]; exact iszR
  have h1c := all_oneCell_toArray (reqL_one c n s zeros16)
  have hB0 : Below w.heap.size w (w.alloc (.cells #[.int .i64 0, .int .i64 0, .string ⟨#[]⟩, .int .u8 0, .int .u8 0, .int .u8 0, .int .u8 0, .int .u8 0, .int .u8 0, .int .u8 0, .int .u8 0, .int .u8 0, .int .u8 0, .int .u8 0, .int .u8 0, .int .u8 0, .int .u8 0, .int .u8 0, .int .u8 0] 33)) := (Below.refl _ _).alloc (Nat.le_refl _) _
  have ht0 : (w.alloc (.cells #[.int .i64 0, .int .i64 0, .string ⟨#[]⟩, .int .u8 0, .int .u8 0, .int .u8 0, .int .u8 0, .int .u8 0, .int .u8 0, .int .u8 0, .int .u8 0, .int .u8 0, .int .u8 0, .int .u8 0, .int .u8 0, .int .u8 0, .int .u8 0, .int .u8 0, .int .u8 0] 33)).there w.heap.size 0 19 := there_new w #[.int .i64 0, .int .i64 0, .string ⟨#[]⟩, .int .u8 0, .int .u8 0, .int .u8 0, .int .u8 0, .int .u8 0, .int .u8 0, .int .u8 0, .int .u8 0, .int .u8 0, .int .u8 0, .int .u8 0, .int .u8 0, .int .u8 0, .int .u8 0, .int .u8 0, .int .u8 0] 33
  have hz0 : w.heap.size < (w.alloc (.cells #[.int .i64 0, .int .i64 0, .string ⟨#[]⟩, .int .u8 0, .int .u8 0, .int .u8 0, .int .u8 0, .int .u8 0, .int .u8 0, .int .u8 0, .int .u8 0, .int .u8 0, .int .u8 0, .int .u8 0, .int .u8 0, .int .u8 0, .int .u8 0, .int .u8 0, .int .u8 0] 33)).heap.size := by simp
  go_enter Tryd.func10, Tryd.ntmps10
  go_upto_region 1 with fail
  go_name_world w1 hw1
  rw [show w.alloc (.cells #[.int .i64 0, .int .i64 0, .string ⟨#[]⟩, .int .u8 0, .int .u8 0, .int .u8 0, .int .u8 0, .int .u8 0, .int .u8 0, .int .u8 0, .int .u8 0, .int .u8 0, .int .u8 0, .int .u8 0, .int .u8 0, .int .u8 0, .int .u8 0, .int .u8 0, .int .u8 0] 33) = w1 from hw1] at ht0 hB0 hz0
  clear hw1
  have F := fresh_store w1 #[.int .i64 0, .int .i64 0, .string ⟨#[]⟩, .int .u8 0, .int .u8 0, .int .u8 0, .int .u8 0, .int .u8 0, .int .u8 0, .int .u8 0, .int .u8 0, .int .u8 0, .int .u8 0, .int .u8 0, .int .u8 0, .int .u8 0, .int .u8 0, .int .u8 0, .int .u8 0] 33 (reqL c n s zeros16) (by rw [reqL_length _ _ _ _ rfl]; rfl)
  have hN1 : (w1.alloc (.cells #[.int .i64 0, .int .i64 0, .string ⟨#[]⟩, .int .u8 0, .int .u8 0, .int .u8 0, .int .u8 0, .int .u8 0, .int .u8 0, .int .u8 0, .int .u8 0, .int .u8 0, .int .u8 0, .int .u8 0, .int .u8 0, .int .u8 0, .int .u8 0, .int .u8 0, .int .u8 0] 33)).there w1.heap.size 0 (reqL c n s zeros16).toArray.size := there_new w1 #[.int .i64 0, .int .i64 0, .string ⟨#[]⟩, .int .u8 0, .int .u8 0, .int .u8 0, .int .u8 0, .int .u8 0, .int .u8 0, .int .u8 0, .int .u8 0, .int .u8 0, .int .u8 0, .int .u8 0, .int .u8 0, .int .u8 0, .int .u8 0, .int .u8 0, .int .u8 0] 33
  go_upto_region 2 with (refine wpList_store_mid (op := ⟨none, .store 33 (.tmp 12) (.tmp 18), _, _, _, none⟩) rfl 33 _ _ rfl _ _ (reqL c n s zeros16).toArray rfl rfl hN1 hi0 h1c ?_)
  go_name_world w2 hw2
  rw [show (w1.alloc (.cells #[.int .i64 0, .int .i64 0, .string ⟨#[]⟩, .int .u8 0, .int .u8 0, .int .u8 0, .int .u8 0, .int .u8 0, .int .u8 0, .int .u8 0, .int .u8 0, .int .u8 0, .int .u8 0, .int .u8 0, .int .u8 0, .int .u8 0, .int .u8 0, .int .u8 0, .int .u8 0] 33)).setCells w1.heap.size 0 (reqL c n s zeros16) = w2 from hw2] at F
  clear hw2 hN1 h1c
  obtain ⟨hR2, hF2, hz2, _⟩ := F
  have hB2 := hB0.trans (hF2.mono hB0.size)
  have ht2 := there_below ht0 hF2 hz0
  have hi0' : (Tryd.prog.info? 33).map (·.size) = some (reqL c n s zeros16).length := by rw [reqL_length _ _ _ _ rfl]; exact iszR
  clear hB0 ht0 hF2 hi0
  simp only [Act.put]
  generalize Value.agg #[Value.int IntKind.i64 c, Value.int IntKind.i64 n, Value.string s, Value.int IntKind.u8 0, Value.int IntKind.u8 0, Value.int IntKind.u8 0, Value.int IntKind.u8 0, Value.int IntKind.u8 0, Value.int IntKind.u8 0, Value.int IntKind.u8 0, Value.int IntKind.u8 0, Value.int IntKind.u8 0, Value.int IntKind.u8 0, Value.int IntKind.u8 0, Value.int IntKind.u8 0, Value.int IntKind.u8 0, Value.int IntKind.u8 0, Value.int IntKind.u8 0, Value.int IntKind.u8 0] = v18
  obtain ⟨X, hX⟩ : ∃ X, Hid (w.heap.size = X) := ⟨_, hide rfl⟩
  obtain ⟨Y, hY⟩ : ∃ Y, Hid (w1.heap.size = Y) := ⟨_, hide rfl⟩
  have hXY : X < Y := by rw [← hX.out, ← hY.out]; exact hz0
  have hY2 : Y < w2.heap.size := by rw [hz2, hY.out]; omega
  clear hz0 hz2
  rw [hX.out] at ht2 ⊢
  rw [hY.out] at hR2 ⊢
  have ck := klen_any p [] w2 (h.below hB2)
  have hlit := litReq
  have hi := iszN
  have ho := all_oneCell_toArray (reqL_one 0 0 ⟨#[]⟩ zeros16)
  change (noReq.toArray.all fun x => x.oneCell') = true at ho
  have hzl : noReq.toArray.size = 19 := by rw [List.size_toArray]; exact reqL_length _ _ _ _ rfl
  obtain ⟨zs, hzs⟩ : ∃ zs, Hid (noReq = zs) := ⟨_, hide rfl⟩
  rw [hzs.out] at hlit hi ho hzl
  rw [← hzl] at ht2
  have hi' : (Tryd.prog.info? 33).map (·.size) = some zs.length := by simpa using hi
  have hzl' := hide hzl
  clear hzl
  simp only [List.length_nil] at ck
  go_wp2_with fail
  refine ck.mono ?_
  rintro e w3 ⟨rfl, hx⟩
  obtain rfl := hx.symm
  clear hx ck
  have hrs := run_loadVar_mid (P := Tryd.prog) (w2.setCells X 0 zs) X 0 33 zs _ (World.rangeAt_setCells_same w2 X 0 zs (by have := ht2; simpa using this)) Tryd.underlying33 rfl hi'
  have hBl : Below w.heap.size w (w2.setCells X 0 zs) := below_sets (by rw [hX.out]; exact Nat.le_refl _) _ 0 w2 hB2
  go_wp2_with (refine wpList_store_mid rfl 33 _ _ rfl _ _ zs.toArray rfl rfl ht2 hi ho ?_)
  exact bodyPost_ret (v := .tuple #[.agg zs.toArray, .int .i64 1]) (by simp [results, Tryd.results10, asAddr, hrs]) rfl ⟨by rw [hzs.out], hBl⟩
set_option maxRecDepth 100000 in
set_option maxHeartbeats 2000000 in
theorem make_noB (p : Option Addr) (ds : List (List Int)) (N c n : Int) (s : ByteArray) (w : World) (h : KeysAt w p ds) (hd : 0 < ds.length) (hm : ¬ (0 ≤ c ∧ c < 8 ∧ 1 ≤ n ∧ n ≤ 1099511627776 ∧ s.size ≤ 64)) :
   Calls Tryd.prog 10 #[.pointer p, .int .i64 N, .int .i64 c, .int .i64 n, .string s] w fun e w' => e = .returned (.tuple #[.agg noReq.toArray, .int .i64 60]) ∧ Below w.heap.size w w' := by
  have hi0 : (Tryd.prog.info? 33).map (·.size) = some (reqL c n s zeros16).toArray.size := by rw [List.size_toArray, reqL_length _ _ _ _ rfl]; exact iszR
  have h1c := all_oneCell_toArray (reqL_one c n s zeros16)
  have hB0 : Below w.heap.size w (w.alloc (.cells #[.int .i64 0, .int .i64 0, .string ⟨#[]⟩, .int .u8 0, .int .u8 0, .int .u8 0, .int .u8 0, .int .u8 0, .int .u8 0, .int .u8 0, .int .u8 0, .int .u8 0, .int .u8 0, .int .u8 0, .int .u8 0, .int .u8 0, .int .u8 0, .int .u8 0, .int .u8 0] 33)) := (Below.refl _ _).alloc (Nat.le_refl _) _
  have ht0 : (w.alloc (.cells #[.int .i64 0, .int .i64 0, .string ⟨#[]⟩, .int .u8 0, .int .u8 0, .int .u8 0, .int .u8 0, .int .u8 0, .int .u8 0, .int .u8 0, .int .u8 0, .int .u8 0, .int .u8 0, .int .u8 0, .int .u8 0, .int .u8 0, .int .u8 0, .int .u8 0, .int .u8 0] 33)).there w.heap.size 0 19 := there_new w #[.int .i64 0, .int .i64 0, .string ⟨#[]⟩, .int .u8 0, .int .u8 0, .int .u8 0, .int .u8 0, .int .u8 0, .int .u8 0, .int .u8 0, .int .u8 0, .int .u8 0, .int .u8 0, .int .u8 0, .int .u8 0, .int .u8 0, .int .u8 0, .int .u8 0, .int .u8 0] 33
  have hz0 : w.heap.size < (w.alloc (.cells #[.int .i64 0, .int .i64 0, .string ⟨#[]⟩, .int .u8 0, .int .u8 0, .int .u8 0, .int .u8 0, .int .u8 0, .int .u8 0, .int .u8 0, .int .u8 0, .int .u8 0, .int .u8 0, .int .u8 0, .int .u8 0, .int .u8 0, .int .u8 0, .int .u8 0, .int .u8 0] 33)).heap.size := by simp
  go_enter Tryd.func10, Tryd.ntmps10
  go_upto_region 1 with fail
  go_name_world w1 hw1
  rw [show w.alloc (.cells #[.int .i64 0, .int .i64 0, .string ⟨#[]⟩, .int .u8 0, .int .u8 0, .int .u8 0, .int .u8 0, .int .u8 0, .int .u8 0, .int .u8 0, .int .u8 0, .int .u8 0, .int .u8 0, .int .u8 0, .int .u8 0, .int .u8 0, .int .u8 0, .int .u8 0, .int .u8 0] 33) = w1 from hw1] at ht0 hB0 hz0
  clear hw1
  have F := fresh_store w1 #[.int .i64 0, .int .i64 0, .string ⟨#[]⟩, .int .u8 0, .int .u8 0, .int .u8 0, .int .u8 0, .int .u8 0, .int .u8 0, .int .u8 0, .int .u8 0, .int .u8 0, .int .u8 0, .int .u8 0, .int .u8 0, .int .u8 0, .int .u8 0, .int .u8 0, .int .u8 0] 33 (reqL c n s zeros16) (by rw [reqL_length _ _ _ _ rfl]; rfl)
  have hN1 : (w1.alloc (.cells #[.int .i64 0, .int .i64 0, .string ⟨#[]⟩, .int .u8 0, .int .u8 0, .int .u8 0, .int .u8 0, .int .u8 0, .int .u8 0, .int .u8 0, .int .u8 0, .int .u8 0, .int .u8 0, .int .u8 0, .int .u8 0, .int .u8 0, .int .u8 0, .int .u8 0, .int .u8 0] 33)).there w1.heap.size 0 (reqL c n s zeros16).toArray.size := there_new w1 #[.int .i64 0, .int .i64 0, .string ⟨#[]⟩, .int .u8 0, .int .u8 0, .int .u8 0, .int .u8 0, .int .u8 0, .int .u8 0, .int .u8 0, .int .u8 0, .int .u8 0, .int .u8 0, .int .u8 0, .int .u8 0, .int .u8 0, .int .u8 0, .int .u8 0, .int .u8 0] 33
  go_upto_region 2 with (refine wpList_store_mid (op := ⟨none, .store 33 (.tmp 12) (.tmp 18), _, _, _, none⟩) rfl 33 _ _ rfl _ _ (reqL c n s zeros16).toArray rfl rfl hN1 hi0 h1c ?_)
  go_name_world w2 hw2
  rw [show (w1.alloc (.cells #[.int .i64 0, .int .i64 0, .string ⟨#[]⟩, .int .u8 0, .int .u8 0, .int .u8 0, .int .u8 0, .int .u8 0, .int .u8 0, .int .u8 0, .int .u8 0, .int .u8 0, .int .u8 0, .int .u8 0, .int .u8 0, .int .u8 0, .int .u8 0, .int .u8 0, .int .u8 0] 33)).setCells w1.heap.size 0 (reqL c n s zeros16) = w2 from hw2] at F
  clear hw2 hN1 h1c
  obtain ⟨hR2, hF2, hz2, _⟩ := F
  have hB2 := hB0.trans (hF2.mono hB0.size)
  have ht2 := there_below ht0 hF2 hz0
  have hi0' : (Tryd.prog.info? 33).map (·.size) = some (reqL c n s zeros16).length := by rw [reqL_length _ _ _ _ rfl]; exact iszR
  clear hB0 ht0 hF2 hi0
  simp only [Act.put]
  generalize Value.agg #[Value.int IntKind.i64 c, Value.int IntKind.i64 n, Value.string s, Value.int IntKind.u8 0, Value.int IntKind.u8 0, Value.int IntKind.u8 0, Value.int IntKind.u8 0, Value.int IntKind.u8 0, Value.int IntKind.u8 0, Value.int IntKind.u8 0, Value.int IntKind.u8 0, Value.int IntKind.u8 0, Value.int IntKind.u8 0, Value.int IntKind.u8 0, Value.int IntKind.u8 0, Value.int IntKind.u8 0, Value.int IntKind.u8 0, Value.int IntKind.u8 0, Value.int IntKind.u8 0] = v18
  obtain ⟨X, hX⟩ : ∃ X, Hid (w.heap.size = X) := ⟨_, hide rfl⟩
  obtain ⟨Y, hY⟩ : ∃ Y, Hid (w1.heap.size = Y) := ⟨_, hide rfl⟩
  have hXY : X < Y := by rw [← hX.out, ← hY.out]; exact hz0
  have hY2 : Y < w2.heap.size := by rw [hz2, hY.out]; omega
  clear hz0 hz2
  rw [hX.out] at ht2 ⊢
  rw [hY.out] at hR2 ⊢
  have ck := klen_any p ds w2 (h.below hB2)
  have cm := fun w0 => mayBe_any c n 8 s zeros16 w0
  have hmb : decide (0 ≤ c ∧ c < 8 ∧ 1 ≤ n ∧ n ≤ 1099511627776 ∧ s.size ≤ 64) = false := decide_eq_false hm
  simp only [hmb] at cm
  clear hmb
  obtain ⟨q, hq⟩ : ∃ q, Hid (reqL c n s zeros16 = q) := ⟨_, hide rfl⟩
  rw [hq.out] at hR2 hi0'
  simp only [hq.out] at cm
  have hd0 : ((ds.length : Int) == 0) = false := by simp; exact List.ne_nil_of_length_pos hd
  have hd1 : ¬ (ds.length : Int) = 0 := by omega
  have HD := hide hd
  clear hd
  go_wp2_with fail
  refine ck.mono ?_
  rintro e w3 ⟨rfl, hx⟩
  obtain rfl := hx.symm
  clear hx ck
  go_upto_region 4 with fail
  try simp only [Act.put]
  refine wp_region_list ?_
  refine wpList_load_mid rfl 33 _ rfl _ _ rfl q _ hR2 Tryd.underlying33 rfl hi0' ?_
  go_wp2_with fail
  refine (cm w2).mono ?_
  rintro e w3 ⟨rfl, hw3⟩
  have hB3 := hB2.trans (hw3.mono hB2.size)
  have hR3 := range_below hR2 hw3 hY2
  have ht3 := there_below ht2 hw3 (by omega)
  have hY3 := Nat.lt_of_lt_of_le hY2 hw3.size
  clear hB2 hR2 ht2 hY2 cm hw3
  have hlit := litReq
  have hi := iszN
  have ho := all_oneCell_toArray (reqL_one 0 0 ⟨#[]⟩ zeros16)
  change (noReq.toArray.all fun x => x.oneCell') = true at ho
  have hzl : noReq.toArray.size = 19 := by rw [List.size_toArray]; exact reqL_length _ _ _ _ rfl
  obtain ⟨zs, hzs⟩ : ∃ zs, Hid (noReq = zs) := ⟨_, hide rfl⟩
  rw [hzs.out] at hlit hi ho hzl
  rw [← hzl] at ht3
  have hi' : (Tryd.prog.info? 33).map (·.size) = some zs.length := by simpa using hi
  have hzl' := hide hzl
  clear hzl
  have hrs := run_loadVar_mid (P := Tryd.prog) (w3.setCells X 0 zs) X 0 33 zs _ (World.rangeAt_setCells_same w3 X 0 zs (by have := ht3; simpa using this)) Tryd.underlying33 rfl hi'
  have hBl : Below w.heap.size w (w3.setCells X 0 zs) := below_sets (by rw [hX.out]; exact Nat.le_refl _) _ 0 w3 hB3
  go_wp2_with (refine wpList_store_mid rfl 33 _ _ rfl _ _ zs.toArray rfl rfl ht3 hi ho ?_)
  exact bodyPost_ret (v := .tuple #[.agg zs.toArray, .int .i64 60]) (by simp [results, Tryd.results10, asAddr, hrs]) rfl ⟨by rw [hzs.out], hBl⟩
theorem tagV_length (ds : List (List Int)) (N c n : Int) (s : ByteArray) : (tagV ds N c n s).1.length = 16 := by
  unfold tagV; split
  · rfl
  · exact signOf_length _ _ _
set_option maxRecDepth 100000 in
set_option maxHeartbeats 2000000 in
theorem make_noC (p : Option Addr) (ds : List (List Int)) (N c n : Int) (s : ByteArray) (w : World) (h : KeysAt w p ds) (hG : Glob w) (hd : 0 < ds.length) (hm : 0 ≤ c ∧ c < 8 ∧ 1 ≤ n ∧ n ≤ 1099511627776 ∧ s.size ≤ 64) (hne : (tagV ds N c n s).2 ≠ 0) :
   Calls Tryd.prog 10 #[.pointer p, .int .i64 N, .int .i64 c, .int .i64 n, .string s] w fun e w' => e = .returned (.tuple #[.agg noReq.toArray, .int .i64 (tagV ds N c n s).2]) ∧ Below w.heap.size w w' := by
  have ct := fun w0 h0 hG0 => tag_any p ds N c n s zeros16 w0 h0 hG0 rfl (by omega) (by omega) (by omega) (by omega)
  have hrl0 := tagV_length ds N c n s
  obtain ⟨er, her⟩ : ∃ er, Hid ((tagV ds N c n s).2 = er) := ⟨_, hide rfl⟩
  obtain ⟨r0, hr0⟩ : ∃ r0, Hid ((tagV ds N c n s).1 = r0) := ⟨_, hide rfl⟩
  simp only [her.out, hr0.out] at ct
  rw [hr0.out] at hrl0
  rw [her.out] at hne ⊢
  have hir := info16 r0 hrl0
  have hor := all_oneCell_toArray (v8_one r0)
  have hir' : (Tryd.prog.info? 31).map (·.size) = some (v8 r0).length := by rw [v8_length, hrl0]; exact iszT
  have hput := fun (w0 : World) (b0 : Nat) h1 h2 => @reqL_put w0 b0 c n s zeros16 r0 h1 hrl0 h2
  have hiR : (Tryd.prog.info? 33).map (·.size) = some (reqL c n s r0).toArray.size := by rw [List.size_toArray, reqL_length c n s r0 hrl0]; exact iszR
  have hoR := all_oneCell_toArray (reqL_one c n s r0)
  have hRl : (reqL c n s r0).toArray.size = 19 := by rw [List.size_toArray, reqL_length c n s r0 hrl0]
  have hrl : Hid ((v8 r0).length = 16) := by show _ = _; rw [v8_length, hrl0]
  obtain ⟨r, hr⟩ : ∃ r, Hid (v8 r0 = r) := ⟨_, hide rfl⟩
  obtain ⟨Q, hQ⟩ : ∃ Q, Hid (reqL c n s r0 = Q) := ⟨_, hide rfl⟩
  simp only [hr.out] at ct
  rw [hr.out] at hir hor hir' hrl
  rw [hQ.out] at hiR hoR hRl
  simp only [hr.out, hQ.out] at hput
  have hRl' := hide hRl
  have hiR' : (Tryd.prog.info? 33).map (·.size) = some Q.length := by simpa using hiR
  clear hrl0 hRl
  have hi0 : (Tryd.prog.info? 33).map (·.size) = some (reqL c n s zeros16).toArray.size := by rw [List.size_toArray, reqL_length _ _ _ _ rfl]; exact iszR
  have h1c := all_oneCell_toArray (reqL_one c n s zeros16)
  have hB0 : Below w.heap.size w (w.alloc (.cells #[.int .i64 0, .int .i64 0, .string ⟨#[]⟩, .int .u8 0, .int .u8 0, .int .u8 0, .int .u8 0, .int .u8 0, .int .u8 0, .int .u8 0, .int .u8 0, .int .u8 0, .int .u8 0, .int .u8 0, .int .u8 0, .int .u8 0, .int .u8 0, .int .u8 0, .int .u8 0] 33)) := (Below.refl _ _).alloc (Nat.le_refl _) _
  have ht0 : (w.alloc (.cells #[.int .i64 0, .int .i64 0, .string ⟨#[]⟩, .int .u8 0, .int .u8 0, .int .u8 0, .int .u8 0, .int .u8 0, .int .u8 0, .int .u8 0, .int .u8 0, .int .u8 0, .int .u8 0, .int .u8 0, .int .u8 0, .int .u8 0, .int .u8 0, .int .u8 0, .int .u8 0] 33)).there w.heap.size 0 19 := there_new w #[.int .i64 0, .int .i64 0, .string ⟨#[]⟩, .int .u8 0, .int .u8 0, .int .u8 0, .int .u8 0, .int .u8 0, .int .u8 0, .int .u8 0, .int .u8 0, .int .u8 0, .int .u8 0, .int .u8 0, .int .u8 0, .int .u8 0, .int .u8 0, .int .u8 0, .int .u8 0] 33
  have hz0 : w.heap.size < (w.alloc (.cells #[.int .i64 0, .int .i64 0, .string ⟨#[]⟩, .int .u8 0, .int .u8 0, .int .u8 0, .int .u8 0, .int .u8 0, .int .u8 0, .int .u8 0, .int .u8 0, .int .u8 0, .int .u8 0, .int .u8 0, .int .u8 0, .int .u8 0, .int .u8 0, .int .u8 0, .int .u8 0] 33)).heap.size := by simp
  go_enter Tryd.func10, Tryd.ntmps10
  go_upto_region 1 with fail
  go_name_world w1 hw1
  rw [show w.alloc (.cells #[.int .i64 0, .int .i64 0, .string ⟨#[]⟩, .int .u8 0, .int .u8 0, .int .u8 0, .int .u8 0, .int .u8 0, .int .u8 0, .int .u8 0, .int .u8 0, .int .u8 0, .int .u8 0, .int .u8 0, .int .u8 0, .int .u8 0, .int .u8 0, .int .u8 0, .int .u8 0] 33) = w1 from hw1] at ht0 hB0 hz0
  clear hw1
  have F := fresh_store w1 #[.int .i64 0, .int .i64 0, .string ⟨#[]⟩, .int .u8 0, .int .u8 0, .int .u8 0, .int .u8 0, .int .u8 0, .int .u8 0, .int .u8 0, .int .u8 0, .int .u8 0, .int .u8 0, .int .u8 0, .int .u8 0, .int .u8 0, .int .u8 0, .int .u8 0, .int .u8 0] 33 (reqL c n s zeros16) (by rw [reqL_length _ _ _ _ rfl]; rfl)
  have hN1 : (w1.alloc (.cells #[.int .i64 0, .int .i64 0, .string ⟨#[]⟩, .int .u8 0, .int .u8 0, .int .u8 0, .int .u8 0, .int .u8 0, .int .u8 0, .int .u8 0, .int .u8 0, .int .u8 0, .int .u8 0, .int .u8 0, .int .u8 0, .int .u8 0, .int .u8 0, .int .u8 0, .int .u8 0] 33)).there w1.heap.size 0 (reqL c n s zeros16).toArray.size := there_new w1 #[.int .i64 0, .int .i64 0, .string ⟨#[]⟩, .int .u8 0, .int .u8 0, .int .u8 0, .int .u8 0, .int .u8 0, .int .u8 0, .int .u8 0, .int .u8 0, .int .u8 0, .int .u8 0, .int .u8 0, .int .u8 0, .int .u8 0, .int .u8 0, .int .u8 0, .int .u8 0] 33
  go_upto_region 2 with (refine wpList_store_mid (op := ⟨none, .store 33 (.tmp 12) (.tmp 18), _, _, _, none⟩) rfl 33 _ _ rfl _ _ (reqL c n s zeros16).toArray rfl rfl hN1 hi0 h1c ?_)
  go_name_world w2 hw2
  rw [show (w1.alloc (.cells #[.int .i64 0, .int .i64 0, .string ⟨#[]⟩, .int .u8 0, .int .u8 0, .int .u8 0, .int .u8 0, .int .u8 0, .int .u8 0, .int .u8 0, .int .u8 0, .int .u8 0, .int .u8 0, .int .u8 0, .int .u8 0, .int .u8 0, .int .u8 0, .int .u8 0, .int .u8 0] 33)).setCells w1.heap.size 0 (reqL c n s zeros16) = w2 from hw2] at F
  clear hw2 hN1 h1c
  obtain ⟨hR2, hF2, hz2, hT2⟩ := F
  have hT2 : w2.there w1.heap.size 0 19 := hT2
  have hB2 := hB0.trans (hF2.mono hB0.size)
  have ht2 := there_below ht0 hF2 hz0
  have hi0' : (Tryd.prog.info? 33).map (·.size) = some (reqL c n s zeros16).length := by rw [reqL_length _ _ _ _ rfl]; exact iszR
  clear hB0 ht0 hF2 hi0
  simp only [Act.put]
  generalize Value.agg #[Value.int IntKind.i64 c, Value.int IntKind.i64 n, Value.string s, Value.int IntKind.u8 0, Value.int IntKind.u8 0, Value.int IntKind.u8 0, Value.int IntKind.u8 0, Value.int IntKind.u8 0, Value.int IntKind.u8 0, Value.int IntKind.u8 0, Value.int IntKind.u8 0, Value.int IntKind.u8 0, Value.int IntKind.u8 0, Value.int IntKind.u8 0, Value.int IntKind.u8 0, Value.int IntKind.u8 0, Value.int IntKind.u8 0, Value.int IntKind.u8 0, Value.int IntKind.u8 0] = v18
  obtain ⟨X, hX⟩ : ∃ X, Hid (w.heap.size = X) := ⟨_, hide rfl⟩
  obtain ⟨Y, hY⟩ : ∃ Y, Hid (w1.heap.size = Y) := ⟨_, hide rfl⟩
  have hXY : X < Y := by rw [← hX.out, ← hY.out]; exact hz0
  have hY2 : Y < w2.heap.size := by rw [hz2, hY.out]; omega
  clear hz0 hz2
  rw [hX.out] at ht2 ⊢
  rw [hY.out] at hR2 hT2 ⊢
  have ck := klen_any p ds w2 (h.below hB2)
  have cm := fun w0 => mayBe_any c n 8 s zeros16 w0
  have hmb : decide (0 ≤ c ∧ c < 8 ∧ 1 ≤ n ∧ n ≤ 1099511627776 ∧ s.size ≤ 64) = true := decide_eq_true hm
  simp only [hmb] at cm
  clear hmb
  obtain ⟨q, hq⟩ : ∃ q, Hid (reqL c n s zeros16 = q) := ⟨_, hide rfl⟩
  rw [hq.out] at hR2 hi0'
  simp only [hq.out] at cm ct
  have hd0 : ((ds.length : Int) == 0) = false := by simp; exact List.ne_nil_of_length_pos hd
  have hd1 : ¬ (ds.length : Int) = 0 := by omega
  have HD := hide hd
  clear hd
  go_wp2_with fail
  refine ck.mono ?_
  rintro e w3 ⟨rfl, hx⟩
  obtain rfl := hx.symm
  clear hx ck
  go_upto_region 4 with fail
  try simp only [Act.put]
  refine wp_region_list ?_
  refine wpList_load_mid rfl 33 _ rfl _ _ rfl q _ hR2 Tryd.underlying33 rfl hi0' ?_
  go_wp2_with fail
  refine (cm w2).mono ?_
  rintro e w3 ⟨rfl, hw3⟩
  have hB3 := hB2.trans (hw3.mono hB2.size)
  have hR3 := range_below hR2 hw3 hY2
  have ht3 := there_below ht2 hw3 (by omega)
  have hY3 := Nat.lt_of_lt_of_le hY2 hw3.size
  have hB23 := hw3
  have hY2' := hY2
  clear hB2 hR2 ht2 hY2 cm hw3
  have ct3 := ct w3 (h.below hB3) (hG.below hB3)
  clear ct
  go_upto_region 6 with fail
  try simp only [Act.put]
  refine wp_region_list ?_
  refine wpList_step fun K hK => ?_
  go_simp
  refine hK _ _ ?_
  clear hK K
  refine wpList_step fun K hK => ?_
  go_simp
  refine hK _ _ ?_
  clear hK K
  refine wpList_load_mid rfl 33 _ rfl _ _ rfl q _ hR3 Tryd.underlying33 rfl hi0' ?_
  go_wp2_with fail
  refine ct3.mono ?_
  rintro e w4 ⟨rfl, hw4⟩
  clear ct3
  have hB4 := hB3.trans (hw4.mono hB3.size)
  have hR4 := range_below hR3 hw4 hY3
  have ht4 := there_below ht3 hw4 (by omega)
  have hY4 := Nat.lt_of_lt_of_le hY3 hw4.size
  have hT4 := there_below hT2 (hB23.trans (hw4.mono hB23.size)) hY2'
  clear hB3 hR3 ht3 hY3 hw4 hT2 hB23 hY2'
  have F := fresh_store w4 (Array.replicate 16 (.int .u8 0)) 31 r (by simpa using hrl.out)
  have hN4 : (w4.alloc (.cells (Array.replicate 16 (.int .u8 0)) 31)).there w4.heap.size 0 r.toArray.size := by
    have := there_new w4 (Array.replicate 16 (.int .u8 0)) 31
    have e : r.toArray.size = 16 := by have := hrl.out; simpa using this
    rw [e]; exact this
  go_upto_region 7 with (refine wpList_store_mid (op := ⟨none, .store 31 (.tmp 13) (.tmp 34), _, _, _, none⟩) rfl 31 _ _ rfl _ _ r.toArray rfl rfl hN4 hir hor ?_)
  go_name_world w5 hw5
  rw [show (w4.alloc (.cells (Array.replicate 16 (.int .u8 0)) 31)).setCells w4.heap.size 0 r = w5 from hw5] at F
  clear hw5 hN4
  obtain ⟨hR5t, hF5, hz5, _⟩ := F
  have hB5 := hB4.trans (hF5.mono hB4.size)
  have hR5 := range_below hR4 hF5 hY4
  have ht5 := there_below ht4 hF5 (by omega)
  have hT5 := there_below hT4 hF5 hY4
  obtain ⟨Z, hZ⟩ : ∃ Z, Hid (w4.heap.size = Z) := ⟨_, hide rfl⟩
  rw [hZ.out] at hR5t hY4 hz5 ⊢
  clear hB4 hR4 ht4 hF5 hT4
  try simp only [Act.put]
  have hne0 : (er == 0) = false := by simpa using hne
  have hlit := litReq
  have hi := iszN
  have ho := all_oneCell_toArray (reqL_one 0 0 ⟨#[]⟩ zeros16)
  change (noReq.toArray.all fun x => x.oneCell') = true at ho
  have hzl : noReq.toArray.size = 19 := by rw [List.size_toArray]; exact reqL_length _ _ _ _ rfl
  obtain ⟨zs, hzs⟩ : ∃ zs, Hid (noReq = zs) := ⟨_, hide rfl⟩
  rw [hzs.out] at hlit hi ho hzl
  rw [← hzl] at ht5
  have hi' : (Tryd.prog.info? 33).map (·.size) = some zs.length := by simpa using hi
  have hzl' := hide hzl
  clear hzl
  have hrs := run_loadVar_mid (P := Tryd.prog) (w5.setCells X 0 zs) X 0 33 zs _ (World.rangeAt_setCells_same w5 X 0 zs (by have := ht5; simpa using this)) Tryd.underlying33 rfl hi'
  have hBl : Below w.heap.size w (w5.setCells X 0 zs) := below_sets (by rw [hX.out]; exact Nat.le_refl _) _ 0 w5 hB5
  go_wp2_with (refine wpList_store_mid rfl 33 _ _ rfl _ _ zs.toArray rfl rfl ht5 hi ho ?_)
  exact bodyPost_ret (v := .tuple #[.agg zs.toArray, .int .i64 er]) (by simp [results, Tryd.results10, asAddr, hrs]) rfl ⟨by rw [hzs.out], hBl⟩
set_option maxRecDepth 100000 in
set_option maxHeartbeats 2000000 in
theorem make_yes (p : Option Addr) (ds : List (List Int)) (N c n : Int) (s : ByteArray) (w : World) (h : KeysAt w p ds) (hG : Glob w) (hd : 0 < ds.length) (hm : 0 ≤ c ∧ c < 8 ∧ 1 ≤ n ∧ n ≤ 1099511627776 ∧ s.size ≤ 64) (hne : (tagV ds N c n s).2 = 0) :
   Calls Tryd.prog 10 #[.pointer p, .int .i64 N, .int .i64 c, .int .i64 n, .string s] w fun e w' => e = .returned (.tuple #[.agg (reqL c n s (tagV ds N c n s).1).toArray, .int .i64 0]) ∧ Below w.heap.size w w' := by
  have ct := fun w0 h0 hG0 => tag_any p ds N c n s zeros16 w0 h0 hG0 rfl (by omega) (by omega) (by omega) (by omega)
  have hrl0 := tagV_length ds N c n s
  obtain ⟨er, her⟩ : ∃ er, Hid ((tagV ds N c n s).2 = er) := ⟨_, hide rfl⟩
  obtain ⟨r0, hr0⟩ : ∃ r0, Hid ((tagV ds N c n s).1 = r0) := ⟨_, hide rfl⟩
  simp only [her.out, hr0.out] at ct
  rw [hr0.out] at hrl0
  rw [her.out] at hne
  rw [hr0.out]
  subst hne
  have hir := info16 r0 hrl0
  have hor := all_oneCell_toArray (v8_one r0)
  have hir' : (Tryd.prog.info? 31).map (·.size) = some (v8 r0).length := by rw [v8_length, hrl0]; exact iszT
  have hput := fun (w0 : World) (b0 : Nat) h1 h2 => @reqL_put w0 b0 c n s zeros16 r0 h1 hrl0 h2
  have hiR : (Tryd.prog.info? 33).map (·.size) = some (reqL c n s r0).toArray.size := by rw [List.size_toArray, reqL_length c n s r0 hrl0]; exact iszR
  have hoR := all_oneCell_toArray (reqL_one c n s r0)
  have hRl : (reqL c n s r0).toArray.size = 19 := by rw [List.size_toArray, reqL_length c n s r0 hrl0]
  have hrl : Hid ((v8 r0).length = 16) := by show _ = _; rw [v8_length, hrl0]
  obtain ⟨r, hr⟩ : ∃ r, Hid (v8 r0 = r) := ⟨_, hide rfl⟩
  obtain ⟨Q, hQ⟩ : ∃ Q, Hid (reqL c n s r0 = Q) := ⟨_, hide rfl⟩
  simp only [hr.out] at ct
  rw [hr.out] at hir hor hir' hrl
  rw [hQ.out] at hiR hoR hRl
  simp only [hr.out, hQ.out] at hput
  have hRl' := hide hRl
  have hiR' : (Tryd.prog.info? 33).map (·.size) = some Q.length := by simpa using hiR
  clear hrl0 hRl
  rw [hQ.out]
  have hi0 : (Tryd.prog.info? 33).map (·.size) = some (reqL c n s zeros16).toArray.size := by rw [List.size_toArray, reqL_length _ _ _ _ rfl]; exact iszR
  have h1c := all_oneCell_toArray (reqL_one c n s zeros16)
  have hB0 : Below w.heap.size w (w.alloc (.cells #[.int .i64 0, .int .i64 0, .string ⟨#[]⟩, .int .u8 0, .int .u8 0, .int .u8 0, .int .u8 0, .int .u8 0, .int .u8 0, .int .u8 0, .int .u8 0, .int .u8 0, .int .u8 0, .int .u8 0, .int .u8 0, .int .u8 0, .int .u8 0, .int .u8 0, .int .u8 0] 33)) := (Below.refl _ _).alloc (Nat.le_refl _) _
  have ht0 : (w.alloc (.cells #[.int .i64 0, .int .i64 0, .string ⟨#[]⟩, .int .u8 0, .int .u8 0, .int .u8 0, .int .u8 0, .int .u8 0, .int .u8 0, .int .u8 0, .int .u8 0, .int .u8 0, .int .u8 0, .int .u8 0, .int .u8 0, .int .u8 0, .int .u8 0, .int .u8 0, .int .u8 0] 33)).there w.heap.size 0 19 := there_new w #[.int .i64 0, .int .i64 0, .string ⟨#[]⟩, .int .u8 0, .int .u8 0, .int .u8 0, .int .u8 0, .int .u8 0, .int .u8 0, .int .u8 0, .int .u8 0, .int .u8 0, .int .u8 0, .int .u8 0, .int .u8 0, .int .u8 0, .int .u8 0, .int .u8 0, .int .u8 0] 33
  have hz0 : w.heap.size < (w.alloc (.cells #[.int .i64 0, .int .i64 0, .string ⟨#[]⟩, .int .u8 0, .int .u8 0, .int .u8 0, .int .u8 0, .int .u8 0, .int .u8 0, .int .u8 0, .int .u8 0, .int .u8 0, .int .u8 0, .int .u8 0, .int .u8 0, .int .u8 0, .int .u8 0, .int .u8 0, .int .u8 0] 33)).heap.size := by simp
  go_enter Tryd.func10, Tryd.ntmps10
  go_upto_region 1 with fail
  go_name_world w1 hw1
  rw [show w.alloc (.cells #[.int .i64 0, .int .i64 0, .string ⟨#[]⟩, .int .u8 0, .int .u8 0, .int .u8 0, .int .u8 0, .int .u8 0, .int .u8 0, .int .u8 0, .int .u8 0, .int .u8 0, .int .u8 0, .int .u8 0, .int .u8 0, .int .u8 0, .int .u8 0, .int .u8 0, .int .u8 0] 33) = w1 from hw1] at ht0 hB0 hz0
  clear hw1
  have F := fresh_store w1 #[.int .i64 0, .int .i64 0, .string ⟨#[]⟩, .int .u8 0, .int .u8 0, .int .u8 0, .int .u8 0, .int .u8 0, .int .u8 0, .int .u8 0, .int .u8 0, .int .u8 0, .int .u8 0, .int .u8 0, .int .u8 0, .int .u8 0, .int .u8 0, .int .u8 0, .int .u8 0] 33 (reqL c n s zeros16) (by rw [reqL_length _ _ _ _ rfl]; rfl)
  have hN1 : (w1.alloc (.cells #[.int .i64 0, .int .i64 0, .string ⟨#[]⟩, .int .u8 0, .int .u8 0, .int .u8 0, .int .u8 0, .int .u8 0, .int .u8 0, .int .u8 0, .int .u8 0, .int .u8 0, .int .u8 0, .int .u8 0, .int .u8 0, .int .u8 0, .int .u8 0, .int .u8 0, .int .u8 0] 33)).there w1.heap.size 0 (reqL c n s zeros16).toArray.size := there_new w1 #[.int .i64 0, .int .i64 0, .string ⟨#[]⟩, .int .u8 0, .int .u8 0, .int .u8 0, .int .u8 0, .int .u8 0, .int .u8 0, .int .u8 0, .int .u8 0, .int .u8 0, .int .u8 0, .int .u8 0, .int .u8 0, .int .u8 0, .int .u8 0, .int .u8 0, .int .u8 0] 33
  go_upto_region 2 with (refine wpList_store_mid (op := ⟨none, .store 33 (.tmp 12) (.tmp 18), _, _, _, none⟩) rfl 33 _ _ rfl _ _ (reqL c n s zeros16).toArray rfl rfl hN1 hi0 h1c ?_)
  go_name_world w2 hw2
  rw [show (w1.alloc (.cells #[.int .i64 0, .int .i64 0, .string ⟨#[]⟩, .int .u8 0, .int .u8 0, .int .u8 0, .int .u8 0, .int .u8 0, .int .u8 0, .int .u8 0, .int .u8 0, .int .u8 0, .int .u8 0, .int .u8 0, .int .u8 0, .int .u8 0, .int .u8 0, .int .u8 0, .int .u8 0] 33)).setCells w1.heap.size 0 (reqL c n s zeros16) = w2 from hw2] at F
  clear hw2 hN1 h1c
  obtain ⟨hR2, hF2, hz2, hT2⟩ := F
  have hT2 : w2.there w1.heap.size 0 19 := hT2
  have hB2 := hB0.trans (hF2.mono hB0.size)
  have ht2 := there_below ht0 hF2 hz0
  have hi0' : (Tryd.prog.info? 33).map (·.size) = some (reqL c n s zeros16).length := by rw [reqL_length _ _ _ _ rfl]; exact iszR
  clear hB0 ht0 hF2 hi0
  simp only [Act.put]
  generalize Value.agg #[Value.int IntKind.i64 c, Value.int IntKind.i64 n, Value.string s, Value.int IntKind.u8 0, Value.int IntKind.u8 0, Value.int IntKind.u8 0, Value.int IntKind.u8 0, Value.int IntKind.u8 0, Value.int IntKind.u8 0, Value.int IntKind.u8 0, Value.int IntKind.u8 0, Value.int IntKind.u8 0, Value.int IntKind.u8 0, Value.int IntKind.u8 0, Value.int IntKind.u8 0, Value.int IntKind.u8 0, Value.int IntKind.u8 0, Value.int IntKind.u8 0, Value.int IntKind.u8 0] = v18
  obtain ⟨X, hX⟩ : ∃ X, Hid (w.heap.size = X) := ⟨_, hide rfl⟩
  obtain ⟨Y, hY⟩ : ∃ Y, Hid (w1.heap.size = Y) := ⟨_, hide rfl⟩
  have hXY : X < Y := by rw [← hX.out, ← hY.out]; exact hz0
  have hY2 : Y < w2.heap.size := by rw [hz2, hY.out]; omega
  clear hz0 hz2
  rw [hX.out] at ht2 ⊢
  rw [hY.out] at hR2 hT2 ⊢
  have ck := klen_any p ds w2 (h.below hB2)
  have cm := fun w0 => mayBe_any c n 8 s zeros16 w0
  have hmb : decide (0 ≤ c ∧ c < 8 ∧ 1 ≤ n ∧ n ≤ 1099511627776 ∧ s.size ≤ 64) = true := decide_eq_true hm
  simp only [hmb] at cm
  clear hmb
  obtain ⟨q, hq⟩ : ∃ q, Hid (reqL c n s zeros16 = q) := ⟨_, hide rfl⟩
  rw [hq.out] at hR2 hi0'
  simp only [hq.out] at cm ct
  simp only [hq.out] at hput
  have hd0 : ((ds.length : Int) == 0) = false := by simp; exact List.ne_nil_of_length_pos hd
  have hd1 : ¬ (ds.length : Int) = 0 := by omega
  have HD := hide hd
  clear hd
  go_wp2_with fail
  refine ck.mono ?_
  rintro e w3 ⟨rfl, hx⟩
  obtain rfl := hx.symm
  clear hx ck
  go_upto_region 4 with fail
  try simp only [Act.put]
  refine wp_region_list ?_
  refine wpList_load_mid rfl 33 _ rfl _ _ rfl q _ hR2 Tryd.underlying33 rfl hi0' ?_
  go_wp2_with fail
  refine (cm w2).mono ?_
  rintro e w3 ⟨rfl, hw3⟩
  have hB3 := hB2.trans (hw3.mono hB2.size)
  have hR3 := range_below hR2 hw3 hY2
  have ht3 := there_below ht2 hw3 (by omega)
  have hY3 := Nat.lt_of_lt_of_le hY2 hw3.size
  have hB23 := hw3
  have hY2' := hY2
  clear hB2 hR2 ht2 hY2 cm hw3
  have ct3 := ct w3 (h.below hB3) (hG.below hB3)
  clear ct
  go_upto_region 6 with fail
  try simp only [Act.put]
  refine wp_region_list ?_
  refine wpList_step fun K hK => ?_
  go_simp
  refine hK _ _ ?_
  clear hK K
  refine wpList_step fun K hK => ?_
  go_simp
  refine hK _ _ ?_
  clear hK K
  refine wpList_load_mid rfl 33 _ rfl _ _ rfl q _ hR3 Tryd.underlying33 rfl hi0' ?_
  go_wp2_with fail
  refine ct3.mono ?_
  rintro e w4 ⟨rfl, hw4⟩
  clear ct3
  have hB4 := hB3.trans (hw4.mono hB3.size)
  have hR4 := range_below hR3 hw4 hY3
  have ht4 := there_below ht3 hw4 (by omega)
  have hY4 := Nat.lt_of_lt_of_le hY3 hw4.size
  have hT4 := there_below hT2 (hB23.trans (hw4.mono hB23.size)) hY2'
  clear hB3 hR3 ht3 hY3 hw4 hT2 hB23 hY2'
  have F := fresh_store w4 (Array.replicate 16 (.int .u8 0)) 31 r (by simpa using hrl.out)
  have hN4 : (w4.alloc (.cells (Array.replicate 16 (.int .u8 0)) 31)).there w4.heap.size 0 r.toArray.size := by
    have := there_new w4 (Array.replicate 16 (.int .u8 0)) 31
    have e : r.toArray.size = 16 := by have := hrl.out; simpa using this
    rw [e]; exact this
  go_upto_region 7 with (refine wpList_store_mid (op := ⟨none, .store 31 (.tmp 13) (.tmp 34), _, _, _, none⟩) rfl 31 _ _ rfl _ _ r.toArray rfl rfl hN4 hir hor ?_)
  go_name_world w5 hw5
  rw [show (w4.alloc (.cells (Array.replicate 16 (.int .u8 0)) 31)).setCells w4.heap.size 0 r = w5 from hw5] at F
  clear hw5 hN4
  obtain ⟨hR5t, hF5, hz5, _⟩ := F
  have hB5 := hB4.trans (hF5.mono hB4.size)
  have hR5 := range_below hR4 hF5 hY4
  have ht5 := there_below ht4 hF5 (by omega)
  have hT5 := there_below hT4 hF5 hY4
  obtain ⟨Z, hZ⟩ : ∃ Z, Hid (w4.heap.size = Z) := ⟨_, hide rfl⟩
  rw [hZ.out] at hR5t hY4 hz5 ⊢
  clear hB4 hR4 ht4 hF5 hT4
  try simp only [Act.put]
  have hR6 := hput w5 Y hR5 hT5
  have er16 : r.toArray.size = 16 := by have := hrl.out; simpa using this
  have hT6 : w5.there Y 3 r.toArray.size := by have := there_part hT5 3 16 (by omega); rw [er16]; simpa using this
  clear er16
  have hB6 : Below w.heap.size w (w5.setCells Y 3 r) := below_sets (by rw [hX.out]; omega) _ 3 w5 hB5
  have ht6 : (w5.setCells Y 3 r).there X 0 19 := World.there_setCells ht5 _ _ _
  go_upto_region 9 with fail
  try simp only [Act.put]
  refine wp_region_list ?_
  refine wpList_load_mid rfl 31 _ rfl _ _ rfl r _ hR5t Tryd.underlying31 rfl hir' ?_
  refine wpList_step fun K hK => ?_
  go_simp
  refine hK _ _ ?_
  clear hK K
  refine wpList_store_mid rfl 31 _ _ rfl _ _ r.toArray rfl rfl hT6 hir hor ?_
  obtain ⟨w6, hw6⟩ : ∃ w6, w5.setCells Y 3 r = w6 := ⟨_, rfl⟩
  rw [show w5.setCells Y 3 r.toArray.toList = w6 from hw6]
  rw [hw6] at hR6 hB6 ht6
  clear hw6 hR5t hR5 hT5 ht5 hB5 hT6
  go_upto_region 10 with fail
  try simp only [Act.put]
  refine wp_region_list ?_
  refine wpList_load_mid rfl 33 _ rfl _ _ rfl Q _ hR6 Tryd.underlying33 rfl hiR' ?_
  rw [← hRl'.out] at ht6
  have hrs := run_loadVar_mid (P := Tryd.prog) (w6.setCells X 0 Q) X 0 33 Q _ (World.rangeAt_setCells_same w6 X 0 Q (by have := ht6; simpa using this)) Tryd.underlying33 rfl hiR'
  have hBl : Below w.heap.size w (w6.setCells X 0 Q) := below_sets (by rw [hX.out]; exact Nat.le_refl _) _ 0 w6 hB6
  refine wpList_store_mid rfl 33 _ _ rfl _ _ Q.toArray rfl rfl ht6 hiR hoR ?_
  go_wp2_with fail
  exact bodyPost_ret (v := .tuple #[.agg Q.toArray, .int .i64 0]) (by simp [results, Tryd.results10, asAddr, hrs]) rfl ⟨rfl, hBl⟩
def makeV (ds : List (List Int)) (N c n : Int) (s : ByteArray) : List Value × Int :=
  if ds.length = 0 then (noReq, 1) else if ¬ (0 ≤ c ∧ c < 8 ∧ 1 ≤ n ∧ n ≤ 1099511627776 ∧ s.size ≤ 64) then (noReq, 60)
  else if (tagV ds N c n s).2 ≠ 0 then (noReq, (tagV ds N c n s).2) else (reqL c n s (tagV ds N c n s).1, 0)
theorem make_any (p : Option Addr) (ds : List (List Int)) (N c n : Int) (s : ByteArray) (w : World) (h : KeysAt w p ds) (hG : Glob w) :
   Calls Tryd.prog 10 #[.pointer p, .int .i64 N, .int .i64 c, .int .i64 n, .string s] w fun e w' => e = .returned (.tuple #[.agg (makeV ds N c n s).1.toArray, .int .i64 (makeV ds N c n s).2]) ∧ Below w.heap.size w w' := by
  unfold makeV
  by_cases h0 : ds.length = 0
  · rw [if_pos h0]
    obtain rfl : ds = [] := List.eq_nil_of_length_eq_zero h0
    exact make_none p N c n s w h
  · rw [if_neg h0]
    by_cases hm : 0 ≤ c ∧ c < 8 ∧ 1 ≤ n ∧ n ≤ 1099511627776 ∧ s.size ≤ 64
    · rw [if_neg (fun q => q hm)]
      by_cases hne : (tagV ds N c n s).2 = 0
      · rw [if_neg (fun q => q hne)]; exact make_yes p ds N c n s w h hG (by omega) hm hne
      · rw [if_pos hne]; exact make_noC p ds N c n s w h hG (by omega) hm hne
    · rw [if_pos hm]; exact make_noB p ds N c n s w h (by omega) hm
end Go.Proofs.YtbfhpgneaklgoabDoor
