/- request.Good: contracts -/
import Derived.Test.YtinpbnkmpplkiaaDoorRq5
namespace Go.Proofs.YtinpbnkmpplkiaaDoor
open Go.RowKit
open Sha Tal
theorem reqL_tag {w : World} {b : Nat} {c n : Int} {s : ByteArray} {t : List Int} (h : w.rangeAt b 0 (reqL c n s t)) : w.rangeAt b 3 (v8 t) := by
  have e : reqL c n s t = [.int .i64 c, .int .i64 n, .string s] ++ v8 t := rfl
  rw [e] at h
  exact range_right h
set_option maxRecDepth 100000 in
set_option maxHeartbeats 2000000 in
theorem good_none (p : Option Addr) (ds : List (List Int)) (N m c n : Int) (s : ByteArray) (t : List Int) (w : World) (h : KeysAt w p ds) (hd : ds.length = 0) :
   Calls Tryd.prog 33 #[.pointer p, .int .i64 N, .int .i64 m, .agg (reqL c n s t).toArray] w fun e w' => e = .returned (.int .i64 1) ∧ Below w.heap.size w w' := by
  have hB1 : Below w.heap.size w (w.alloc (.cells (reqL c n s t).toArray 60)) := (Below.refl _ _).alloc (Nat.le_refl _) _
  have hR1 := req_cells w c n s t
  have hz1 : w.heap.size < (w.alloc (.cells (reqL c n s t).toArray 60)).heap.size := by simp
  obtain ⟨q, hq⟩ : ∃ q, Hid (reqL c n s t = q) := ⟨_, hide rfl⟩
  rw [hq.out] at hB1 hR1 hz1 ⊢
  go_enter Tryd.func33, Tryd.ntmps33
  go_upto_region 1 with fail
  go_name_world w1 hw1
  rw [hw1] at hB1 hR1 hz1
  clear hw1
  obtain ⟨X, hX⟩ : ∃ X, Hid (w.heap.size = X) := ⟨_, hide rfl⟩
  rw [hX.out] at hR1 hz1 ⊢
  have ck := klen_any p ds w1 (h.below hB1)
  obtain rfl : ds = [] := List.eq_nil_of_length_eq_zero hd
  simp only [List.length_nil] at ck
  clear hR1
  go_wp2_with (go_at_call 55; refine ck.mono ?_; rintro e w3 ⟨rfl, hx⟩; obtain rfl := hx.symm; clear hx)
  go_ret
  exact ⟨rfl, hB1⟩
set_option maxRecDepth 100000 in
set_option maxHeartbeats 2000000 in
theorem good_noB (p : Option Addr) (ds : List (List Int)) (N m c n : Int) (s : ByteArray) (t : List Int) (w : World) (h : KeysAt w p ds) (hd : 0 < ds.length) (ht : t.length = 16) (hm : ¬ (0 ≤ c ∧ c < m ∧ 1 ≤ n ∧ n ≤ 1099511627776 ∧ s.size ≤ 64)) :
   Calls Tryd.prog 33 #[.pointer p, .int .i64 N, .int .i64 m, .agg (reqL c n s t).toArray] w fun e w' => e = .returned (.int .i64 60) ∧ Below w.heap.size w w' := by
  have hB1 : Below w.heap.size w (w.alloc (.cells (reqL c n s t).toArray 60)) := (Below.refl _ _).alloc (Nat.le_refl _) _
  have hR1 := req_cells w c n s t
  have hz1 : w.heap.size < (w.alloc (.cells (reqL c n s t).toArray 60)).heap.size := by simp
  have cm := fun w0 => mayBe_any c n m s t w0
  have hmb : decide (0 ≤ c ∧ c < m ∧ 1 ≤ n ∧ n ≤ 1099511627776 ∧ s.size ≤ 64) = false := decide_eq_false hm
  simp only [hmb] at cm
  clear hmb
  have hi0' : (Tryd.prog.info? 60).map (·.size) = some (reqL c n s t).length := by rw [reqL_length _ _ _ _ ht]; exact iszR
  obtain ⟨q, hq⟩ : ∃ q, Hid (reqL c n s t = q) := ⟨_, hide rfl⟩
  rw [hq.out] at hB1 hR1 hz1 ⊢
  rw [hq.out] at hi0'
  simp only [hq.out] at cm
  go_enter Tryd.func33, Tryd.ntmps33
  go_upto_region 1 with fail
  go_name_world w1 hw1
  rw [hw1] at hB1 hR1 hz1
  clear hw1
  obtain ⟨X, hX⟩ : ∃ X, Hid (w.heap.size = X) := ⟨_, hide rfl⟩
  rw [hX.out] at hR1 hz1 ⊢
  have ck := klen_any p ds w1 (h.below hB1)
  have hd1 : ¬ (ds.length : Int) = 0 := by omega
  clear hd
  go_wp2_with fail
  refine ck.mono ?_
  rintro e w3 ⟨rfl, hx⟩
  obtain rfl := hx.symm
  clear hx ck
  go_upto_region 3 with fail
  try simp only [Act.put]
  refine wp_region_list ?_
  refine wpList_load_mid rfl 60 _ rfl _ _ rfl q _ hR1 Tryd.underlying60 rfl hi0' ?_
  go_wp2_with fail
  refine (cm w1).mono ?_
  rintro e w3 ⟨rfl, hw3⟩
  have hB3 := hB1.trans (hw3.mono hB1.size)
  have hR3 := range_below hR1 hw3 hz1
  have hz3 := Nat.lt_of_lt_of_le hz1 hw3.size
  clear hB1 hR1 hz1 cm hw3
  go_wp2_with fail
  go_ret
  exact ⟨rfl, hB3⟩
set_option maxRecDepth 100000 in
set_option maxHeartbeats 2000000 in
theorem good_noC (p : Option Addr) (ds : List (List Int)) (N m c n : Int) (s : ByteArray) (t : List Int) (w : World) (h : KeysAt w p ds) (hG : Glob w) (hd : 0 < ds.length) (ht : t.length = 16) (hcm : c ≤ 9223372036854775807) (hm : 0 ≤ c ∧ c < m ∧ 1 ≤ n ∧ n ≤ 1099511627776 ∧ s.size ≤ 64) (hne : (tagV ds N c n s).2 ≠ 0) :
   Calls Tryd.prog 33 #[.pointer p, .int .i64 N, .int .i64 m, .agg (reqL c n s t).toArray] w fun e w' => e = .returned (.int .i64 61) ∧ Below w.heap.size w w' := by
  have hB1 : Below w.heap.size w (w.alloc (.cells (reqL c n s t).toArray 60)) := (Below.refl _ _).alloc (Nat.le_refl _) _
  have hR1 := req_cells w c n s t
  have hz1 : w.heap.size < (w.alloc (.cells (reqL c n s t).toArray 60)).heap.size := by simp
  have cm := fun w0 => mayBe_any c n m s t w0
  have hmb : decide (0 ≤ c ∧ c < m ∧ 1 ≤ n ∧ n ≤ 1099511627776 ∧ s.size ≤ 64) = true := decide_eq_true hm
  simp only [hmb] at cm
  clear hmb
  have hi0' : (Tryd.prog.info? 60).map (·.size) = some (reqL c n s t).length := by rw [reqL_length _ _ _ _ ht]; exact iszR
  have ct := fun w0 h0 hG0 => tag_any p ds N c n s t w0 h0 hG0 ht (by omega) hcm (by omega) (by omega)
  have hrl0 := tagV_length ds N c n s
  obtain ⟨er, her⟩ : ∃ er, Hid ((tagV ds N c n s).2 = er) := ⟨_, hide rfl⟩
  obtain ⟨r0, hr0⟩ : ∃ r0, Hid ((tagV ds N c n s).1 = r0) := ⟨_, hide rfl⟩
  simp only [her.out, hr0.out] at ct
  rw [hr0.out] at hrl0
  rw [her.out] at hne
  have hir := info16 r0 hrl0
  have hor := all_oneCell_toArray (v8_one r0)
  have hir' : (Tryd.prog.info? 58).map (·.size) = some (v8 r0).length := by rw [v8_length, hrl0]; exact iszT
  have hneq := neq16 r0 t hrl0 ht
  have hit' : (Tryd.prog.info? 58).map (·.size) = some (v8 t).length := by rw [v8_length, ht]; exact iszT
  have htg := fun (w0 : World) (b0 : Nat) h1 => @reqL_tag w0 b0 c n s t h1
  have hrl : Hid ((v8 r0).length = 16) := by show _ = _; rw [v8_length, hrl0]
  obtain ⟨r, hr⟩ : ∃ r, Hid (v8 r0 = r) := ⟨_, hide rfl⟩
  obtain ⟨tt, htt⟩ : ∃ tt, Hid (v8 t = tt) := ⟨_, hide rfl⟩
  simp only [hr.out] at ct
  rw [hr.out] at hir hor hir' hrl
  simp only [hr.out, htt.out] at hneq
  simp only [htt.out] at htg
  rw [htt.out] at hit'
  clear hrl0
  obtain ⟨q, hq⟩ : ∃ q, Hid (reqL c n s t = q) := ⟨_, hide rfl⟩
  rw [hq.out] at hB1 hR1 hz1 ⊢
  rw [hq.out] at hi0'
  simp only [hq.out] at cm ct htg
  go_enter Tryd.func33, Tryd.ntmps33
  go_upto_region 1 with fail
  go_name_world w1 hw1
  rw [hw1] at hB1 hR1 hz1
  clear hw1
  obtain ⟨X, hX⟩ : ∃ X, Hid (w.heap.size = X) := ⟨_, hide rfl⟩
  rw [hX.out] at hR1 hz1 ⊢
  have ck := klen_any p ds w1 (h.below hB1)
  have hd1 : ¬ (ds.length : Int) = 0 := by omega
  clear hd
  go_wp2_with fail
  refine ck.mono ?_
  rintro e w3 ⟨rfl, hx⟩
  obtain rfl := hx.symm
  clear hx ck
  go_upto_region 3 with fail
  try simp only [Act.put]
  refine wp_region_list ?_
  refine wpList_load_mid rfl 60 _ rfl _ _ rfl q _ hR1 Tryd.underlying60 rfl hi0' ?_
  go_wp2_with fail
  refine (cm w1).mono ?_
  rintro e w3 ⟨rfl, hw3⟩
  have hB3 := hB1.trans (hw3.mono hB1.size)
  have hR3 := range_below hR1 hw3 hz1
  have hz3 := Nat.lt_of_lt_of_le hz1 hw3.size
  clear hB1 hR1 hz1 cm hw3
  have ct3 := ct w3 (h.below hB3) (hG.below hB3)
  clear ct
  go_upto_region 5 with fail
  try simp only [Act.put]
  refine wp_region_list ?_
  refine wpList_step fun K hK => ?_
  go_simp
  refine hK _ _ ?_
  clear hK K
  refine wpList_step fun K hK => ?_
  go_simp
  refine hK _ _ ?_
  clear hK K
  refine wpList_load_mid rfl 60 _ rfl _ _ rfl q _ hR3 Tryd.underlying60 rfl hi0' ?_
  go_wp2_with fail
  refine ct3.mono ?_
  rintro e w4 ⟨rfl, hw4⟩
  clear ct3
  have hB4 := hB3.trans (hw4.mono hB3.size)
  have hR4 := range_below hR3 hw4 hz3
  have hz4 := Nat.lt_of_lt_of_le hz3 hw4.size
  clear hB3 hR3 hz3 hw4
  have F := fresh_store w4 (Array.replicate 16 (.int .u8 0)) 58 r (by simpa using hrl.out)
  have hN4 : (w4.alloc (.cells (Array.replicate 16 (.int .u8 0)) 58)).there w4.heap.size 0 r.toArray.size := by
    have := there_new w4 (Array.replicate 16 (.int .u8 0)) 58
    have e : r.toArray.size = 16 := by have := hrl.out; simpa using this
    rw [e]; exact this
  go_upto_region 6 with (refine wpList_store_mid (op := ⟨none, .store 58 (.tmp 9) (.tmp 25), _, _, _, none⟩) rfl 58 _ _ rfl _ _ r.toArray rfl rfl hN4 hir hor ?_)
  go_name_world w5 hw5
  rw [show (w4.alloc (.cells (Array.replicate 16 (.int .u8 0)) 58)).setCells w4.heap.size 0 r = w5 from hw5] at F
  clear hw5 hN4
  obtain ⟨hR5t, hF5, hz5, _⟩ := F
  have hB5 := hB4.trans (hF5.mono hB4.size)
  have hR5 := htg w5 X (range_below hR4 hF5 hz4)
  obtain ⟨Z, hZ⟩ : ∃ Z, Hid (w4.heap.size = Z) := ⟨_, hide rfl⟩
  rw [hZ.out] at hR5t hz4 hz5 ⊢
  clear hB4 hR4 hF5 htg
  try simp only [Act.put]
  have hne0 : (er == 0) = false := by simpa using hne
  go_wp2_with fail
  go_ret
  exact ⟨rfl, hB5⟩
set_option maxRecDepth 100000 in
set_option maxHeartbeats 2000000 in
theorem good_last (p : Option Addr) (ds : List (List Int)) (N m c n : Int) (s : ByteArray) (t : List Int) (w : World) (h : KeysAt w p ds) (hG : Glob w) (hd : 0 < ds.length) (ht : t.length = 16) (hcm : c ≤ 9223372036854775807) (hm : 0 ≤ c ∧ c < m ∧ 1 ≤ n ∧ n ≤ 1099511627776 ∧ s.size ≤ 64) (hne : (tagV ds N c n s).2 = 0) :
   Calls Tryd.prog 33 #[.pointer p, .int .i64 N, .int .i64 m, .agg (reqL c n s t).toArray] w fun e w' => e = .returned (.int .i64 (if (tagV ds N c n s).1 = t then 0 else 61)) ∧ Below w.heap.size w w' := by
  have hB1 : Below w.heap.size w (w.alloc (.cells (reqL c n s t).toArray 60)) := (Below.refl _ _).alloc (Nat.le_refl _) _
  have hR1 := req_cells w c n s t
  have hz1 : w.heap.size < (w.alloc (.cells (reqL c n s t).toArray 60)).heap.size := by simp
  have cm := fun w0 => mayBe_any c n m s t w0
  have hmb : decide (0 ≤ c ∧ c < m ∧ 1 ≤ n ∧ n ≤ 1099511627776 ∧ s.size ≤ 64) = true := decide_eq_true hm
  simp only [hmb] at cm
  clear hmb
  have hi0' : (Tryd.prog.info? 60).map (·.size) = some (reqL c n s t).length := by rw [reqL_length _ _ _ _ ht]; exact iszR
  have ct := fun w0 h0 hG0 => tag_any p ds N c n s t w0 h0 hG0 ht (by omega) hcm (by omega) (by omega)
  have hrl0 := tagV_length ds N c n s
  obtain ⟨er, her⟩ : ∃ er, Hid ((tagV ds N c n s).2 = er) := ⟨_, hide rfl⟩
  obtain ⟨r0, hr0⟩ : ∃ r0, Hid ((tagV ds N c n s).1 = r0) := ⟨_, hide rfl⟩
  simp only [her.out, hr0.out] at ct
  rw [hr0.out] at hrl0
  rw [her.out] at hne
  rw [hr0.out]
  subst hne
  have hir := info16 r0 hrl0
  have hor := all_oneCell_toArray (v8_one r0)
  have hir' : (Tryd.prog.info? 58).map (·.size) = some (v8 r0).length := by rw [v8_length, hrl0]; exact iszT
  have hneq := neq16 r0 t hrl0 ht
  have hit' : (Tryd.prog.info? 58).map (·.size) = some (v8 t).length := by rw [v8_length, ht]; exact iszT
  have htg := fun (w0 : World) (b0 : Nat) h1 => @reqL_tag w0 b0 c n s t h1
  have hrl : Hid ((v8 r0).length = 16) := by show _ = _; rw [v8_length, hrl0]
  obtain ⟨r, hr⟩ : ∃ r, Hid (v8 r0 = r) := ⟨_, hide rfl⟩
  obtain ⟨tt, htt⟩ : ∃ tt, Hid (v8 t = tt) := ⟨_, hide rfl⟩
  simp only [hr.out] at ct
  rw [hr.out] at hir hor hir' hrl
  simp only [hr.out, htt.out] at hneq
  simp only [htt.out] at htg
  rw [htt.out] at hit'
  clear hrl0
  obtain ⟨q, hq⟩ : ∃ q, Hid (reqL c n s t = q) := ⟨_, hide rfl⟩
  rw [hq.out] at hB1 hR1 hz1 ⊢
  rw [hq.out] at hi0'
  simp only [hq.out] at cm ct htg
  go_enter Tryd.func33, Tryd.ntmps33
  go_upto_region 1 with fail
  go_name_world w1 hw1
  rw [hw1] at hB1 hR1 hz1
  clear hw1
  obtain ⟨X, hX⟩ : ∃ X, Hid (w.heap.size = X) := ⟨_, hide rfl⟩
  rw [hX.out] at hR1 hz1 ⊢
  have ck := klen_any p ds w1 (h.below hB1)
  have hd1 : ¬ (ds.length : Int) = 0 := by omega
  clear hd
  go_wp2_with fail
  refine ck.mono ?_
  rintro e w3 ⟨rfl, hx⟩
  obtain rfl := hx.symm
  clear hx ck
  go_upto_region 3 with fail
  try simp only [Act.put]
  refine wp_region_list ?_
  refine wpList_load_mid rfl 60 _ rfl _ _ rfl q _ hR1 Tryd.underlying60 rfl hi0' ?_
  go_wp2_with fail
  refine (cm w1).mono ?_
  rintro e w3 ⟨rfl, hw3⟩
  have hB3 := hB1.trans (hw3.mono hB1.size)
  have hR3 := range_below hR1 hw3 hz1
  have hz3 := Nat.lt_of_lt_of_le hz1 hw3.size
  clear hB1 hR1 hz1 cm hw3
  have ct3 := ct w3 (h.below hB3) (hG.below hB3)
  clear ct
  go_upto_region 5 with fail
  try simp only [Act.put]
  refine wp_region_list ?_
  refine wpList_step fun K hK => ?_
  go_simp
  refine hK _ _ ?_
  clear hK K
  refine wpList_step fun K hK => ?_
  go_simp
  refine hK _ _ ?_
  clear hK K
  refine wpList_load_mid rfl 60 _ rfl _ _ rfl q _ hR3 Tryd.underlying60 rfl hi0' ?_
  go_wp2_with fail
  refine ct3.mono ?_
  rintro e w4 ⟨rfl, hw4⟩
  clear ct3
  have hB4 := hB3.trans (hw4.mono hB3.size)
  have hR4 := range_below hR3 hw4 hz3
  have hz4 := Nat.lt_of_lt_of_le hz3 hw4.size
  clear hB3 hR3 hz3 hw4
  have F := fresh_store w4 (Array.replicate 16 (.int .u8 0)) 58 r (by simpa using hrl.out)
  have hN4 : (w4.alloc (.cells (Array.replicate 16 (.int .u8 0)) 58)).there w4.heap.size 0 r.toArray.size := by
    have := there_new w4 (Array.replicate 16 (.int .u8 0)) 58
    have e : r.toArray.size = 16 := by have := hrl.out; simpa using this
    rw [e]; exact this
  go_upto_region 6 with (refine wpList_store_mid (op := ⟨none, .store 58 (.tmp 9) (.tmp 25), _, _, _, none⟩) rfl 58 _ _ rfl _ _ r.toArray rfl rfl hN4 hir hor ?_)
  go_name_world w5 hw5
  rw [show (w4.alloc (.cells (Array.replicate 16 (.int .u8 0)) 58)).setCells w4.heap.size 0 r = w5 from hw5] at F
  clear hw5 hN4
  obtain ⟨hR5t, hF5, hz5, _⟩ := F
  have hB5 := hB4.trans (hF5.mono hB4.size)
  have hR5 := htg w5 X (range_below hR4 hF5 hz4)
  obtain ⟨Z, hZ⟩ : ∃ Z, Hid (w4.heap.size = Z) := ⟨_, hide rfl⟩
  rw [hZ.out] at hR5t hz4 hz5 ⊢
  clear hB4 hR4 hF5 htg
  try simp only [Act.put]
  refine wp_region_list ?_
  refine wpList_step fun K hK => ?_
  go_simp
  refine hK _ _ ?_
  clear hK K
  refine wpList_step fun K hK => ?_
  go_simp
  refine hK _ _ ?_
  clear hK K
  refine wpList_step fun K hK => ?_
  go_simp
  refine hK _ _ ?_
  clear hK K
  refine wpList_load_g (by rfl) 58 _ rfl _ _ rfl r _ hR5t Tryd.underlying58 rfl hir' ?_
  refine wpList_step fun K hK => ?_
  go_simp
  refine hK _ _ ?_
  clear hK K
  refine wpList_load_g (by rfl) 58 _ rfl _ _ rfl tt _ hR5 Tryd.underlying58 rfl hit' ?_
  clear hR5 hR5t
  by_cases hrt : r0 = t
  · have HRT := hide hrt
    have e : (r0 == t) = true := by simpa using hrt
    rw [e] at hneq
    clear hrt e
    go_wp2_with fail
    go_ret
    exact ⟨by first | rfl | rw [if_pos HRT.out], hB5⟩
  · have HRT := hide hrt
    have e : (r0 == t) = false := by simpa using hrt
    rw [e] at hneq
    clear hrt e
    go_wp2_with fail
    go_ret
    exact ⟨by first | rfl | rw [if_neg HRT.out], hB5⟩
def goodV (ds : List (List Int)) (N m c n : Int) (s : ByteArray) (t : List Int) : Int :=
  if ds.length = 0 then 1 else if ¬ (0 ≤ c ∧ c < m ∧ 1 ≤ n ∧ n ≤ 1099511627776 ∧ s.size ≤ 64) then 60
  else if (tagV ds N c n s).2 ≠ 0 then 61 else if (tagV ds N c n s).1 = t then 0 else 61
theorem good_any (p : Option Addr) (ds : List (List Int)) (N m c n : Int) (s : ByteArray) (t : List Int) (w : World) (h : KeysAt w p ds) (hG : Glob w) (ht : t.length = 16) (hcm : c ≤ 9223372036854775807) :
   Calls Tryd.prog 33 #[.pointer p, .int .i64 N, .int .i64 m, .agg (reqL c n s t).toArray] w fun e w' => e = .returned (.int .i64 (goodV ds N m c n s t)) ∧ Below w.heap.size w w' := by
  unfold goodV
  by_cases h0 : ds.length = 0
  · rw [if_pos h0]; exact good_none p ds N m c n s t w h h0
  · rw [if_neg h0]
    by_cases hm : 0 ≤ c ∧ c < m ∧ 1 ≤ n ∧ n ≤ 1099511627776 ∧ s.size ≤ 64
    · have h1 : ¬ ¬ (0 ≤ c ∧ c < m ∧ 1 ≤ n ∧ n ≤ 1099511627776 ∧ s.size ≤ 64) := fun q => q hm
      rw [if_neg h1]
      by_cases hne : (tagV ds N c n s).2 = 0
      · have h2 : ¬ (tagV ds N c n s).2 ≠ 0 := fun q => q hne
        rw [if_neg h2]; exact good_last p ds N m c n s t w h hG (by omega) ht hcm hm hne
      · rw [if_pos hne]; exact good_noC p ds N m c n s t w h hG (by omega) ht hcm hm hne
    · rw [if_pos hm]; exact good_noB p ds N m c n s t w h (by omega) ht hm
end Go.Proofs.YtinpbnkmpplkiaaDoor
