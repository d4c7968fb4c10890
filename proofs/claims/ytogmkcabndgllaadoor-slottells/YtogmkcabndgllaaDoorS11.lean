/- the document's Hold -/
import Derived.Test.YtogmkcabndgllaaDoorSM
namespace Go.Proofs.YtogmkcabndgllaaDoor
open Go.RowKit
open Sha Tal
set_option linter.unusedVariables false
set_option maxRecDepth 100000 in
set_option maxHeartbeats 4000000 in
theorem xhold_a (s : Sl) (c : Ce) (w : World) (hs : s.ok w) (hc : c.at w) (hk : c.v.k ≠ 1) : Calls Tryd.prog 13 #[.agg s.cells.toArray, .agg c.cells.toArray] w fun e w' => e = .returned (.tuple #[.agg (holdP s c).1.cells.toArray, .int .i64 (holdP s c).2]) ∧ Below w.heap.size w w' := by
  have e : holdP s c = (sl0, 181) := by unfold holdP; rw [if_pos hk]
  simp only [e]
  clear e
  have hv := hs.vok
  have h85 : s.cells.length = 85 := Sl.len hv
  have h85a : s.cells.toArray.size = 85 := by simpa using h85
  have hi85 : (Tryd.prog.info? 44).map (·.size) = some s.cells.length := by rw [h85]; exact iszTxslot
  have h1s := all_oneS s.one
  have hi85a : (Tryd.prog.info? 44).map (·.size) = some s.cells.toArray.size := by rw [h85a]; exact iszTxslot
  obtain ⟨z0, hz0⟩ : ∃ z, Hid (sl0.cells = z) := ⟨_, hide rfl⟩
  have z85 : z0.length = 85 := by rw [← hz0.out]; rfl
  have z85a : z0.toArray.size = 85 := by simpa using z85
  have iz : (Tryd.prog.info? 44).map (·.size) = some z0.toArray.size := by rw [z85a]; exact iszTxslot
  have z1 : z0.toArray.all (·.oneCell') = true := by rw [← hz0.out]; exact all_oneS sl0.one
  have hbz : ∀ w', (Instr.build 44 #[]).run Tryd.prog w' = .ok (.agg z0.toArray) w' := fun w' => by rw [← hz0.out]; exact build_Txslot0 w'
  have hzv : ∀ w', (zeroValue 44).run Tryd.prog w' = .ok (.agg z0.toArray) w' := fun w' => by rw [← hz0.out]; exact zero_Txslot w'
  have hisb : (Tryd.prog.info? 24).map (·.size) = some s.b.cells.length := iszB
  go_enter Tryd.func13, Tryd.ntmps13
  go_upto_region 1 with fail
  go_name_world w1 hw1
  obtain ⟨hB1, hr1, ht1, hr2, hT1, hsz⟩ := box3 hw1
  clear hw1
  have hT : w1.there (w.heap.size + 1 + 1) 0 85 := by first | exact hT1 | (rw [z85a] at hT1; exact hT1)
  clear hzv hT1
  rw [h85] at ht1
  have hA : SlAt w1 w.heap.size s := ⟨by omega, ht1, hr1⟩
  have hV : w1.rangeAt (w.heap.size + 1) 0 c.v.cells := range_left hr2
  obtain ⟨v0, v1, v2, v3⟩ := Vt.four hV
  simp only [Nat.zero_add] at v0 v1 v2 v3
  have P := hA.parts hv
  have c0 := P.vw
  have c3 := P.is
  have hTz : w1.there (w.heap.size + 1 + 1) 0 z0.toArray.size := by rw [z85a]; exact hT
  have hB := hB1
  have hk1 : (c.v.k != 1) = true := by simpa using hk
  go_wp2_with (first
      | (refine wpList_build rfl 44 [] rfl [] (.agg z0.toArray) rfl (hbz _) ?_)
      | (refine wpList_store_mid rfl 44 _ _ rfl _ 0 z0.toArray rfl rfl hTz iz z1 ?_))
  refine bodyPost_ret (results_ct rfl _ _ _ rfl (run_loadVar_mid (P := Tryd.prog) _ (w.heap.size + 1 + 1) 0 44 z0 _ (World.rangeAt_setCells_same _ _ _ _ (by rw [z85]; exact hT)) Tryd.underlying44 rfl (by simpa using iz))) rfl ?_
  exact ⟨by rw [hz0.out]; rfl, below_sets (by omega) _ _ _ hB⟩
set_option maxRecDepth 100000 in
set_option maxHeartbeats 4000000 in
theorem xhold_b (s : Sl) (c : Ce) (w : World) (hs : s.ok w) (hc : c.at w) (hk : c.v.k = 1) (his : s.is = false) : Calls Tryd.prog 13 #[.agg s.cells.toArray, .agg c.cells.toArray] w fun e w' => e = .returned (.tuple #[.agg (holdP s c).1.cells.toArray, .int .i64 (holdP s c).2]) ∧ Below w.heap.size w w' := by
  have e : holdP s c = (sl0, 180) := by unfold holdP; rw [if_neg (by simp [hk]), if_pos (.inl his)]
  simp only [e]
  clear e
  have hv := hs.vok
  have h85 : s.cells.length = 85 := Sl.len hv
  have h85a : s.cells.toArray.size = 85 := by simpa using h85
  have hi85 : (Tryd.prog.info? 44).map (·.size) = some s.cells.length := by rw [h85]; exact iszTxslot
  have h1s := all_oneS s.one
  have hi85a : (Tryd.prog.info? 44).map (·.size) = some s.cells.toArray.size := by rw [h85a]; exact iszTxslot
  obtain ⟨z0, hz0⟩ : ∃ z, Hid (sl0.cells = z) := ⟨_, hide rfl⟩
  have z85 : z0.length = 85 := by rw [← hz0.out]; rfl
  have z85a : z0.toArray.size = 85 := by simpa using z85
  have iz : (Tryd.prog.info? 44).map (·.size) = some z0.toArray.size := by rw [z85a]; exact iszTxslot
  have z1 : z0.toArray.all (·.oneCell') = true := by rw [← hz0.out]; exact all_oneS sl0.one
  have hbz : ∀ w', (Instr.build 44 #[]).run Tryd.prog w' = .ok (.agg z0.toArray) w' := fun w' => by rw [← hz0.out]; exact build_Txslot0 w'
  have hzv : ∀ w', (zeroValue 44).run Tryd.prog w' = .ok (.agg z0.toArray) w' := fun w' => by rw [← hz0.out]; exact zero_Txslot w'
  have hisb : (Tryd.prog.info? 24).map (·.size) = some s.b.cells.length := iszB
  go_enter Tryd.func13, Tryd.ntmps13
  go_upto_region 1 with fail
  go_name_world w1 hw1
  obtain ⟨hB1, hr1, ht1, hr2, hT1, hsz⟩ := box3 hw1
  clear hw1
  have hT : w1.there (w.heap.size + 1 + 1) 0 85 := by first | exact hT1 | (rw [z85a] at hT1; exact hT1)
  clear hzv hT1
  rw [h85] at ht1
  have hA : SlAt w1 w.heap.size s := ⟨by omega, ht1, hr1⟩
  have hV : w1.rangeAt (w.heap.size + 1) 0 c.v.cells := range_left hr2
  obtain ⟨v0, v1, v2, v3⟩ := Vt.four hV
  simp only [Nat.zero_add] at v0 v1 v2 v3
  have P := hA.parts hv
  have c0 := P.vw
  have c3 := P.is
  have hTz : w1.there (w.heap.size + 1 + 1) 0 z0.toArray.size := by rw [z85a]; exact hT
  have hB := hB1
  rw [hk] at v0
  rw [his] at c3
  go_wp2_with (first
      | (refine wpList_build rfl 44 [] rfl [] (.agg z0.toArray) rfl (hbz _) ?_)
      | (refine wpList_store_mid rfl 44 _ _ rfl _ 0 z0.toArray rfl rfl hTz iz z1 ?_))
  refine bodyPost_ret (results_ct rfl _ _ _ rfl (run_loadVar_mid (P := Tryd.prog) _ (w.heap.size + 1 + 1) 0 44 z0 _ (World.rangeAt_setCells_same _ _ _ _ (by rw [z85]; exact hT)) Tryd.underlying44 rfl (by simpa using iz))) rfl ?_
  exact ⟨by rw [hz0.out]; rfl, below_sets (by omega) _ _ _ hB⟩
set_option maxRecDepth 100000 in
set_option maxHeartbeats 4000000 in
theorem xhold_c (s : Sl) (c : Ce) (w : World) (hs : s.ok w) (hc : c.at w) (hk : c.v.k = 1) (his : s.is = true) (h2 : c.v.v ≠ s.vw) : Calls Tryd.prog 13 #[.agg s.cells.toArray, .agg c.cells.toArray] w fun e w' => e = .returned (.tuple #[.agg (holdP s c).1.cells.toArray, .int .i64 (holdP s c).2]) ∧ Below w.heap.size w w' := by
  have e : holdP s c = (sl0, 180) := by unfold holdP; rw [if_neg (by simp [hk]), if_pos (.inr h2)]
  simp only [e]
  clear e
  have hv := hs.vok
  have h85 : s.cells.length = 85 := Sl.len hv
  have h85a : s.cells.toArray.size = 85 := by simpa using h85
  have hi85 : (Tryd.prog.info? 44).map (·.size) = some s.cells.length := by rw [h85]; exact iszTxslot
  have h1s := all_oneS s.one
  have hi85a : (Tryd.prog.info? 44).map (·.size) = some s.cells.toArray.size := by rw [h85a]; exact iszTxslot
  obtain ⟨z0, hz0⟩ : ∃ z, Hid (sl0.cells = z) := ⟨_, hide rfl⟩
  have z85 : z0.length = 85 := by rw [← hz0.out]; rfl
  have z85a : z0.toArray.size = 85 := by simpa using z85
  have iz : (Tryd.prog.info? 44).map (·.size) = some z0.toArray.size := by rw [z85a]; exact iszTxslot
  have z1 : z0.toArray.all (·.oneCell') = true := by rw [← hz0.out]; exact all_oneS sl0.one
  have hbz : ∀ w', (Instr.build 44 #[]).run Tryd.prog w' = .ok (.agg z0.toArray) w' := fun w' => by rw [← hz0.out]; exact build_Txslot0 w'
  have hzv : ∀ w', (zeroValue 44).run Tryd.prog w' = .ok (.agg z0.toArray) w' := fun w' => by rw [← hz0.out]; exact zero_Txslot w'
  have hisb : (Tryd.prog.info? 24).map (·.size) = some s.b.cells.length := iszB
  go_enter Tryd.func13, Tryd.ntmps13
  go_upto_region 1 with fail
  go_name_world w1 hw1
  obtain ⟨hB1, hr1, ht1, hr2, hT1, hsz⟩ := box3 hw1
  clear hw1
  have hT : w1.there (w.heap.size + 1 + 1) 0 85 := by first | exact hT1 | (rw [z85a] at hT1; exact hT1)
  clear hzv hT1
  rw [h85] at ht1
  have hA : SlAt w1 w.heap.size s := ⟨by omega, ht1, hr1⟩
  have hV : w1.rangeAt (w.heap.size + 1) 0 c.v.cells := range_left hr2
  obtain ⟨v0, v1, v2, v3⟩ := Vt.four hV
  simp only [Nat.zero_add] at v0 v1 v2 v3
  have P := hA.parts hv
  have c0 := P.vw
  have c3 := P.is
  have hTz : w1.there (w.heap.size + 1 + 1) 0 z0.toArray.size := by rw [z85a]; exact hT
  have hB := hB1
  rw [hk] at v0
  rw [his] at c3
  have h2b : (c.v.v != s.vw) = true := by simpa using h2
  go_wp2_with (first
      | (refine wpList_build rfl 44 [] rfl [] (.agg z0.toArray) rfl (hbz _) ?_)
      | (refine wpList_store_mid rfl 44 _ _ rfl _ 0 z0.toArray rfl rfl hTz iz z1 ?_))
  refine bodyPost_ret (results_ct rfl _ _ _ rfl (run_loadVar_mid (P := Tryd.prog) _ (w.heap.size + 1 + 1) 0 44 z0 _ (World.rangeAt_setCells_same _ _ _ _ (by rw [z85]; exact hT)) Tryd.underlying44 rfl (by simpa using iz))) rfl ?_
  exact ⟨by rw [hz0.out]; rfl, below_sets (by omega) _ _ _ hB⟩
set_option maxRecDepth 100000 in
set_option maxHeartbeats 4000000 in
theorem xhold_d (s : Sl) (c : Ce) (w : World) (hs : s.ok w) (hc : c.at w) (hk : c.v.k = 1) (his : s.is = true) (h2 : c.v.v = s.vw) (h3 : c.v.d ≠ s.b.dig) : Calls Tryd.prog 13 #[.agg s.cells.toArray, .agg c.cells.toArray] w fun e w' => e = .returned (.tuple #[.agg (holdP s c).1.cells.toArray, .int .i64 (holdP s c).2]) ∧ Below w.heap.size w w' := by
  have e : holdP s c = (sl0, 181) := by unfold holdP; rw [if_neg (by simp [hk]), if_neg (by simp [his, h2]), if_pos h3]
  simp only [e]
  clear e
  have hv := hs.vok
  have h85 : s.cells.length = 85 := Sl.len hv
  have h85a : s.cells.toArray.size = 85 := by simpa using h85
  have hi85 : (Tryd.prog.info? 44).map (·.size) = some s.cells.length := by rw [h85]; exact iszTxslot
  have h1s := all_oneS s.one
  have hi85a : (Tryd.prog.info? 44).map (·.size) = some s.cells.toArray.size := by rw [h85a]; exact iszTxslot
  obtain ⟨z0, hz0⟩ : ∃ z, Hid (sl0.cells = z) := ⟨_, hide rfl⟩
  have z85 : z0.length = 85 := by rw [← hz0.out]; rfl
  have z85a : z0.toArray.size = 85 := by simpa using z85
  have iz : (Tryd.prog.info? 44).map (·.size) = some z0.toArray.size := by rw [z85a]; exact iszTxslot
  have z1 : z0.toArray.all (·.oneCell') = true := by rw [← hz0.out]; exact all_oneS sl0.one
  have hbz : ∀ w', (Instr.build 44 #[]).run Tryd.prog w' = .ok (.agg z0.toArray) w' := fun w' => by rw [← hz0.out]; exact build_Txslot0 w'
  have hzv : ∀ w', (zeroValue 44).run Tryd.prog w' = .ok (.agg z0.toArray) w' := fun w' => by rw [← hz0.out]; exact zero_Txslot w'
  have hisb : (Tryd.prog.info? 24).map (·.size) = some s.b.cells.length := iszB
  go_enter Tryd.func13, Tryd.ntmps13
  go_upto_region 1 with fail
  go_name_world w1 hw1
  obtain ⟨hB1, hr1, ht1, hr2, hT1, hsz⟩ := box3 hw1
  clear hw1
  have hT : w1.there (w.heap.size + 1 + 1) 0 85 := by first | exact hT1 | (rw [z85a] at hT1; exact hT1)
  clear hzv hT1
  rw [h85] at ht1
  have hA : SlAt w1 w.heap.size s := ⟨by omega, ht1, hr1⟩
  have hV : w1.rangeAt (w.heap.size + 1) 0 c.v.cells := range_left hr2
  obtain ⟨v0, v1, v2, v3⟩ := Vt.four hV
  simp only [Nat.zero_add] at v0 v1 v2 v3
  have P := hA.parts hv
  have c0 := P.vw
  have c3 := P.is
  have hTz : w1.there (w.heap.size + 1 + 1) 0 z0.toArray.size := by rw [z85a]; exact hT
  have hB := hB1
  rw [hk] at v0
  rw [his] at c3
  have HD := hide h3
  clear h3
  have h2b : (c.v.v != s.vw) = false := by simpa using h2
  go_upto_region 5 with fail
  obtain ⟨w8, hw8⟩ : ∃ w8, w1.drew = w8 := ⟨_, rfl⟩
  have hB8 : Below w1.heap.size w1 w8 := by rw [← hw8]; exact (Below.refl _ _).drew
  have hA8 := hA.below hB8
  have P8 := hA8.parts hv
  have hr8 := range_below hr2 hB8 (by omega)
  have hV8 := range_below hV hB8 (by omega)
  have hT8 := there_below hT hB8 (by omega)
  have hBB : Below w.heap.size w w8 := hB.trans (hB8.mono hB.size)
  have hz8 : w.heap.size + 3 ≤ w8.heap.size := by have := hB8.size; omega
  have hD8 := Vt.dig hV8
  rw [Nat.zero_add] at hD8
  have hiD : (Tryd.prog.info? 26).map (·.size) = some (v8 c.v.d).length := by rw [v8_length, hc.v.dl]; exact iszD
  have c1 := fun w' (h : Below w8.heap.size w8 w') => s.b.xdig_any w' ((hs.b.below hBB).below h) hs.bl
  try simp only [Act.put]
  refine hs_begin (S := (Below w8.heap.size w8)) 7 rfl (by kernel_rfl) ?_
  rw [hw8]
  clear hw8
  have hS : (Below w8.heap.size w8) w8 := Below.refl _ _
  refine hs_take (i := 0) (d := some 23) (v := ?_) rfl (by kernel_rfl) (by kernel_rfl) (by kernel_rfl) (by rfl) ?_ hS rfl ?_
  rotate_left
  · intro w' hw
    go_simp
    try with_reducible rfl
  simp only [Act.put, List.setIfInBounds_toArray, List.set_cons_zero, List.set_cons_succ]
  refine hs_take (i := 1) (d := some 24) (v := ?_) rfl (by kernel_rfl) (by kernel_rfl) (by kernel_rfl) (by rfl) ?_ hS rfl ?_
  rotate_left
  · intro w' hw
    go_simp
    try with_reducible rfl
  simp only [Act.put, List.setIfInBounds_toArray, List.set_cons_zero, List.set_cons_succ]
  refine hs_take (i := 2) (d := some 25) (v := .agg (v8 c.v.d).toArray) rfl (by kernel_rfl) (by kernel_rfl) (by kernel_rfl) (by rfl) (fun w' hw => ex_mid rfl rfl (range_below hD8 hw (by omega)) Tryd.underlying26 rfl hiD) hS rfl ?_
  simp only [Act.put, List.setIfInBounds_toArray, List.set_cons_zero, List.set_cons_succ]
  refine hs_take (i := 3) (d := some 26) (v := ?_) rfl (by kernel_rfl) (by kernel_rfl) (by kernel_rfl) (by rfl) ?_ hS rfl ?_
  rotate_left
  · intro w' hw
    go_simp
    try with_reducible rfl
  simp only [Act.put, List.setIfInBounds_toArray, List.set_cons_zero, List.set_cons_succ]
  refine hs_take (i := 4) (d := some 27) (v := .agg s.b.cells.toArray) rfl (by kernel_rfl) (by kernel_rfl) (by kernel_rfl) (by rfl) (fun w' hw => ex_mid rfl rfl (range_below P8.b hw hA8.lt) Tryd.underlying24 rfl hisb) hS rfl ?_
  simp only [Act.put, List.setIfInBounds_toArray, List.set_cons_zero, List.set_cons_succ]
  refine hs_call (i := 5) (d := some 28) rfl (by kernel_rfl) (by rfl) (by go_simp; first | done | exact ⟨rfl, rfl⟩ | with_reducible rfl) rfl ?_
  refine (c1 w8 (Below.refl _ _)).mono ?_
  rintro e' w9 ⟨rfl, hB9⟩
  have hS : (Below w8.heap.size w8) w9 := hB9
  refine ⟨_, rfl, hS, ?_⟩
  simp only [Act.put, List.setIfInBounds_toArray, List.set_cons_zero, List.set_cons_succ]
  refine hs_take (i := 6) (d := some 29) (v := .bool true) rfl (by kernel_rfl) (by kernel_rfl) (by kernel_rfl) (by rfl) (fun w' hw => ex_bin rfl rfl rfl (by kernel_rfl) (by rw [neq_any _ _ hc.v.dl (Bat.dig_len _)]; simp [HD.out])) hS rfl ?_
  simp only [Act.put, List.setIfInBounds_toArray, List.set_cons_zero, List.set_cons_succ]
  refine hs_done (by kernel_rfl) ?_
  have hA := hA8.below hB9
  have hr2 := range_below hr8 hB9 (by omega)
  have hV := range_below hV8 hB9 (by omega)
  have hT := there_below hT8 hB9 (by omega)
  have hB : Below w.heap.size w w9 := hBB.trans (hB9.mono hBB.size)
  have hz9 : w.heap.size + 3 ≤ w9.heap.size := by have := hB9.size; omega
  have hTz : w9.there (w.heap.size + 1 + 1) 0 z0.toArray.size := by rw [z85a]; exact hT
  have hTs : w9.there (w.heap.size + 1 + 1) 0 s.cells.toArray.size := by rw [h85a]; exact hT
  clear hS hB8 hB9 hBB hA8 P8 P hr8 hV8 hT8 hD8 c1 v0 v1 v2 v3 c0 c3 hz8
  go_wp2_with (first
      | (refine wpList_build rfl 44 [] rfl [] (.agg z0.toArray) rfl (hbz _) ?_)
      | (refine wpList_store_mid rfl 44 _ _ rfl _ 0 z0.toArray rfl rfl hTz iz z1 ?_))
  refine bodyPost_ret (results_ct rfl _ _ _ rfl (run_loadVar_mid (P := Tryd.prog) _ (w.heap.size + 1 + 1) 0 44 z0 _ (World.rangeAt_setCells_same _ _ _ _ (by rw [z85]; exact hT)) Tryd.underlying44 rfl (by simpa using iz))) rfl ?_
  exact ⟨by rw [hz0.out]; rfl, below_sets (by omega) _ _ _ hB⟩
set_option maxRecDepth 100000 in
set_option maxHeartbeats 4000000 in
theorem xhold_e (s : Sl) (c : Ce) (w : World) (hs : s.ok w) (hc : c.at w) (hk : c.v.k = 1) (his : s.is = true) (h2 : c.v.v = s.vw) (h3 : c.v.d = s.b.dig) (hho : s.ho = true) (h4 : c.v.v ≤ s.hc.v.v) : Calls Tryd.prog 13 #[.agg s.cells.toArray, .agg c.cells.toArray] w fun e w' => e = .returned (.tuple #[.agg (holdP s c).1.cells.toArray, .int .i64 (holdP s c).2]) ∧ Below w.heap.size w w' := by
  have e : holdP s c = (s, 0) := by unfold holdP; rw [if_neg (by simp [hk]), if_neg (by simp [his, h2]), if_neg (by simp [h3]), if_pos ⟨hho, h4⟩]
  simp only [e]
  clear e
  have hv := hs.vok
  have h85 : s.cells.length = 85 := Sl.len hv
  have h85a : s.cells.toArray.size = 85 := by simpa using h85
  have hi85 : (Tryd.prog.info? 44).map (·.size) = some s.cells.length := by rw [h85]; exact iszTxslot
  have h1s := all_oneS s.one
  have hi85a : (Tryd.prog.info? 44).map (·.size) = some s.cells.toArray.size := by rw [h85a]; exact iszTxslot
  obtain ⟨z0, hz0⟩ : ∃ z, Hid (sl0.cells = z) := ⟨_, hide rfl⟩
  have z85 : z0.length = 85 := by rw [← hz0.out]; rfl
  have z85a : z0.toArray.size = 85 := by simpa using z85
  have iz : (Tryd.prog.info? 44).map (·.size) = some z0.toArray.size := by rw [z85a]; exact iszTxslot
  have z1 : z0.toArray.all (·.oneCell') = true := by rw [← hz0.out]; exact all_oneS sl0.one
  have hbz : ∀ w', (Instr.build 44 #[]).run Tryd.prog w' = .ok (.agg z0.toArray) w' := fun w' => by rw [← hz0.out]; exact build_Txslot0 w'
  have hzv : ∀ w', (zeroValue 44).run Tryd.prog w' = .ok (.agg z0.toArray) w' := fun w' => by rw [← hz0.out]; exact zero_Txslot w'
  have hisb : (Tryd.prog.info? 24).map (·.size) = some s.b.cells.length := iszB
  go_enter Tryd.func13, Tryd.ntmps13
  go_upto_region 1 with fail
  go_name_world w1 hw1
  obtain ⟨hB1, hr1, ht1, hr2, hT1, hsz⟩ := box3 hw1
  clear hw1
  have hT : w1.there (w.heap.size + 1 + 1) 0 85 := by first | exact hT1 | (rw [z85a] at hT1; exact hT1)
  clear hzv hT1
  rw [h85] at ht1
  have hA : SlAt w1 w.heap.size s := ⟨by omega, ht1, hr1⟩
  have hV : w1.rangeAt (w.heap.size + 1) 0 c.v.cells := range_left hr2
  obtain ⟨v0, v1, v2, v3⟩ := Vt.four hV
  simp only [Nat.zero_add] at v0 v1 v2 v3
  have P := hA.parts hv
  have c0 := P.vw
  have c3 := P.is
  have hTz : w1.there (w.heap.size + 1 + 1) 0 z0.toArray.size := by rw [z85a]; exact hT
  have hB := hB1
  rw [hk] at v0
  rw [his] at c3
  have HD := hide h3
  clear h3
  have h2b : (c.v.v != s.vw) = false := by simpa using h2
  go_upto_region 5 with fail
  obtain ⟨w8, hw8⟩ : ∃ w8, w1.drew = w8 := ⟨_, rfl⟩
  have hB8 : Below w1.heap.size w1 w8 := by rw [← hw8]; exact (Below.refl _ _).drew
  have hA8 := hA.below hB8
  have P8 := hA8.parts hv
  have hr8 := range_below hr2 hB8 (by omega)
  have hV8 := range_below hV hB8 (by omega)
  have hT8 := there_below hT hB8 (by omega)
  have hBB : Below w.heap.size w w8 := hB.trans (hB8.mono hB.size)
  have hz8 : w.heap.size + 3 ≤ w8.heap.size := by have := hB8.size; omega
  have hD8 := Vt.dig hV8
  rw [Nat.zero_add] at hD8
  have hiD : (Tryd.prog.info? 26).map (·.size) = some (v8 c.v.d).length := by rw [v8_length, hc.v.dl]; exact iszD
  have c1 := fun w' (h : Below w8.heap.size w8 w') => s.b.xdig_any w' ((hs.b.below hBB).below h) hs.bl
  try simp only [Act.put]
  refine hs_begin (S := (Below w8.heap.size w8)) 7 rfl (by kernel_rfl) ?_
  rw [hw8]
  clear hw8
  have hS : (Below w8.heap.size w8) w8 := Below.refl _ _
  refine hs_take (i := 0) (d := some 23) (v := ?_) rfl (by kernel_rfl) (by kernel_rfl) (by kernel_rfl) (by rfl) ?_ hS rfl ?_
  rotate_left
  · intro w' hw
    go_simp
    try with_reducible rfl
  simp only [Act.put, List.setIfInBounds_toArray, List.set_cons_zero, List.set_cons_succ]
  refine hs_take (i := 1) (d := some 24) (v := ?_) rfl (by kernel_rfl) (by kernel_rfl) (by kernel_rfl) (by rfl) ?_ hS rfl ?_
  rotate_left
  · intro w' hw
    go_simp
    try with_reducible rfl
  simp only [Act.put, List.setIfInBounds_toArray, List.set_cons_zero, List.set_cons_succ]
  refine hs_take (i := 2) (d := some 25) (v := .agg (v8 c.v.d).toArray) rfl (by kernel_rfl) (by kernel_rfl) (by kernel_rfl) (by rfl) (fun w' hw => ex_mid rfl rfl (range_below hD8 hw (by omega)) Tryd.underlying26 rfl hiD) hS rfl ?_
  simp only [Act.put, List.setIfInBounds_toArray, List.set_cons_zero, List.set_cons_succ]
  refine hs_take (i := 3) (d := some 26) (v := ?_) rfl (by kernel_rfl) (by kernel_rfl) (by kernel_rfl) (by rfl) ?_ hS rfl ?_
  rotate_left
  · intro w' hw
    go_simp
    try with_reducible rfl
  simp only [Act.put, List.setIfInBounds_toArray, List.set_cons_zero, List.set_cons_succ]
  refine hs_take (i := 4) (d := some 27) (v := .agg s.b.cells.toArray) rfl (by kernel_rfl) (by kernel_rfl) (by kernel_rfl) (by rfl) (fun w' hw => ex_mid rfl rfl (range_below P8.b hw hA8.lt) Tryd.underlying24 rfl hisb) hS rfl ?_
  simp only [Act.put, List.setIfInBounds_toArray, List.set_cons_zero, List.set_cons_succ]
  refine hs_call (i := 5) (d := some 28) rfl (by kernel_rfl) (by rfl) (by go_simp; first | done | exact ⟨rfl, rfl⟩ | with_reducible rfl) rfl ?_
  refine (c1 w8 (Below.refl _ _)).mono ?_
  rintro e' w9 ⟨rfl, hB9⟩
  have hS : (Below w8.heap.size w8) w9 := hB9
  refine ⟨_, rfl, hS, ?_⟩
  simp only [Act.put, List.setIfInBounds_toArray, List.set_cons_zero, List.set_cons_succ]
  refine hs_take (i := 6) (d := some 29) (v := .bool false) rfl (by kernel_rfl) (by kernel_rfl) (by kernel_rfl) (by rfl) (fun w' hw => ex_bin rfl rfl rfl (by kernel_rfl) (by rw [neq_any _ _ hc.v.dl (Bat.dig_len _)]; simp [HD.out])) hS rfl ?_
  simp only [Act.put, List.setIfInBounds_toArray, List.set_cons_zero, List.set_cons_succ]
  refine hs_done (by kernel_rfl) ?_
  have hA := hA8.below hB9
  have hr2 := range_below hr8 hB9 (by omega)
  have hV := range_below hV8 hB9 (by omega)
  have hT := there_below hT8 hB9 (by omega)
  have hB : Below w.heap.size w w9 := hBB.trans (hB9.mono hBB.size)
  have hz9 : w.heap.size + 3 ≤ w9.heap.size := by have := hB9.size; omega
  have hTz : w9.there (w.heap.size + 1 + 1) 0 z0.toArray.size := by rw [z85a]; exact hT
  have hTs : w9.there (w.heap.size + 1 + 1) 0 s.cells.toArray.size := by rw [h85a]; exact hT
  clear hS hB8 hB9 hBB hA8 P8 P hr8 hV8 hT8 hD8 c1 v0 v1 v2 v3 c0 c3 hz8
  obtain ⟨v0, v1, v2, v3⟩ := Vt.four hV
  simp only [Nat.zero_add] at v0 v1 v2 v3
  have P := hA.parts hv
  have c43 := P.ho
  obtain ⟨h0, h1, h2', h3⟩ := Vt.four P.hv
  simp only [Nat.reduceAdd] at h0 h1 h2' h3
  rw [hho] at c43
  have h5 : s.hc.v.v ≥ c.v.v := h4
  have hr := hA.r
  go_wp2_with (first
      | (refine wpList_load_mid rfl 44 _ rfl _ _ rfl s.cells _ hr Tryd.underlying44 rfl hi85 ?_)
      | (refine wpList_store_mid rfl 44 _ _ rfl _ 0 (s.cells).toArray rfl rfl hTs hi85a h1s ?_))
  refine bodyPost_ret (results_ct rfl _ _ _ rfl (run_loadVar_mid (P := Tryd.prog) _ (w.heap.size + 1 + 1) 0 44 (s.cells) _ (World.rangeAt_setCells_same _ _ _ _ (by rw [h85]; exact hT)) Tryd.underlying44 rfl hi85)) rfl ?_
  exact ⟨rfl, below_sets (by omega) _ _ _ hB⟩
set_option maxRecDepth 100000 in
set_option maxHeartbeats 4000000 in
theorem xhold_f (s : Sl) (c : Ce) (w : World) (hs : s.ok w) (hc : c.at w) (hk : c.v.k = 1) (his : s.is = true) (h2 : c.v.v = s.vw) (h3 : c.v.d = s.b.dig) (hho : s.ho = false) : Calls Tryd.prog 13 #[.agg s.cells.toArray, .agg c.cells.toArray] w fun e w' => e = .returned (.tuple #[.agg (holdP s c).1.cells.toArray, .int .i64 (holdP s c).2]) ∧ Below w.heap.size w w' := by
  have e : holdP s c = ({ s with hb := s.b, hc := c, ho := true }, 0) := by unfold holdP; rw [if_neg (by simp [hk]), if_neg (by simp [his, h2]), if_neg (by simp [h3]), if_neg (by simp [hho])]
  simp only [e]
  clear e
  have hv := hs.vok
  have h85 : s.cells.length = 85 := Sl.len hv
  have h85a : s.cells.toArray.size = 85 := by simpa using h85
  have hi85 : (Tryd.prog.info? 44).map (·.size) = some s.cells.length := by rw [h85]; exact iszTxslot
  have h1s := all_oneS s.one
  have hi85a : (Tryd.prog.info? 44).map (·.size) = some s.cells.toArray.size := by rw [h85a]; exact iszTxslot
  obtain ⟨z0, hz0⟩ : ∃ z, Hid (sl0.cells = z) := ⟨_, hide rfl⟩
  have z85 : z0.length = 85 := by rw [← hz0.out]; rfl
  have z85a : z0.toArray.size = 85 := by simpa using z85
  have iz : (Tryd.prog.info? 44).map (·.size) = some z0.toArray.size := by rw [z85a]; exact iszTxslot
  have z1 : z0.toArray.all (·.oneCell') = true := by rw [← hz0.out]; exact all_oneS sl0.one
  have hbz : ∀ w', (Instr.build 44 #[]).run Tryd.prog w' = .ok (.agg z0.toArray) w' := fun w' => by rw [← hz0.out]; exact build_Txslot0 w'
  have hzv : ∀ w', (zeroValue 44).run Tryd.prog w' = .ok (.agg z0.toArray) w' := fun w' => by rw [← hz0.out]; exact zero_Txslot w'
  have hisb : (Tryd.prog.info? 24).map (·.size) = some s.b.cells.length := iszB
  go_enter Tryd.func13, Tryd.ntmps13
  go_upto_region 1 with fail
  go_name_world w1 hw1
  obtain ⟨hB1, hr1, ht1, hr2, hT1, hsz⟩ := box3 hw1
  clear hw1
  have hT : w1.there (w.heap.size + 1 + 1) 0 85 := by first | exact hT1 | (rw [z85a] at hT1; exact hT1)
  clear hzv hT1
  rw [h85] at ht1
  have hA : SlAt w1 w.heap.size s := ⟨by omega, ht1, hr1⟩
  have hV : w1.rangeAt (w.heap.size + 1) 0 c.v.cells := range_left hr2
  obtain ⟨v0, v1, v2, v3⟩ := Vt.four hV
  simp only [Nat.zero_add] at v0 v1 v2 v3
  have P := hA.parts hv
  have c0 := P.vw
  have c3 := P.is
  have hTz : w1.there (w.heap.size + 1 + 1) 0 z0.toArray.size := by rw [z85a]; exact hT
  have hB := hB1
  rw [hk] at v0
  rw [his] at c3
  have HD := hide h3
  clear h3
  have h2b : (c.v.v != s.vw) = false := by simpa using h2
  go_upto_region 5 with fail
  obtain ⟨w8, hw8⟩ : ∃ w8, w1.drew = w8 := ⟨_, rfl⟩
  have hB8 : Below w1.heap.size w1 w8 := by rw [← hw8]; exact (Below.refl _ _).drew
  have hA8 := hA.below hB8
  have P8 := hA8.parts hv
  have hr8 := range_below hr2 hB8 (by omega)
  have hV8 := range_below hV hB8 (by omega)
  have hT8 := there_below hT hB8 (by omega)
  have hBB : Below w.heap.size w w8 := hB.trans (hB8.mono hB.size)
  have hz8 : w.heap.size + 3 ≤ w8.heap.size := by have := hB8.size; omega
  have hD8 := Vt.dig hV8
  rw [Nat.zero_add] at hD8
  have hiD : (Tryd.prog.info? 26).map (·.size) = some (v8 c.v.d).length := by rw [v8_length, hc.v.dl]; exact iszD
  have c1 := fun w' (h : Below w8.heap.size w8 w') => s.b.xdig_any w' ((hs.b.below hBB).below h) hs.bl
  try simp only [Act.put]
  refine hs_begin (S := (Below w8.heap.size w8)) 7 rfl (by kernel_rfl) ?_
  rw [hw8]
  clear hw8
  have hS : (Below w8.heap.size w8) w8 := Below.refl _ _
  refine hs_take (i := 0) (d := some 23) (v := ?_) rfl (by kernel_rfl) (by kernel_rfl) (by kernel_rfl) (by rfl) ?_ hS rfl ?_
  rotate_left
  · intro w' hw
    go_simp
    try with_reducible rfl
  simp only [Act.put, List.setIfInBounds_toArray, List.set_cons_zero, List.set_cons_succ]
  refine hs_take (i := 1) (d := some 24) (v := ?_) rfl (by kernel_rfl) (by kernel_rfl) (by kernel_rfl) (by rfl) ?_ hS rfl ?_
  rotate_left
  · intro w' hw
    go_simp
    try with_reducible rfl
  simp only [Act.put, List.setIfInBounds_toArray, List.set_cons_zero, List.set_cons_succ]
  refine hs_take (i := 2) (d := some 25) (v := .agg (v8 c.v.d).toArray) rfl (by kernel_rfl) (by kernel_rfl) (by kernel_rfl) (by rfl) (fun w' hw => ex_mid rfl rfl (range_below hD8 hw (by omega)) Tryd.underlying26 rfl hiD) hS rfl ?_
  simp only [Act.put, List.setIfInBounds_toArray, List.set_cons_zero, List.set_cons_succ]
  refine hs_take (i := 3) (d := some 26) (v := ?_) rfl (by kernel_rfl) (by kernel_rfl) (by kernel_rfl) (by rfl) ?_ hS rfl ?_
  rotate_left
  · intro w' hw
    go_simp
    try with_reducible rfl
  simp only [Act.put, List.setIfInBounds_toArray, List.set_cons_zero, List.set_cons_succ]
  refine hs_take (i := 4) (d := some 27) (v := .agg s.b.cells.toArray) rfl (by kernel_rfl) (by kernel_rfl) (by kernel_rfl) (by rfl) (fun w' hw => ex_mid rfl rfl (range_below P8.b hw hA8.lt) Tryd.underlying24 rfl hisb) hS rfl ?_
  simp only [Act.put, List.setIfInBounds_toArray, List.set_cons_zero, List.set_cons_succ]
  refine hs_call (i := 5) (d := some 28) rfl (by kernel_rfl) (by rfl) (by go_simp; first | done | exact ⟨rfl, rfl⟩ | with_reducible rfl) rfl ?_
  refine (c1 w8 (Below.refl _ _)).mono ?_
  rintro e' w9 ⟨rfl, hB9⟩
  have hS : (Below w8.heap.size w8) w9 := hB9
  refine ⟨_, rfl, hS, ?_⟩
  simp only [Act.put, List.setIfInBounds_toArray, List.set_cons_zero, List.set_cons_succ]
  refine hs_take (i := 6) (d := some 29) (v := .bool false) rfl (by kernel_rfl) (by kernel_rfl) (by kernel_rfl) (by rfl) (fun w' hw => ex_bin rfl rfl rfl (by kernel_rfl) (by rw [neq_any _ _ hc.v.dl (Bat.dig_len _)]; simp [HD.out])) hS rfl ?_
  simp only [Act.put, List.setIfInBounds_toArray, List.set_cons_zero, List.set_cons_succ]
  refine hs_done (by kernel_rfl) ?_
  have hA := hA8.below hB9
  have hr2 := range_below hr8 hB9 (by omega)
  have hV := range_below hV8 hB9 (by omega)
  have hT := there_below hT8 hB9 (by omega)
  have hB : Below w.heap.size w w9 := hBB.trans (hB9.mono hBB.size)
  have hz9 : w.heap.size + 3 ≤ w9.heap.size := by have := hB9.size; omega
  have hTz : w9.there (w.heap.size + 1 + 1) 0 z0.toArray.size := by rw [z85a]; exact hT
  have hTs : w9.there (w.heap.size + 1 + 1) 0 s.cells.toArray.size := by rw [h85a]; exact hT
  clear hS hB8 hB9 hBB hA8 P8 P hr8 hV8 hT8 hD8 c1 v0 v1 v2 v3 c0 c3 hz8
  obtain ⟨v0, v1, v2, v3⟩ := Vt.four hV
  simp only [Nat.zero_add] at v0 v1 v2 v3
  have P := hA.parts hv
  have c43 := P.ho
  obtain ⟨h0, h1, h2', h3⟩ := Vt.four P.hv
  simp only [Nat.reduceAdd] at h0 h1 h2' h3
  rw [hho] at c43
  have hic : (Tryd.prog.info? 31).map (·.size) = some c.cells.length := by rw [Ce.len hc.v]; exact iszCe
  have h39 : (heldC s.b c).toArray.size = 39 := by simpa using heldC_len (b := s.b) hc.v
  have hih : (Tryd.prog.info? 33).map (·.size) = some (heldC s.b c).toArray.size := by rw [h39]; exact iszHe
  have hh1 := all_oneS (heldC_one s.b c)
  have hbh := fun w' => build_held s.b c hc.v w'
  have k1 := hA.ho hv true
  have k2 := k1.held ⟨hv.h, hv.e⟩ s.b c hc.v
  have hTh : (w9.setCells w.heap.size 43 [.bool true]).there w.heap.size 4 (heldC s.b c).toArray.size := by rw [h39]; exact there_part1 k1.th (by decide)
  have hb2 := (k1.parts ⟨hv.h, hv.e⟩).b
  have hrc : (w9.setCells w.heap.size 43 [.bool true]).rangeAt (w.heap.size + 1) 0 c.cells := World.rangeAt_setCells_apart hr2 _ _ _ (.inl (by omega))
  have hth := hA.th
  obtain ⟨hl, hhl⟩ : ∃ hl, Hid (heldC s.b c = hl) := ⟨_, hide rfl⟩
  rw [hhl.out] at k2 h39 hih hh1 hTh
  simp only [hhl.out] at hbh
  go_upto_region 9 with fail
  try simp only [Act.put]
  refine wp_region_list ?_
  refine wpList_step fun K hK => ?_
  go_simp
  refine hK _ _ ?_
  clear hK K
  refine wpList_put1 (v := .bool true) rfl 4 _ _ rfl rfl rfl hth (by decide) iszBo rfl rfl ?_
  go_upto_region 10 with fail
  try simp only [Act.put]
  refine wp_region_list ?_
  refine wpList_step fun K hK => ?_
  go_simp
  refine hK _ _ ?_
  clear hK K
  refine wpList_load_mid rfl 24 _ rfl _ _ rfl s.b.cells _ hb2 Tryd.underlying24 rfl hisb ?_
  refine wpList_load_mid rfl 31 _ rfl _ _ rfl c.cells _ hrc Tryd.underlying31 rfl hic ?_
  refine wpList_build rfl 33 [(0, .tmp 47), (1, .tmp 48)] rfl [(0, .agg s.b.cells.toArray), (1, .agg c.cells.toArray)] (.agg hl.toArray) rfl (hbh _) ?_
  refine wpList_step fun K hK => ?_
  go_simp
  refine hK _ _ ?_
  clear hK K
  refine wpList_store_mid rfl 33 _ _ rfl _ 4 hl.toArray rfl rfl hTh hih hh1 ?_
  go_upto_region 11 with fail
  have hT : ((w9.setCells w.heap.size 43 [.bool true]).setCells w.heap.size 4 hl).there (w.heap.size + 1 + 1) 0 85 := World.there_setCells (World.there_setCells hT _ _ _) _ _ _
  have hB : Below w.heap.size w ((w9.setCells w.heap.size 43 [.bool true]).setCells w.heap.size 4 hl) := below_sets (Nat.le_refl _) _ _ _ (below_sets (Nat.le_refl _) _ _ _ hB)
  have hr := k2.r
  go_name_world wz hwz
  rw [hwz] at hr hT hB
  clear hwz k1 k2 P hA hr2 hV hTz c43 v0 v1 v2 v3 h0 h1 h2' h3 hb2 hTh hih hh1 hbh hhl h39 hrc hth
  have h85' : (Sl.cells { s with hb := s.b, hc := c, ho := true }).length = 85 := Sl.len ⟨hc.v, hv.e⟩
  have h1s' := all_oneS (Sl.one { s with hb := s.b, hc := c, ho := true })
  obtain ⟨cs, hcs⟩ : ∃ cs, Hid (Sl.cells { s with hb := s.b, hc := c, ho := true } = cs) := ⟨_, hide rfl⟩
  rw [hcs.out] at hr h85' h1s'
  have hTs : wz.there (w.heap.size + 1 + 1) 0 cs.toArray.size := by rw [show cs.toArray.size = 85 by simpa using h85']; exact hT
  have hi85' : (Tryd.prog.info? 44).map (·.size) = some cs.length := by rw [h85']; exact iszTxslot
  have hi85a' : (Tryd.prog.info? 44).map (·.size) = some cs.toArray.size := by rw [show cs.toArray.size = 85 by simpa using h85']; exact iszTxslot
  go_wp2_with (first
      | (refine wpList_load_mid rfl 44 _ rfl _ _ rfl cs _ hr Tryd.underlying44 rfl hi85' ?_)
      | (refine wpList_store_mid rfl 44 _ _ rfl _ 0 (cs).toArray rfl rfl hTs hi85a' h1s' ?_))
  refine bodyPost_ret (results_ct rfl _ _ _ rfl (run_loadVar_mid (P := Tryd.prog) _ (w.heap.size + 1 + 1) 0 44 (cs) _ (World.rangeAt_setCells_same _ _ _ _ (by rw [h85']; exact hT)) Tryd.underlying44 rfl hi85')) rfl ?_
  exact ⟨by rw [← hcs.out]; rfl, below_sets (by omega) _ _ _ hB⟩
set_option maxRecDepth 100000 in
set_option maxHeartbeats 4000000 in
theorem xhold_g (s : Sl) (c : Ce) (w : World) (hs : s.ok w) (hc : c.at w) (hk : c.v.k = 1) (his : s.is = true) (h2 : c.v.v = s.vw) (h3 : c.v.d = s.b.dig) (hho : s.ho = true) (h4 : ¬ c.v.v ≤ s.hc.v.v) : Calls Tryd.prog 13 #[.agg s.cells.toArray, .agg c.cells.toArray] w fun e w' => e = .returned (.tuple #[.agg (holdP s c).1.cells.toArray, .int .i64 (holdP s c).2]) ∧ Below w.heap.size w w' := by
  have e : holdP s c = ({ s with hb := s.b, hc := c, ho := true }, 0) := by unfold holdP; rw [if_neg (by simp [hk]), if_neg (by simp [his, h2]), if_neg (by simp [h3]), if_neg (fun q => h4 q.2)]
  simp only [e]
  clear e
  have hv := hs.vok
  have h85 : s.cells.length = 85 := Sl.len hv
  have h85a : s.cells.toArray.size = 85 := by simpa using h85
  have hi85 : (Tryd.prog.info? 44).map (·.size) = some s.cells.length := by rw [h85]; exact iszTxslot
  have h1s := all_oneS s.one
  have hi85a : (Tryd.prog.info? 44).map (·.size) = some s.cells.toArray.size := by rw [h85a]; exact iszTxslot
  obtain ⟨z0, hz0⟩ : ∃ z, Hid (sl0.cells = z) := ⟨_, hide rfl⟩
  have z85 : z0.length = 85 := by rw [← hz0.out]; rfl
  have z85a : z0.toArray.size = 85 := by simpa using z85
  have iz : (Tryd.prog.info? 44).map (·.size) = some z0.toArray.size := by rw [z85a]; exact iszTxslot
  have z1 : z0.toArray.all (·.oneCell') = true := by rw [← hz0.out]; exact all_oneS sl0.one
  have hbz : ∀ w', (Instr.build 44 #[]).run Tryd.prog w' = .ok (.agg z0.toArray) w' := fun w' => by rw [← hz0.out]; exact build_Txslot0 w'
  have hzv : ∀ w', (zeroValue 44).run Tryd.prog w' = .ok (.agg z0.toArray) w' := fun w' => by rw [← hz0.out]; exact zero_Txslot w'
  have hisb : (Tryd.prog.info? 24).map (·.size) = some s.b.cells.length := iszB
  go_enter Tryd.func13, Tryd.ntmps13
  go_upto_region 1 with fail
  go_name_world w1 hw1
  obtain ⟨hB1, hr1, ht1, hr2, hT1, hsz⟩ := box3 hw1
  clear hw1
  have hT : w1.there (w.heap.size + 1 + 1) 0 85 := by first | exact hT1 | (rw [z85a] at hT1; exact hT1)
  clear hzv hT1
  rw [h85] at ht1
  have hA : SlAt w1 w.heap.size s := ⟨by omega, ht1, hr1⟩
  have hV : w1.rangeAt (w.heap.size + 1) 0 c.v.cells := range_left hr2
  obtain ⟨v0, v1, v2, v3⟩ := Vt.four hV
  simp only [Nat.zero_add] at v0 v1 v2 v3
  have P := hA.parts hv
  have c0 := P.vw
  have c3 := P.is
  have hTz : w1.there (w.heap.size + 1 + 1) 0 z0.toArray.size := by rw [z85a]; exact hT
  have hB := hB1
  rw [hk] at v0
  rw [his] at c3
  have HD := hide h3
  clear h3
  have h2b : (c.v.v != s.vw) = false := by simpa using h2
  go_upto_region 5 with fail
  obtain ⟨w8, hw8⟩ : ∃ w8, w1.drew = w8 := ⟨_, rfl⟩
  have hB8 : Below w1.heap.size w1 w8 := by rw [← hw8]; exact (Below.refl _ _).drew
  have hA8 := hA.below hB8
  have P8 := hA8.parts hv
  have hr8 := range_below hr2 hB8 (by omega)
  have hV8 := range_below hV hB8 (by omega)
  have hT8 := there_below hT hB8 (by omega)
  have hBB : Below w.heap.size w w8 := hB.trans (hB8.mono hB.size)
  have hz8 : w.heap.size + 3 ≤ w8.heap.size := by have := hB8.size; omega
  have hD8 := Vt.dig hV8
  rw [Nat.zero_add] at hD8
  have hiD : (Tryd.prog.info? 26).map (·.size) = some (v8 c.v.d).length := by rw [v8_length, hc.v.dl]; exact iszD
  have c1 := fun w' (h : Below w8.heap.size w8 w') => s.b.xdig_any w' ((hs.b.below hBB).below h) hs.bl
  try simp only [Act.put]
  refine hs_begin (S := (Below w8.heap.size w8)) 7 rfl (by kernel_rfl) ?_
  rw [hw8]
  clear hw8
  have hS : (Below w8.heap.size w8) w8 := Below.refl _ _
  refine hs_take (i := 0) (d := some 23) (v := ?_) rfl (by kernel_rfl) (by kernel_rfl) (by kernel_rfl) (by rfl) ?_ hS rfl ?_
  rotate_left
  · intro w' hw
    go_simp
    try with_reducible rfl
  simp only [Act.put, List.setIfInBounds_toArray, List.set_cons_zero, List.set_cons_succ]
  refine hs_take (i := 1) (d := some 24) (v := ?_) rfl (by kernel_rfl) (by kernel_rfl) (by kernel_rfl) (by rfl) ?_ hS rfl ?_
  rotate_left
  · intro w' hw
    go_simp
    try with_reducible rfl
  simp only [Act.put, List.setIfInBounds_toArray, List.set_cons_zero, List.set_cons_succ]
  refine hs_take (i := 2) (d := some 25) (v := .agg (v8 c.v.d).toArray) rfl (by kernel_rfl) (by kernel_rfl) (by kernel_rfl) (by rfl) (fun w' hw => ex_mid rfl rfl (range_below hD8 hw (by omega)) Tryd.underlying26 rfl hiD) hS rfl ?_
  simp only [Act.put, List.setIfInBounds_toArray, List.set_cons_zero, List.set_cons_succ]
  refine hs_take (i := 3) (d := some 26) (v := ?_) rfl (by kernel_rfl) (by kernel_rfl) (by kernel_rfl) (by rfl) ?_ hS rfl ?_
  rotate_left
  · intro w' hw
    go_simp
    try with_reducible rfl
  simp only [Act.put, List.setIfInBounds_toArray, List.set_cons_zero, List.set_cons_succ]
  refine hs_take (i := 4) (d := some 27) (v := .agg s.b.cells.toArray) rfl (by kernel_rfl) (by kernel_rfl) (by kernel_rfl) (by rfl) (fun w' hw => ex_mid rfl rfl (range_below P8.b hw hA8.lt) Tryd.underlying24 rfl hisb) hS rfl ?_
  simp only [Act.put, List.setIfInBounds_toArray, List.set_cons_zero, List.set_cons_succ]
  refine hs_call (i := 5) (d := some 28) rfl (by kernel_rfl) (by rfl) (by go_simp; first | done | exact ⟨rfl, rfl⟩ | with_reducible rfl) rfl ?_
  refine (c1 w8 (Below.refl _ _)).mono ?_
  rintro e' w9 ⟨rfl, hB9⟩
  have hS : (Below w8.heap.size w8) w9 := hB9
  refine ⟨_, rfl, hS, ?_⟩
  simp only [Act.put, List.setIfInBounds_toArray, List.set_cons_zero, List.set_cons_succ]
  refine hs_take (i := 6) (d := some 29) (v := .bool false) rfl (by kernel_rfl) (by kernel_rfl) (by kernel_rfl) (by rfl) (fun w' hw => ex_bin rfl rfl rfl (by kernel_rfl) (by rw [neq_any _ _ hc.v.dl (Bat.dig_len _)]; simp [HD.out])) hS rfl ?_
  simp only [Act.put, List.setIfInBounds_toArray, List.set_cons_zero, List.set_cons_succ]
  refine hs_done (by kernel_rfl) ?_
  have hA := hA8.below hB9
  have hr2 := range_below hr8 hB9 (by omega)
  have hV := range_below hV8 hB9 (by omega)
  have hT := there_below hT8 hB9 (by omega)
  have hB : Below w.heap.size w w9 := hBB.trans (hB9.mono hBB.size)
  have hz9 : w.heap.size + 3 ≤ w9.heap.size := by have := hB9.size; omega
  have hTz : w9.there (w.heap.size + 1 + 1) 0 z0.toArray.size := by rw [z85a]; exact hT
  have hTs : w9.there (w.heap.size + 1 + 1) 0 s.cells.toArray.size := by rw [h85a]; exact hT
  clear hS hB8 hB9 hBB hA8 P8 P hr8 hV8 hT8 hD8 c1 v0 v1 v2 v3 c0 c3 hz8
  obtain ⟨v0, v1, v2, v3⟩ := Vt.four hV
  simp only [Nat.zero_add] at v0 v1 v2 v3
  have P := hA.parts hv
  have c43 := P.ho
  obtain ⟨h0, h1, h2', h3⟩ := Vt.four P.hv
  simp only [Nat.reduceAdd] at h0 h1 h2' h3
  rw [hho] at c43
  have h5 : ¬ s.hc.v.v ≥ c.v.v := h4
  clear his hk hho
  have hic : (Tryd.prog.info? 31).map (·.size) = some c.cells.length := by rw [Ce.len hc.v]; exact iszCe
  have h39 : (heldC s.b c).toArray.size = 39 := by simpa using heldC_len (b := s.b) hc.v
  have hih : (Tryd.prog.info? 33).map (·.size) = some (heldC s.b c).toArray.size := by rw [h39]; exact iszHe
  have hh1 := all_oneS (heldC_one s.b c)
  have hbh := fun w' => build_held s.b c hc.v w'
  have k1 := hA.ho hv true
  have k2 := k1.held ⟨hv.h, hv.e⟩ s.b c hc.v
  have hTh : (w9.setCells w.heap.size 43 [.bool true]).there w.heap.size 4 (heldC s.b c).toArray.size := by rw [h39]; exact there_part1 k1.th (by decide)
  have hb2 := (k1.parts ⟨hv.h, hv.e⟩).b
  have hrc : (w9.setCells w.heap.size 43 [.bool true]).rangeAt (w.heap.size + 1) 0 c.cells := World.rangeAt_setCells_apart hr2 _ _ _ (.inl (by omega))
  have hth := hA.th
  obtain ⟨hl, hhl⟩ : ∃ hl, Hid (heldC s.b c = hl) := ⟨_, hide rfl⟩
  rw [hhl.out] at k2 h39 hih hh1 hTh
  simp only [hhl.out] at hbh
  go_upto_region 9 with fail
  try simp only [Act.put]
  refine wp_region_list ?_
  refine wpList_step fun K hK => ?_
  go_simp
  refine hK _ _ ?_
  clear hK K
  refine wpList_put1 (v := .bool true) rfl 4 _ _ rfl rfl rfl hth (by decide) iszBo rfl rfl ?_
  go_upto_region 10 with fail
  try simp only [Act.put]
  refine wp_region_list ?_
  refine wpList_step fun K hK => ?_
  go_simp
  refine hK _ _ ?_
  clear hK K
  refine wpList_load_mid rfl 24 _ rfl _ _ rfl s.b.cells _ hb2 Tryd.underlying24 rfl hisb ?_
  refine wpList_load_mid rfl 31 _ rfl _ _ rfl c.cells _ hrc Tryd.underlying31 rfl hic ?_
  refine wpList_build rfl 33 [(0, .tmp 47), (1, .tmp 48)] rfl [(0, .agg s.b.cells.toArray), (1, .agg c.cells.toArray)] (.agg hl.toArray) rfl (hbh _) ?_
  refine wpList_step fun K hK => ?_
  go_simp
  refine hK _ _ ?_
  clear hK K
  refine wpList_store_mid rfl 33 _ _ rfl _ 4 hl.toArray rfl rfl hTh hih hh1 ?_
  go_upto_region 11 with fail
  have hT : ((w9.setCells w.heap.size 43 [.bool true]).setCells w.heap.size 4 hl).there (w.heap.size + 1 + 1) 0 85 := World.there_setCells (World.there_setCells hT _ _ _) _ _ _
  have hB : Below w.heap.size w ((w9.setCells w.heap.size 43 [.bool true]).setCells w.heap.size 4 hl) := below_sets (Nat.le_refl _) _ _ _ (below_sets (Nat.le_refl _) _ _ _ hB)
  have hr := k2.r
  go_name_world wz hwz
  rw [hwz] at hr hT hB
  clear hwz k1 k2 P hA hr2 hV hTz c43 v0 v1 v2 v3 h0 h1 h2' h3 hb2 hTh hih hh1 hbh hhl h39 hrc hth
  have h85' : (Sl.cells { s with hb := s.b, hc := c, ho := true }).length = 85 := Sl.len ⟨hc.v, hv.e⟩
  have h1s' := all_oneS (Sl.one { s with hb := s.b, hc := c, ho := true })
  obtain ⟨cs, hcs⟩ : ∃ cs, Hid (Sl.cells { s with hb := s.b, hc := c, ho := true } = cs) := ⟨_, hide rfl⟩
  rw [hcs.out] at hr h85' h1s'
  have hTs : wz.there (w.heap.size + 1 + 1) 0 cs.toArray.size := by rw [show cs.toArray.size = 85 by simpa using h85']; exact hT
  have hi85' : (Tryd.prog.info? 44).map (·.size) = some cs.length := by rw [h85']; exact iszTxslot
  have hi85a' : (Tryd.prog.info? 44).map (·.size) = some cs.toArray.size := by rw [show cs.toArray.size = 85 by simpa using h85']; exact iszTxslot
  go_wp2_with (first
      | (refine wpList_load_mid rfl 44 _ rfl _ _ rfl cs _ hr Tryd.underlying44 rfl hi85' ?_)
      | (refine wpList_store_mid rfl 44 _ _ rfl _ 0 (cs).toArray rfl rfl hTs hi85a' h1s' ?_))
  refine bodyPost_ret (results_ct rfl _ _ _ rfl (run_loadVar_mid (P := Tryd.prog) _ (w.heap.size + 1 + 1) 0 44 (cs) _ (World.rangeAt_setCells_same _ _ _ _ (by rw [h85']; exact hT)) Tryd.underlying44 rfl hi85')) rfl ?_
  exact ⟨by rw [← hcs.out]; rfl, below_sets (by omega) _ _ _ hB⟩
set_option maxRecDepth 100000 in
set_option maxHeartbeats 4000000 in
theorem xhold_any (s : Sl) (c : Ce) (w : World) (hs : s.ok w) (hc : c.at w) : Calls Tryd.prog 13 #[.agg s.cells.toArray, .agg c.cells.toArray] w fun e w' => e = .returned (.tuple #[.agg (holdP s c).1.cells.toArray, .int .i64 (holdP s c).2]) ∧ Below w.heap.size w w' := by
  by_cases hk : c.v.k = 1
  · cases his : s.is with
    | false => exact xhold_b s c w hs hc hk his
    | true =>
      by_cases h2 : c.v.v = s.vw
      · by_cases h3 : c.v.d = s.b.dig
        · cases hho : s.ho with
          | false => exact xhold_f s c w hs hc hk his h2 h3 hho
          | true =>
            by_cases h4 : c.v.v ≤ s.hc.v.v
            · exact xhold_e s c w hs hc hk his h2 h3 hho h4
            · exact xhold_g s c w hs hc hk his h2 h3 hho h4
        · exact xhold_d s c w hs hc hk his h2 h3
      · exact xhold_c s c w hs hc hk his h2
  · exact xhold_a s c w hs hc hk
end Go.Proofs.YtogmkcabndgllaaDoor
