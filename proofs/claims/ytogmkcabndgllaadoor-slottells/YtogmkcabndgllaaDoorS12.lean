/- the document's Decide -/
import Derived.Test.YtogmkcabndgllaaDoorSM
import Derived.Test.YtogmkcabndgllaaDoorS5
namespace Go.Proofs.YtogmkcabndgllaaDoor
open Go.RowKit
open Sha Tal
set_option linter.unusedVariables false
set_option maxRecDepth 100000 in
set_option maxHeartbeats 4000000 in
theorem xdec_a (s : Sl) (b : Bat) (c : Ce) (w : World) (hs : s.ok w) (hb : b.at w) (hbl : b.lt) (hc : c.at w) (hk : c.v.k ≠ 2) : Calls Tryd.prog 15 #[.agg s.cells.toArray, .agg b.cells.toArray, .agg c.cells.toArray] w fun e w' => e = .returned (.tuple #[.agg (decideP s b c).1.cells.toArray, .int .i64 (decideP s b c).2]) ∧ Below w.heap.size w w' := by
  have e : decideP s b c = (sl0, 181) := by unfold decideP; rw [if_pos (.inl hk)]
  simp only [e]
  clear e
  have hv := hs.vok
  have h85 : s.cells.length = 85 := Sl.len hv
  have h85a : s.cells.toArray.size = 85 := by simpa using h85
  have hi85 : (Tryd.prog.info? 44).map (·.size) = some s.cells.length := by rw [h85]; exact iszTxslot
  have h1s := all_oneS s.one
  have hi85a : (Tryd.prog.info? 44).map (·.size) = some s.cells.toArray.size := by rw [h85a]; exact iszTxslot
  obtain ⟨z0, hz0⟩ : ∃ z, Hid (sl0.cells = z) := ⟨_, hide rfl⟩
  have z85 : z0.length = 85 := by rw [← hz0.out]; rfl
  have z85a : z0.toArray.size = 85 := by simpa using z85
  have iz : (Tryd.prog.info? 44).map (·.size) = some z0.toArray.size := by rw [z85a]; exact iszTxslot
  have z1 : z0.toArray.all (·.oneCell') = true := by rw [← hz0.out]; exact all_oneS sl0.one
  have hbz : ∀ w', (Instr.build 44 #[]).run Tryd.prog w' = .ok (.agg z0.toArray) w' := fun w' => by rw [← hz0.out]; exact build_Txslot0 w'
  have hzv : ∀ w', (zeroValue 44).run Tryd.prog w' = .ok (.agg z0.toArray) w' := fun w' => by rw [← hz0.out]; exact zero_Txslot w'
  have hib : (Tryd.prog.info? 24).map (·.size) = some b.cells.length := iszB
  have hieb : (Tryd.prog.info? 24).map (·.size) = some s.eb.cells.length := iszB
  have hiD : (Tryd.prog.info? 26).map (·.size) = some (v8 c.v.d).length := by rw [v8_length, hc.v.dl]; exact iszD
  have hd32 : (v8 b.dig).toArray.size = 32 := by simpa using b.dig_len
  have hiD2 : (Tryd.prog.info? 26).map (·.size) = some (v8 b.dig).toArray.size := by rw [hd32]; exact iszD
  have hiD3 : (Tryd.prog.info? 26).map (·.size) = some (v8 b.dig).length := by rw [v8_length, b.dig_len]; exact iszD
  have hd1 := all_oneS (v8_one b.dig)
  go_enter Tryd.func15, Tryd.ntmps15
  go_upto_region 1 with fail
  go_name_world w1 hw1
  obtain ⟨hB1, hr1, ht1, hrb, hrc, hT1, hsz⟩ := box4 hw1
  clear hw1
  have hT1 : w1.there (w.heap.size + 1 + 1 + 1) 0 85 := by first | exact hT1 | (rw [z85a] at hT1; exact hT1)
  clear hzv
  rw [h85] at ht1
  have hA : SlAt w1 w.heap.size s := ⟨by omega, ht1, hr1⟩
  have cd := b.xdig_any w1 (hb.below hB1) hbl
  go_wp2_with (refine wpList_load_mid rfl 24 _ rfl _ _ rfl b.cells _ hrb Tryd.underlying24 rfl hib ?_)
  refine cd.mono ?_
  rintro _ w2 ⟨rfl, hB2⟩
  clear cd
  have hA := hA.below hB2
  have hrb := range_below hrb hB2 (by omega)
  have hrc := range_below hrc hB2 (by omega)
  have hT := there_below hT1 hB2 (by omega)
  have hB := hB1.trans (hB2.mono hB1.size)
  have hs2 := hB2.size
  clear hB2 hT1 hr1 ht1 hB1
  go_upto_region 2 with (refine wpList_store_mid rfl 26 _ _ rfl _ 0 (v8 b.dig).toArray rfl rfl (there_newN _ _ _ hd32.symm) hiD2 hd1 ?_)
  go_name_world w3 hw3
  obtain ⟨hB3, hD, hDl, -⟩ := box1 hw3 (by simpa using hd32)
  clear hw3
  have hA := hA.below hB3
  have hrb := range_below hrb hB3 (by omega)
  have hrc := range_below hrc hB3 (by omega)
  have hT := there_below hT hB3 (by omega)
  have hB := hB.trans (hB3.mono hB.size)
  have hs3 := hB3.size
  clear hB3
  obtain ⟨V, hVe⟩ : ∃ V, Hid (w2.heap.size = V) := ⟨_, hide rfl⟩
  rw [hVe.out] at hD hDl
  have hz2 : w.heap.size + 4 ≤ V := by rw [← hVe.out]; omega
  try rw [hVe.out]
  clear hVe hsz hs2 hs3
  have hrv : w3.rangeAt (w.heap.size + 1 + 1) 0 c.v.cells := range_left hrc
  obtain ⟨v0, v1, v2, v3⟩ := Vt.four hrv
  have hcd := Vt.dig hrv
  simp only [Nat.zero_add] at v0 v1 v2 v3 hcd
  have P := hA.parts hv
  have c84 := P.de
  have hTz : w3.there (w.heap.size + 1 + 1 + 1) 0 z0.toArray.size := by rw [z85a]; exact hT
  have hk1 : (c.v.k != 2) = true := by simpa using hk
  go_wp2_with (first
      | (refine wpList_build rfl 44 [] rfl [] (.agg z0.toArray) rfl (hbz _) ?_)
      | (refine wpList_store_mid rfl 44 _ _ rfl _ 0 z0.toArray rfl rfl hTz iz z1 ?_))
  refine bodyPost_ret (results_ct rfl _ _ _ rfl (run_loadVar_mid (P := Tryd.prog) _ (w.heap.size + 1 + 1 + 1) 0 44 z0 _ (World.rangeAt_setCells_same _ _ _ _ (by rw [z85]; exact hT)) Tryd.underlying44 rfl (by simpa using iz))) rfl ?_
  exact ⟨by rw [hz0.out]; rfl, below_sets (by omega) _ _ _ hB⟩
set_option maxRecDepth 100000 in
set_option maxHeartbeats 4000000 in
theorem xdec_b (s : Sl) (b : Bat) (c : Ce) (w : World) (hs : s.ok w) (hb : b.at w) (hbl : b.lt) (hc : c.at w) (hk : c.v.k = 2) (h2 : c.v.d ≠ b.dig) : Calls Tryd.prog 15 #[.agg s.cells.toArray, .agg b.cells.toArray, .agg c.cells.toArray] w fun e w' => e = .returned (.tuple #[.agg (decideP s b c).1.cells.toArray, .int .i64 (decideP s b c).2]) ∧ Below w.heap.size w w' := by
  have e : decideP s b c = (sl0, 181) := by unfold decideP; rw [if_pos (.inr h2)]
  simp only [e]
  clear e
  have hneq : ∀ w : World, (binOp .neq 26 (.agg (v8 c.v.d).toArray) (.agg (v8 b.dig).toArray)).run Tryd.prog w = .ok (.bool true) w := fun w => by rw [neq_any _ _ hc.v.dl (Bat.dig_len _)]; simp [h2]
  clear h2
  have hv := hs.vok
  have h85 : s.cells.length = 85 := Sl.len hv
  have h85a : s.cells.toArray.size = 85 := by simpa using h85
  have hi85 : (Tryd.prog.info? 44).map (·.size) = some s.cells.length := by rw [h85]; exact iszTxslot
  have h1s := all_oneS s.one
  have hi85a : (Tryd.prog.info? 44).map (·.size) = some s.cells.toArray.size := by rw [h85a]; exact iszTxslot
  obtain ⟨z0, hz0⟩ : ∃ z, Hid (sl0.cells = z) := ⟨_, hide rfl⟩
  have z85 : z0.length = 85 := by rw [← hz0.out]; rfl
  have z85a : z0.toArray.size = 85 := by simpa using z85
  have iz : (Tryd.prog.info? 44).map (·.size) = some z0.toArray.size := by rw [z85a]; exact iszTxslot
  have z1 : z0.toArray.all (·.oneCell') = true := by rw [← hz0.out]; exact all_oneS sl0.one
  have hbz : ∀ w', (Instr.build 44 #[]).run Tryd.prog w' = .ok (.agg z0.toArray) w' := fun w' => by rw [← hz0.out]; exact build_Txslot0 w'
  have hzv : ∀ w', (zeroValue 44).run Tryd.prog w' = .ok (.agg z0.toArray) w' := fun w' => by rw [← hz0.out]; exact zero_Txslot w'
  have hib : (Tryd.prog.info? 24).map (·.size) = some b.cells.length := iszB
  have hieb : (Tryd.prog.info? 24).map (·.size) = some s.eb.cells.length := iszB
  have hiD : (Tryd.prog.info? 26).map (·.size) = some (v8 c.v.d).length := by rw [v8_length, hc.v.dl]; exact iszD
  have hd32 : (v8 b.dig).toArray.size = 32 := by simpa using b.dig_len
  have hiD2 : (Tryd.prog.info? 26).map (·.size) = some (v8 b.dig).toArray.size := by rw [hd32]; exact iszD
  have hiD3 : (Tryd.prog.info? 26).map (·.size) = some (v8 b.dig).length := by rw [v8_length, b.dig_len]; exact iszD
  have hd1 := all_oneS (v8_one b.dig)
  go_enter Tryd.func15, Tryd.ntmps15
  go_upto_region 1 with fail
  go_name_world w1 hw1
  obtain ⟨hB1, hr1, ht1, hrb, hrc, hT1, hsz⟩ := box4 hw1
  clear hw1
  have hT1 : w1.there (w.heap.size + 1 + 1 + 1) 0 85 := by first | exact hT1 | (rw [z85a] at hT1; exact hT1)
  clear hzv
  rw [h85] at ht1
  have hA : SlAt w1 w.heap.size s := ⟨by omega, ht1, hr1⟩
  have cd := b.xdig_any w1 (hb.below hB1) hbl
  go_wp2_with (refine wpList_load_mid rfl 24 _ rfl _ _ rfl b.cells _ hrb Tryd.underlying24 rfl hib ?_)
  refine cd.mono ?_
  rintro _ w2 ⟨rfl, hB2⟩
  clear cd
  have hA := hA.below hB2
  have hrb := range_below hrb hB2 (by omega)
  have hrc := range_below hrc hB2 (by omega)
  have hT := there_below hT1 hB2 (by omega)
  have hB := hB1.trans (hB2.mono hB1.size)
  have hs2 := hB2.size
  clear hB2 hT1 hr1 ht1 hB1
  go_upto_region 2 with (refine wpList_store_mid rfl 26 _ _ rfl _ 0 (v8 b.dig).toArray rfl rfl (there_newN _ _ _ hd32.symm) hiD2 hd1 ?_)
  go_name_world w3 hw3
  obtain ⟨hB3, hD, hDl, -⟩ := box1 hw3 (by simpa using hd32)
  clear hw3
  have hA := hA.below hB3
  have hrb := range_below hrb hB3 (by omega)
  have hrc := range_below hrc hB3 (by omega)
  have hT := there_below hT hB3 (by omega)
  have hB := hB.trans (hB3.mono hB.size)
  have hs3 := hB3.size
  clear hB3
  obtain ⟨V, hVe⟩ : ∃ V, Hid (w2.heap.size = V) := ⟨_, hide rfl⟩
  rw [hVe.out] at hD hDl
  have hz2 : w.heap.size + 4 ≤ V := by rw [← hVe.out]; omega
  try rw [hVe.out]
  clear hVe hsz hs2 hs3
  have hrv : w3.rangeAt (w.heap.size + 1 + 1) 0 c.v.cells := range_left hrc
  obtain ⟨v0, v1, v2, v3⟩ := Vt.four hrv
  have hcd := Vt.dig hrv
  simp only [Nat.zero_add] at v0 v1 v2 v3 hcd
  have P := hA.parts hv
  have c84 := P.de
  have hTz : w3.there (w.heap.size + 1 + 1 + 1) 0 z0.toArray.size := by rw [z85a]; exact hT
  rw [hk] at v0
  go_wp2_with (first
    | (refine wpList_load_g (by rfl) 26 _ rfl (w.heap.size + 1 + 1) 4 rfl (v8 c.v.d) _ hcd Tryd.underlying26 rfl hiD ?_)
    | (refine wpList_load_g (by rfl) 26 _ rfl V 0 rfl (v8 b.dig) _ hD Tryd.underlying26 rfl hiD3 ?_)
    | (first
      | (refine wpList_build rfl 44 [] rfl [] (.agg z0.toArray) rfl (hbz _) ?_)
      | (refine wpList_store_mid rfl 44 _ _ rfl _ 0 z0.toArray rfl rfl hTz iz z1 ?_)))
  refine bodyPost_ret (results_ct rfl _ _ _ rfl (run_loadVar_mid (P := Tryd.prog) _ (w.heap.size + 1 + 1 + 1) 0 44 z0 _ (World.rangeAt_setCells_same _ _ _ _ (by rw [z85]; exact hT)) Tryd.underlying44 rfl (by simpa using iz))) rfl ?_
  exact ⟨by rw [hz0.out]; rfl, below_sets (by omega) _ _ _ hB⟩
set_option maxRecDepth 100000 in
set_option maxHeartbeats 4000000 in
theorem xdec_c (s : Sl) (b : Bat) (c : Ce) (w : World) (hs : s.ok w) (hb : b.at w) (hbl : b.lt) (hc : c.at w) (hk : c.v.k = 2) (h2 : c.v.d = b.dig) (hde : s.de = true) (h3 : s.eb.dig ≠ b.dig) : Calls Tryd.prog 15 #[.agg s.cells.toArray, .agg b.cells.toArray, .agg c.cells.toArray] w fun e w' => e = .returned (.tuple #[.agg (decideP s b c).1.cells.toArray, .int .i64 (decideP s b c).2]) ∧ Below w.heap.size w w' := by
  have e : decideP s b c = (sl0, 181) := by unfold decideP; rw [if_neg (by simp [hk, h2]), if_pos hde, if_neg h3]
  simp only [e]
  clear e
  have hneq : ∀ w : World, (binOp .neq 26 (.agg (v8 c.v.d).toArray) (.agg (v8 b.dig).toArray)).run Tryd.prog w = .ok (.bool false) w := fun w => by rw [neq_any _ _ hc.v.dl (Bat.dig_len _)]; simp [h2]
  clear h2
  have HD := hide h3
  clear h3
  have hv := hs.vok
  have h85 : s.cells.length = 85 := Sl.len hv
  have h85a : s.cells.toArray.size = 85 := by simpa using h85
  have hi85 : (Tryd.prog.info? 44).map (·.size) = some s.cells.length := by rw [h85]; exact iszTxslot
  have h1s := all_oneS s.one
  have hi85a : (Tryd.prog.info? 44).map (·.size) = some s.cells.toArray.size := by rw [h85a]; exact iszTxslot
  obtain ⟨z0, hz0⟩ : ∃ z, Hid (sl0.cells = z) := ⟨_, hide rfl⟩
  have z85 : z0.length = 85 := by rw [← hz0.out]; rfl
  have z85a : z0.toArray.size = 85 := by simpa using z85
  have iz : (Tryd.prog.info? 44).map (·.size) = some z0.toArray.size := by rw [z85a]; exact iszTxslot
  have z1 : z0.toArray.all (·.oneCell') = true := by rw [← hz0.out]; exact all_oneS sl0.one
  have hbz : ∀ w', (Instr.build 44 #[]).run Tryd.prog w' = .ok (.agg z0.toArray) w' := fun w' => by rw [← hz0.out]; exact build_Txslot0 w'
  have hzv : ∀ w', (zeroValue 44).run Tryd.prog w' = .ok (.agg z0.toArray) w' := fun w' => by rw [← hz0.out]; exact zero_Txslot w'
  have hib : (Tryd.prog.info? 24).map (·.size) = some b.cells.length := iszB
  have hieb : (Tryd.prog.info? 24).map (·.size) = some s.eb.cells.length := iszB
  have hiD : (Tryd.prog.info? 26).map (·.size) = some (v8 c.v.d).length := by rw [v8_length, hc.v.dl]; exact iszD
  have hd32 : (v8 b.dig).toArray.size = 32 := by simpa using b.dig_len
  have hiD2 : (Tryd.prog.info? 26).map (·.size) = some (v8 b.dig).toArray.size := by rw [hd32]; exact iszD
  have hiD3 : (Tryd.prog.info? 26).map (·.size) = some (v8 b.dig).length := by rw [v8_length, b.dig_len]; exact iszD
  have hd1 := all_oneS (v8_one b.dig)
  go_enter Tryd.func15, Tryd.ntmps15
  go_upto_region 1 with fail
  go_name_world w1 hw1
  obtain ⟨hB1, hr1, ht1, hrb, hrc, hT1, hsz⟩ := box4 hw1
  clear hw1
  have hT1 : w1.there (w.heap.size + 1 + 1 + 1) 0 85 := by first | exact hT1 | (rw [z85a] at hT1; exact hT1)
  clear hzv
  rw [h85] at ht1
  have hA : SlAt w1 w.heap.size s := ⟨by omega, ht1, hr1⟩
  have cd := b.xdig_any w1 (hb.below hB1) hbl
  go_wp2_with (refine wpList_load_mid rfl 24 _ rfl _ _ rfl b.cells _ hrb Tryd.underlying24 rfl hib ?_)
  refine cd.mono ?_
  rintro _ w2 ⟨rfl, hB2⟩
  clear cd
  have hA := hA.below hB2
  have hrb := range_below hrb hB2 (by omega)
  have hrc := range_below hrc hB2 (by omega)
  have hT := there_below hT1 hB2 (by omega)
  have hB := hB1.trans (hB2.mono hB1.size)
  have hs2 := hB2.size
  clear hB2 hT1 hr1 ht1 hB1
  go_upto_region 2 with (refine wpList_store_mid rfl 26 _ _ rfl _ 0 (v8 b.dig).toArray rfl rfl (there_newN _ _ _ hd32.symm) hiD2 hd1 ?_)
  go_name_world w3 hw3
  obtain ⟨hB3, hD, hDl, -⟩ := box1 hw3 (by simpa using hd32)
  clear hw3
  have hA := hA.below hB3
  have hrb := range_below hrb hB3 (by omega)
  have hrc := range_below hrc hB3 (by omega)
  have hT := there_below hT hB3 (by omega)
  have hB := hB.trans (hB3.mono hB.size)
  have hs3 := hB3.size
  clear hB3
  obtain ⟨V, hVe⟩ : ∃ V, Hid (w2.heap.size = V) := ⟨_, hide rfl⟩
  rw [hVe.out] at hD hDl
  have hz2 : w.heap.size + 4 ≤ V := by rw [← hVe.out]; omega
  try rw [hVe.out]
  clear hVe hsz hs2 hs3
  have hrv : w3.rangeAt (w.heap.size + 1 + 1) 0 c.v.cells := range_left hrc
  obtain ⟨v0, v1, v2, v3⟩ := Vt.four hrv
  have hcd := Vt.dig hrv
  simp only [Nat.zero_add] at v0 v1 v2 v3 hcd
  have P := hA.parts hv
  have c84 := P.de
  have hTz : w3.there (w.heap.size + 1 + 1 + 1) 0 z0.toArray.size := by rw [z85a]; exact hT
  rw [hk] at v0
  rw [hde] at c84
  go_upto_region 5 with (first
    | (refine wpList_load_g (by rfl) 26 _ rfl (w.heap.size + 1 + 1) 4 rfl (v8 c.v.d) _ hcd Tryd.underlying26 rfl hiD ?_)
    | (refine wpList_load_g (by rfl) 26 _ rfl V 0 rfl (v8 b.dig) _ hD Tryd.underlying26 rfl hiD3 ?_))
  obtain ⟨w8, hw8⟩ : ∃ w8, w3.drew = w8 := ⟨_, rfl⟩
  have hB8 : Below w3.heap.size w3 w8 := by rw [← hw8]; exact (Below.refl _ _).drew
  have hA8 := hA.below hB8
  have P8 := hA8.parts hv
  have hD8 := range_below hD hB8 hDl
  have hT8 := there_below hT hB8 (by omega)
  have hBB : Below w.heap.size w w8 := hB.trans (hB8.mono hB.size)
  have hz8 : V < w8.heap.size := by have := hB8.size; omega
  have c1 := fun w' (h : Below w8.heap.size w8 w') => s.eb.xdig_any w' ((hs.eb.below hBB).below h) hs.ebl
  try simp only [Act.put]
  refine hs_begin (S := (Below w8.heap.size w8)) 6 rfl (by kernel_rfl) ?_
  rw [hw8]
  clear hw8
  have hS : (Below w8.heap.size w8) w8 := Below.refl _ _
  refine hs_take (i := 0) (d := some 25) (v := ?_) rfl (by kernel_rfl) (by kernel_rfl) (by kernel_rfl) (by rfl) ?_ hS rfl ?_
  rotate_left
  · intro w' hw
    go_simp
    try with_reducible rfl
  simp only [Act.put, List.setIfInBounds_toArray, List.set_cons_zero, List.set_cons_succ]
  refine hs_take (i := 1) (d := some 26) (v := ?_) rfl (by kernel_rfl) (by kernel_rfl) (by kernel_rfl) (by rfl) ?_ hS rfl ?_
  rotate_left
  · intro w' hw
    go_simp
    try with_reducible rfl
  simp only [Act.put, List.setIfInBounds_toArray, List.set_cons_zero, List.set_cons_succ]
  refine hs_take (i := 2) (d := some 27) (v := .agg s.eb.cells.toArray) rfl (by kernel_rfl) (by kernel_rfl) (by kernel_rfl) (by rfl) (fun w' hw => ex_mid rfl rfl (range_below P8.eb hw hA8.lt) Tryd.underlying24 rfl hieb) hS rfl ?_
  simp only [Act.put, List.setIfInBounds_toArray, List.set_cons_zero, List.set_cons_succ]
  refine hs_take (i := 4) (d := some 29) (v := .agg (v8 b.dig).toArray) rfl (by kernel_rfl) (by kernel_rfl) (by kernel_rfl) (by rfl) (fun w' hw => ex_mid rfl rfl (range_below hD8 hw (by omega)) Tryd.underlying26 rfl hiD3) hS rfl ?_
  simp only [Act.put, List.setIfInBounds_toArray, List.set_cons_zero, List.set_cons_succ]
  refine hs_call (i := 3) (d := some 28) rfl (by kernel_rfl) (by rfl) (by go_simp; first | done | exact ⟨rfl, rfl⟩ | with_reducible rfl) rfl ?_
  refine (c1 w8 (Below.refl _ _)).mono ?_
  rintro e' w9 ⟨rfl, hB9⟩
  have hS : (Below w8.heap.size w8) w9 := hB9
  refine ⟨_, rfl, hS, ?_⟩
  simp only [Act.put, List.setIfInBounds_toArray, List.set_cons_zero, List.set_cons_succ]
  refine hs_take (i := 5) (d := some 30) (v := .bool true) rfl (by kernel_rfl) (by kernel_rfl) (by kernel_rfl) (by rfl) (fun w' hw => ex_bin rfl rfl rfl (by kernel_rfl) (by rw [neq_any _ _ (Bat.dig_len _) (Bat.dig_len _)]; simp [HD.out])) hS rfl ?_
  simp only [Act.put, List.setIfInBounds_toArray, List.set_cons_zero, List.set_cons_succ]
  refine hs_done (by kernel_rfl) ?_
  have hA := hA8.below hB9
  have hT := there_below hT8 hB9 (by omega)
  have hB : Below w.heap.size w w9 := hBB.trans (hB9.mono hBB.size)
  have hz9 : V < w9.heap.size := by have := hB9.size; omega
  have hTz : w9.there (w.heap.size + 1 + 1 + 1) 0 z0.toArray.size := by rw [z85a]; exact hT
  have hTs : w9.there (w.heap.size + 1 + 1 + 1) 0 s.cells.toArray.size := by rw [h85a]; exact hT
  have hr := hA.r
  clear hS hB8 hB9 hBB hA8 P8 P hD8 hT8 c1 v0 v1 v2 v3 hz8 hcd hrv c84
  go_wp2_with (first
      | (refine wpList_build rfl 44 [] rfl [] (.agg z0.toArray) rfl (hbz _) ?_)
      | (refine wpList_store_mid rfl 44 _ _ rfl _ 0 z0.toArray rfl rfl hTz iz z1 ?_))
  refine bodyPost_ret (results_ct rfl _ _ _ rfl (run_loadVar_mid (P := Tryd.prog) _ (w.heap.size + 1 + 1 + 1) 0 44 z0 _ (World.rangeAt_setCells_same _ _ _ _ (by rw [z85]; exact hT)) Tryd.underlying44 rfl (by simpa using iz))) rfl ?_
  exact ⟨by rw [hz0.out]; rfl, below_sets (by omega) _ _ _ hB⟩
set_option maxRecDepth 100000 in
set_option maxHeartbeats 4000000 in
theorem xdec_d (s : Sl) (b : Bat) (c : Ce) (w : World) (hs : s.ok w) (hb : b.at w) (hbl : b.lt) (hc : c.at w) (hk : c.v.k = 2) (h2 : c.v.d = b.dig) (hde : s.de = true) (h3 : s.eb.dig = b.dig) : Calls Tryd.prog 15 #[.agg s.cells.toArray, .agg b.cells.toArray, .agg c.cells.toArray] w fun e w' => e = .returned (.tuple #[.agg (decideP s b c).1.cells.toArray, .int .i64 (decideP s b c).2]) ∧ Below w.heap.size w w' := by
  have e : decideP s b c = (s, 0) := by unfold decideP; rw [if_neg (by simp [hk, h2]), if_pos hde, if_pos h3]
  simp only [e]
  clear e
  have hneq : ∀ w : World, (binOp .neq 26 (.agg (v8 c.v.d).toArray) (.agg (v8 b.dig).toArray)).run Tryd.prog w = .ok (.bool false) w := fun w => by rw [neq_any _ _ hc.v.dl (Bat.dig_len _)]; simp [h2]
  clear h2
  have HD := hide h3
  clear h3
  have hv := hs.vok
  have h85 : s.cells.length = 85 := Sl.len hv
  have h85a : s.cells.toArray.size = 85 := by simpa using h85
  have hi85 : (Tryd.prog.info? 44).map (·.size) = some s.cells.length := by rw [h85]; exact iszTxslot
  have h1s := all_oneS s.one
  have hi85a : (Tryd.prog.info? 44).map (·.size) = some s.cells.toArray.size := by rw [h85a]; exact iszTxslot
  obtain ⟨z0, hz0⟩ : ∃ z, Hid (sl0.cells = z) := ⟨_, hide rfl⟩
  have z85 : z0.length = 85 := by rw [← hz0.out]; rfl
  have z85a : z0.toArray.size = 85 := by simpa using z85
  have iz : (Tryd.prog.info? 44).map (·.size) = some z0.toArray.size := by rw [z85a]; exact iszTxslot
  have z1 : z0.toArray.all (·.oneCell') = true := by rw [← hz0.out]; exact all_oneS sl0.one
  have hbz : ∀ w', (Instr.build 44 #[]).run Tryd.prog w' = .ok (.agg z0.toArray) w' := fun w' => by rw [← hz0.out]; exact build_Txslot0 w'
  have hzv : ∀ w', (zeroValue 44).run Tryd.prog w' = .ok (.agg z0.toArray) w' := fun w' => by rw [← hz0.out]; exact zero_Txslot w'
  have hib : (Tryd.prog.info? 24).map (·.size) = some b.cells.length := iszB
  have hieb : (Tryd.prog.info? 24).map (·.size) = some s.eb.cells.length := iszB
  have hiD : (Tryd.prog.info? 26).map (·.size) = some (v8 c.v.d).length := by rw [v8_length, hc.v.dl]; exact iszD
  have hd32 : (v8 b.dig).toArray.size = 32 := by simpa using b.dig_len
  have hiD2 : (Tryd.prog.info? 26).map (·.size) = some (v8 b.dig).toArray.size := by rw [hd32]; exact iszD
  have hiD3 : (Tryd.prog.info? 26).map (·.size) = some (v8 b.dig).length := by rw [v8_length, b.dig_len]; exact iszD
  have hd1 := all_oneS (v8_one b.dig)
  go_enter Tryd.func15, Tryd.ntmps15
  go_upto_region 1 with fail
  go_name_world w1 hw1
  obtain ⟨hB1, hr1, ht1, hrb, hrc, hT1, hsz⟩ := box4 hw1
  clear hw1
  have hT1 : w1.there (w.heap.size + 1 + 1 + 1) 0 85 := by first | exact hT1 | (rw [z85a] at hT1; exact hT1)
  clear hzv
  rw [h85] at ht1
  have hA : SlAt w1 w.heap.size s := ⟨by omega, ht1, hr1⟩
  have cd := b.xdig_any w1 (hb.below hB1) hbl
  go_wp2_with (refine wpList_load_mid rfl 24 _ rfl _ _ rfl b.cells _ hrb Tryd.underlying24 rfl hib ?_)
  refine cd.mono ?_
  rintro _ w2 ⟨rfl, hB2⟩
  clear cd
  have hA := hA.below hB2
  have hrb := range_below hrb hB2 (by omega)
  have hrc := range_below hrc hB2 (by omega)
  have hT := there_below hT1 hB2 (by omega)
  have hB := hB1.trans (hB2.mono hB1.size)
  have hs2 := hB2.size
  clear hB2 hT1 hr1 ht1 hB1
  go_upto_region 2 with (refine wpList_store_mid rfl 26 _ _ rfl _ 0 (v8 b.dig).toArray rfl rfl (there_newN _ _ _ hd32.symm) hiD2 hd1 ?_)
  go_name_world w3 hw3
  obtain ⟨hB3, hD, hDl, -⟩ := box1 hw3 (by simpa using hd32)
  clear hw3
  have hA := hA.below hB3
  have hrb := range_below hrb hB3 (by omega)
  have hrc := range_below hrc hB3 (by omega)
  have hT := there_below hT hB3 (by omega)
  have hB := hB.trans (hB3.mono hB.size)
  have hs3 := hB3.size
  clear hB3
  obtain ⟨V, hVe⟩ : ∃ V, Hid (w2.heap.size = V) := ⟨_, hide rfl⟩
  rw [hVe.out] at hD hDl
  have hz2 : w.heap.size + 4 ≤ V := by rw [← hVe.out]; omega
  try rw [hVe.out]
  clear hVe hsz hs2 hs3
  have hrv : w3.rangeAt (w.heap.size + 1 + 1) 0 c.v.cells := range_left hrc
  obtain ⟨v0, v1, v2, v3⟩ := Vt.four hrv
  have hcd := Vt.dig hrv
  simp only [Nat.zero_add] at v0 v1 v2 v3 hcd
  have P := hA.parts hv
  have c84 := P.de
  have hTz : w3.there (w.heap.size + 1 + 1 + 1) 0 z0.toArray.size := by rw [z85a]; exact hT
  rw [hk] at v0
  rw [hde] at c84
  go_upto_region 5 with (first
    | (refine wpList_load_g (by rfl) 26 _ rfl (w.heap.size + 1 + 1) 4 rfl (v8 c.v.d) _ hcd Tryd.underlying26 rfl hiD ?_)
    | (refine wpList_load_g (by rfl) 26 _ rfl V 0 rfl (v8 b.dig) _ hD Tryd.underlying26 rfl hiD3 ?_))
  obtain ⟨w8, hw8⟩ : ∃ w8, w3.drew = w8 := ⟨_, rfl⟩
  have hB8 : Below w3.heap.size w3 w8 := by rw [← hw8]; exact (Below.refl _ _).drew
  have hA8 := hA.below hB8
  have P8 := hA8.parts hv
  have hD8 := range_below hD hB8 hDl
  have hT8 := there_below hT hB8 (by omega)
  have hBB : Below w.heap.size w w8 := hB.trans (hB8.mono hB.size)
  have hz8 : V < w8.heap.size := by have := hB8.size; omega
  have c1 := fun w' (h : Below w8.heap.size w8 w') => s.eb.xdig_any w' ((hs.eb.below hBB).below h) hs.ebl
  try simp only [Act.put]
  refine hs_begin (S := (Below w8.heap.size w8)) 6 rfl (by kernel_rfl) ?_
  rw [hw8]
  clear hw8
  have hS : (Below w8.heap.size w8) w8 := Below.refl _ _
  refine hs_take (i := 0) (d := some 25) (v := ?_) rfl (by kernel_rfl) (by kernel_rfl) (by kernel_rfl) (by rfl) ?_ hS rfl ?_
  rotate_left
  · intro w' hw
    go_simp
    try with_reducible rfl
  simp only [Act.put, List.setIfInBounds_toArray, List.set_cons_zero, List.set_cons_succ]
  refine hs_take (i := 1) (d := some 26) (v := ?_) rfl (by kernel_rfl) (by kernel_rfl) (by kernel_rfl) (by rfl) ?_ hS rfl ?_
  rotate_left
  · intro w' hw
    go_simp
    try with_reducible rfl
  simp only [Act.put, List.setIfInBounds_toArray, List.set_cons_zero, List.set_cons_succ]
  refine hs_take (i := 2) (d := some 27) (v := .agg s.eb.cells.toArray) rfl (by kernel_rfl) (by kernel_rfl) (by kernel_rfl) (by rfl) (fun w' hw => ex_mid rfl rfl (range_below P8.eb hw hA8.lt) Tryd.underlying24 rfl hieb) hS rfl ?_
  simp only [Act.put, List.setIfInBounds_toArray, List.set_cons_zero, List.set_cons_succ]
  refine hs_take (i := 4) (d := some 29) (v := .agg (v8 b.dig).toArray) rfl (by kernel_rfl) (by kernel_rfl) (by kernel_rfl) (by rfl) (fun w' hw => ex_mid rfl rfl (range_below hD8 hw (by omega)) Tryd.underlying26 rfl hiD3) hS rfl ?_
  simp only [Act.put, List.setIfInBounds_toArray, List.set_cons_zero, List.set_cons_succ]
  refine hs_call (i := 3) (d := some 28) rfl (by kernel_rfl) (by rfl) (by go_simp; first | done | exact ⟨rfl, rfl⟩ | with_reducible rfl) rfl ?_
  refine (c1 w8 (Below.refl _ _)).mono ?_
  rintro e' w9 ⟨rfl, hB9⟩
  have hS : (Below w8.heap.size w8) w9 := hB9
  refine ⟨_, rfl, hS, ?_⟩
  simp only [Act.put, List.setIfInBounds_toArray, List.set_cons_zero, List.set_cons_succ]
  refine hs_take (i := 5) (d := some 30) (v := .bool false) rfl (by kernel_rfl) (by kernel_rfl) (by kernel_rfl) (by rfl) (fun w' hw => ex_bin rfl rfl rfl (by kernel_rfl) (by rw [neq_any _ _ (Bat.dig_len _) (Bat.dig_len _)]; simp [HD.out])) hS rfl ?_
  simp only [Act.put, List.setIfInBounds_toArray, List.set_cons_zero, List.set_cons_succ]
  refine hs_done (by kernel_rfl) ?_
  have hA := hA8.below hB9
  have hT := there_below hT8 hB9 (by omega)
  have hB : Below w.heap.size w w9 := hBB.trans (hB9.mono hBB.size)
  have hz9 : V < w9.heap.size := by have := hB9.size; omega
  have hTz : w9.there (w.heap.size + 1 + 1 + 1) 0 z0.toArray.size := by rw [z85a]; exact hT
  have hTs : w9.there (w.heap.size + 1 + 1 + 1) 0 s.cells.toArray.size := by rw [h85a]; exact hT
  have hr := hA.r
  clear hS hB8 hB9 hBB hA8 P8 P hD8 hT8 c1 v0 v1 v2 v3 hz8 hcd hrv c84
  go_wp2_with (first
      | (refine wpList_load_mid rfl 44 _ rfl _ _ rfl s.cells _ hr Tryd.underlying44 rfl hi85 ?_)
      | (refine wpList_store_mid rfl 44 _ _ rfl _ 0 (s.cells).toArray rfl rfl hTs hi85a h1s ?_))
  refine bodyPost_ret (results_ct rfl _ _ _ rfl (run_loadVar_mid (P := Tryd.prog) _ (w.heap.size + 1 + 1 + 1) 0 44 (s.cells) _ (World.rangeAt_setCells_same _ _ _ _ (by rw [h85]; exact hT)) Tryd.underlying44 rfl hi85)) rfl ?_
  exact ⟨rfl, below_sets (by omega) _ _ _ hB⟩
set_option maxRecDepth 100000 in
set_option maxHeartbeats 4000000 in
theorem xdec_e (s : Sl) (b : Bat) (c : Ce) (w : World) (hs : s.ok w) (hb : b.at w) (hbl : b.lt) (hc : c.at w) (hk : c.v.k = 2) (h2 : c.v.d = b.dig) (hde : s.de = false) : Calls Tryd.prog 15 #[.agg s.cells.toArray, .agg b.cells.toArray, .agg c.cells.toArray] w fun e w' => e = .returned (.tuple #[.agg (decideP s b c).1.cells.toArray, .int .i64 (decideP s b c).2]) ∧ Below w.heap.size w w' := by
  have e : decideP s b c = ({ s with es := c.v.s, eb := b, ec := c, de := true }, 0) := by unfold decideP; rw [if_neg (by simp [hk, h2]), if_neg (by simp [hde])]
  simp only [e]
  clear e
  have hneq : ∀ w : World, (binOp .neq 26 (.agg (v8 c.v.d).toArray) (.agg (v8 b.dig).toArray)).run Tryd.prog w = .ok (.bool false) w := fun w => by rw [neq_any _ _ hc.v.dl (Bat.dig_len _)]; simp [h2]
  clear h2
  have hv := hs.vok
  have h85 : s.cells.length = 85 := Sl.len hv
  have h85a : s.cells.toArray.size = 85 := by simpa using h85
  have hi85 : (Tryd.prog.info? 44).map (·.size) = some s.cells.length := by rw [h85]; exact iszTxslot
  have h1s := all_oneS s.one
  have hi85a : (Tryd.prog.info? 44).map (·.size) = some s.cells.toArray.size := by rw [h85a]; exact iszTxslot
  obtain ⟨z0, hz0⟩ : ∃ z, Hid (sl0.cells = z) := ⟨_, hide rfl⟩
  have z85 : z0.length = 85 := by rw [← hz0.out]; rfl
  have z85a : z0.toArray.size = 85 := by simpa using z85
  have iz : (Tryd.prog.info? 44).map (·.size) = some z0.toArray.size := by rw [z85a]; exact iszTxslot
  have z1 : z0.toArray.all (·.oneCell') = true := by rw [← hz0.out]; exact all_oneS sl0.one
  have hbz : ∀ w', (Instr.build 44 #[]).run Tryd.prog w' = .ok (.agg z0.toArray) w' := fun w' => by rw [← hz0.out]; exact build_Txslot0 w'
  have hzv : ∀ w', (zeroValue 44).run Tryd.prog w' = .ok (.agg z0.toArray) w' := fun w' => by rw [← hz0.out]; exact zero_Txslot w'
  have hib : (Tryd.prog.info? 24).map (·.size) = some b.cells.length := iszB
  have hieb : (Tryd.prog.info? 24).map (·.size) = some s.eb.cells.length := iszB
  have hiD : (Tryd.prog.info? 26).map (·.size) = some (v8 c.v.d).length := by rw [v8_length, hc.v.dl]; exact iszD
  have hd32 : (v8 b.dig).toArray.size = 32 := by simpa using b.dig_len
  have hiD2 : (Tryd.prog.info? 26).map (·.size) = some (v8 b.dig).toArray.size := by rw [hd32]; exact iszD
  have hiD3 : (Tryd.prog.info? 26).map (·.size) = some (v8 b.dig).length := by rw [v8_length, b.dig_len]; exact iszD
  have hd1 := all_oneS (v8_one b.dig)
  go_enter Tryd.func15, Tryd.ntmps15
  go_upto_region 1 with fail
  go_name_world w1 hw1
  obtain ⟨hB1, hr1, ht1, hrb, hrc, hT1, hsz⟩ := box4 hw1
  clear hw1
  have hT1 : w1.there (w.heap.size + 1 + 1 + 1) 0 85 := by first | exact hT1 | (rw [z85a] at hT1; exact hT1)
  clear hzv
  rw [h85] at ht1
  have hA : SlAt w1 w.heap.size s := ⟨by omega, ht1, hr1⟩
  have cd := b.xdig_any w1 (hb.below hB1) hbl
  go_wp2_with (refine wpList_load_mid rfl 24 _ rfl _ _ rfl b.cells _ hrb Tryd.underlying24 rfl hib ?_)
  refine cd.mono ?_
  rintro _ w2 ⟨rfl, hB2⟩
  clear cd
  have hA := hA.below hB2
  have hrb := range_below hrb hB2 (by omega)
  have hrc := range_below hrc hB2 (by omega)
  have hT := there_below hT1 hB2 (by omega)
  have hB := hB1.trans (hB2.mono hB1.size)
  have hs2 := hB2.size
  clear hB2 hT1 hr1 ht1 hB1
  go_upto_region 2 with (refine wpList_store_mid rfl 26 _ _ rfl _ 0 (v8 b.dig).toArray rfl rfl (there_newN _ _ _ hd32.symm) hiD2 hd1 ?_)
  go_name_world w3 hw3
  obtain ⟨hB3, hD, hDl, -⟩ := box1 hw3 (by simpa using hd32)
  clear hw3
  have hA := hA.below hB3
  have hrb := range_below hrb hB3 (by omega)
  have hrc := range_below hrc hB3 (by omega)
  have hT := there_below hT hB3 (by omega)
  have hB := hB.trans (hB3.mono hB.size)
  have hs3 := hB3.size
  clear hB3
  obtain ⟨V, hVe⟩ : ∃ V, Hid (w2.heap.size = V) := ⟨_, hide rfl⟩
  rw [hVe.out] at hD hDl
  have hz2 : w.heap.size + 4 ≤ V := by rw [← hVe.out]; omega
  try rw [hVe.out]
  clear hVe hsz hs2 hs3
  have hrv : w3.rangeAt (w.heap.size + 1 + 1) 0 c.v.cells := range_left hrc
  obtain ⟨v0, v1, v2, v3⟩ := Vt.four hrv
  have hcd := Vt.dig hrv
  simp only [Nat.zero_add] at v0 v1 v2 v3 hcd
  have P := hA.parts hv
  have c84 := P.de
  have hTz : w3.there (w.heap.size + 1 + 1 + 1) 0 z0.toArray.size := by rw [z85a]; exact hT
  rw [hk] at v0
  rw [hde] at c84
  go_upto_region 8 with (first
    | (refine wpList_load_g (by rfl) 26 _ rfl (w.heap.size + 1 + 1) 4 rfl (v8 c.v.d) _ hcd Tryd.underlying26 rfl hiD ?_)
    | (refine wpList_load_g (by rfl) 26 _ rfl V 0 rfl (v8 b.dig) _ hD Tryd.underlying26 rfl hiD3 ?_))
  have hic : (Tryd.prog.info? 31).map (·.size) = some c.cells.length := by rw [Ce.len hc.v]; exact iszCe
  have h40 : (entC c.v.s b c).toArray.size = 40 := by simpa using entC_len (n := c.v.s) (b := b) hc.v
  have hih : (Tryd.prog.info? 35).map (·.size) = some (entC c.v.s b c).toArray.size := by rw [h40]; exact iszEn
  have hh1 := all_oneS (entC_one c.v.s b c)
  have hbh := fun w' => build_ent c.v.s b c hc.v w'
  have k1 := hA.de hv true
  have k2 := k1.ent ⟨hv.h, hv.e⟩ c.v.s b c hc.v
  have hTh : (w3.setCells w.heap.size 84 [.bool true]).there w.heap.size 44 (entC c.v.s b c).toArray.size := by rw [h40]; exact there_part1 k1.th (by decide)
  have hrb' : (w3.setCells w.heap.size 84 [.bool true]).rangeAt (w.heap.size + 1) 0 b.cells := World.rangeAt_setCells_apart hrb _ _ _ (.inl (by omega))
  have hrc' : (w3.setCells w.heap.size 84 [.bool true]).rangeAt (w.heap.size + 1 + 1) 0 c.cells := World.rangeAt_setCells_apart hrc _ _ _ (.inl (by omega))
  have v3' := (Vt.four (range_left hrc' : (w3.setCells w.heap.size 84 [.bool true]).rangeAt (w.heap.size + 1 + 1) 0 c.v.cells)).2.2.2
  simp only [Nat.zero_add] at v3'
  have hth := hA.th
  obtain ⟨hl, hhl⟩ : ∃ hl, Hid (entC c.v.s b c = hl) := ⟨_, hide rfl⟩
  rw [hhl.out] at k2 h40 hih hh1 hTh
  simp only [hhl.out] at hbh
  try simp only [Act.put]
  refine wp_region_list ?_
  refine wpList_step fun K hK => ?_
  go_simp
  refine hK _ _ ?_
  clear hK K
  refine wpList_put1 (v := .bool true) rfl 4 _ _ rfl rfl rfl hth (by decide) iszBo rfl rfl ?_
  go_upto_region 9 with fail
  try simp only [Act.put]
  refine wp_region_list ?_
  refine wpList_step fun K hK => ?_
  go_simp
  refine hK _ _ ?_
  clear hK K
  refine wpList_step fun K hK => ?_
  go_simp
  refine hK _ _ ?_
  clear hK K
  refine wpList_step fun K hK => ?_
  go_simp
  refine hK _ _ ?_
  clear hK K
  refine wpList_load_mid rfl 24 _ rfl _ _ rfl b.cells _ hrb' Tryd.underlying24 rfl hib ?_
  refine wpList_load_mid rfl 31 _ rfl _ _ rfl c.cells _ hrc' Tryd.underlying31 rfl hic ?_
  refine wpList_build rfl 35 [(0, .tmp 36), (1, .tmp 37), (2, .tmp 38)] rfl [(0, .int .i64 c.v.s), (1, .agg b.cells.toArray), (2, .agg c.cells.toArray)] (.agg hl.toArray) rfl (hbh _) ?_
  refine wpList_step fun K hK => ?_
  go_simp
  refine hK _ _ ?_
  clear hK K
  refine wpList_store_mid rfl 35 _ _ rfl _ 44 hl.toArray rfl rfl hTh hih hh1 ?_
  go_upto_region 10 with fail
  have hT : ((w3.setCells w.heap.size 84 [.bool true]).setCells w.heap.size 44 hl).there (w.heap.size + 1 + 1 + 1) 0 85 := World.there_setCells (World.there_setCells hT _ _ _) _ _ _
  have hB : Below w.heap.size w ((w3.setCells w.heap.size 84 [.bool true]).setCells w.heap.size 44 hl) := below_sets (Nat.le_refl _) _ _ _ (below_sets (Nat.le_refl _) _ _ _ hB)
  have hr := k2.r
  go_name_world wz hwz
  rw [hwz] at hr hT hB
  clear hwz k1 k2 hA P hrb hrc hrb' hrc' hD v0 v1 v2 v3 v3' hTh hih hh1 hbh hhl h40 c84 hcd hrv hth hTz
  have h85' : (Sl.cells { s with es := c.v.s, eb := b, ec := c, de := true }).length = 85 := Sl.len ⟨hv.h, hc.v⟩
  have h1s' := all_oneS (Sl.one { s with es := c.v.s, eb := b, ec := c, de := true })
  obtain ⟨cs, hcs⟩ : ∃ cs, Hid (Sl.cells { s with es := c.v.s, eb := b, ec := c, de := true } = cs) := ⟨_, hide rfl⟩
  rw [hcs.out] at hr h85' h1s'
  have hTs : wz.there (w.heap.size + 1 + 1 + 1) 0 cs.toArray.size := by rw [show cs.toArray.size = 85 by simpa using h85']; exact hT
  have hi85' : (Tryd.prog.info? 44).map (·.size) = some cs.length := by rw [h85']; exact iszTxslot
  have hi85a' : (Tryd.prog.info? 44).map (·.size) = some cs.toArray.size := by rw [show cs.toArray.size = 85 by simpa using h85']; exact iszTxslot
  go_wp2_with (first
      | (refine wpList_load_mid rfl 44 _ rfl _ _ rfl cs _ hr Tryd.underlying44 rfl hi85' ?_)
      | (refine wpList_store_mid rfl 44 _ _ rfl _ 0 (cs).toArray rfl rfl hTs hi85a' h1s' ?_))
  refine bodyPost_ret (results_ct rfl _ _ _ rfl (run_loadVar_mid (P := Tryd.prog) _ (w.heap.size + 1 + 1 + 1) 0 44 (cs) _ (World.rangeAt_setCells_same _ _ _ _ (by rw [h85']; exact hT)) Tryd.underlying44 rfl hi85')) rfl ?_
  exact ⟨by rw [← hcs.out]; rfl, below_sets (by omega) _ _ _ hB⟩
set_option maxRecDepth 100000 in
set_option maxHeartbeats 4000000 in
theorem xdec_any (s : Sl) (b : Bat) (c : Ce) (w : World) (hs : s.ok w) (hb : b.at w) (hbl : b.lt) (hc : c.at w) : Calls Tryd.prog 15 #[.agg s.cells.toArray, .agg b.cells.toArray, .agg c.cells.toArray] w fun e w' => e = .returned (.tuple #[.agg (decideP s b c).1.cells.toArray, .int .i64 (decideP s b c).2]) ∧ Below w.heap.size w w' := by
  by_cases hk : c.v.k = 2
  · by_cases h2 : c.v.d = b.dig
    · cases hde : s.de with
      | false => exact xdec_e s b c w hs hb hbl hc hk h2 hde
      | true =>
        by_cases h3 : s.eb.dig = b.dig
        · exact xdec_d s b c w hs hb hbl hc hk h2 hde h3
        · exact xdec_c s b c w hs hb hbl hc hk h2 hde h3
    · exact xdec_b s b c w hs hb hbl hc hk h2
  · exact xdec_a s b c w hs hb hbl hc hk
end Go.Proofs.YtogmkcabndgllaaDoor
