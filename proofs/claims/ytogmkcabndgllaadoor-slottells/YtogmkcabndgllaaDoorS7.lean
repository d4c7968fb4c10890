/- raddlelaw18.lives: the chapter's example holds -/
import Derived.Test.YtogmkcabndgllaaDoorS4
namespace Go.Proofs.YtogmkcabndgllaaDoor
open Go.RowKit
open Sha Tal
set_option linter.unusedVariables false
def batN : Bat := ⟨true, none, 0, []⟩
theorem batN_at (w : World) : batN.at w := ⟨ReqsAt.none, by decide, by simp [batN]⟩
theorem batN_lt : batN.lt := ⟨by decide, by simp [batN]⟩
theorem bat0_at (w : World) : bat0.at w := ⟨ReqsAt.none, by decide, by simp [bat0]⟩
theorem bat0_lt : bat0.lt := ⟨by decide, by simp [bat0]⟩
theorem ce0_at (w : World) : ce0.at w := ⟨vt0_ok, SigsAt.none, by decide, by simp [ce0]⟩
theorem sl0_ok (w : World) : sl0.ok w := ⟨bat0_at w, bat0_lt, bat0_at w, bat0_lt, bat0_at w, bat0_lt, ce0_at w, ce0_at w⟩
/-- what an accepted slot is -/
def slA (v : Int) (b : Bat) : Sl := { sl0 with vw := v, b := b, is := true }
theorem acc0 {v : Int} (h : ¬ v < 0) (b : Bat) : acceptP sl0 v b = (slA v b, 0) := by
  unfold acceptP
  rw [if_neg (by simp [sl0]; omega), if_neg (by simp [sl0])]
  rfl
theorem slA_ok {v : Int} {b : Bat} {w : World} (h : b.at w) (hl : b.lt) : (slA v b).ok w := ⟨h, hl, bat0_at w, bat0_lt, bat0_at w, bat0_lt, ce0_at w, ce0_at w⟩
theorem digs_ok (x : Bat) : B8 x.dig := fun z hz => sha_ok _ z hz
def vtP (v : Int) (b : Bat) : Vt := ⟨1, 0, v, 0, b.dig⟩
theorem vtP_ok {v : Int} (hv : I64 v) (b : Bat) : (vtP v b).ok := ⟨by unfold I64 vtP; simp, by unfold I64 vtP; simp, hv, by unfold I64 vtP; simp, b.dig_len, digs_ok b⟩
def ceP (v : Int) (b : Bat) : Ce := ⟨vtP v b, none, 0, []⟩
theorem ceP_at {v : Int} (hv : I64 v) (b : Bat) (w : World) : (ceP v b).at w := ⟨vtP_ok hv b, SigsAt.none, by simp [ceP], by simp [ceP]⟩
theorem zeroD : (v8 (List.replicate 32 0)).length = 32 := by decide
set_option maxRecDepth 100000 in
theorem zeroV (w : World) : (zeroValue 28).run Tryd.prog w = .ok (.agg ([Value.int .i64 0] ++ ([Value.int .i64 0] ++ ([Value.int .i64 0] ++ ([Value.int .i64 0] ++ v8 (List.replicate 32 0))))).toArray) w := by kernel_rfl
set_option maxRecDepth 100000 in
theorem build_vP (v : Int) (d : List Int) (hd : d.length = 32) (w : World) : (Instr.build 28 #[(0, .int .i64 1), (2, .int .i64 v), (4, .agg (v8 d).toArray)]).run Tryd.prog w = .ok (.agg (Vt.cells ⟨1, 0, v, 0, d⟩).toArray) w := by
  refine build_fill (pl := #[(0, 1), (1, 1), (2, 1), (3, 1), (4, 32)]) (zeroV w) (by kernel_rfl) (by kernel_rfl) _ _ ?_
  show Instr.fill _ ([] ++ ([Value.int .i64 0] ++ ([Value.int .i64 0] ++ ([Value.int .i64 0] ++ ([Value.int .i64 0] ++ v8 (List.replicate 32 0)))))).toArray [(0, .int .i64 1), (2, .int .i64 v), (4, .agg (v8 d).toArray)] = _
  rw [fill_step (off := 0) (n := 1) (vs := [.int .i64 1]) rfl rfl rfl rfl rfl]
  show Instr.fill _ ([Value.int .i64 1, .int .i64 0] ++ ([Value.int .i64 0] ++ ([Value.int .i64 0] ++ v8 (List.replicate 32 0)))).toArray [(2, .int .i64 v), (4, .agg (v8 d).toArray)] = _
  rw [fill_step (off := 2) (n := 1) (vs := [.int .i64 v]) rfl rfl rfl rfl rfl]
  have e : ([Value.int .i64 1, .int .i64 0] ++ ([Value.int .i64 v] ++ ([Value.int .i64 0] ++ v8 (List.replicate 32 0)))) = [Value.int .i64 1, .int .i64 0, .int .i64 v, .int .i64 0] ++ (v8 (List.replicate 32 0) ++ []) := by simp
  rw [e, fill_step (off := 4) (n := 32) (vs := v8 d) rfl zeroD rfl rfl (by rw [v8_length, hd])]
  simp [Instr.fill, Vt.cells]
set_option maxRecDepth 100000 in
theorem build_v0 (d : List Int) (hd : d.length = 32) (w : World) : (Instr.build 28 #[(0, .int .i64 1), (4, .agg (v8 d).toArray)]).run Tryd.prog w = .ok (.agg (Vt.cells ⟨1, 0, 0, 0, d⟩).toArray) w := by
  refine build_fill (pl := #[(0, 1), (1, 1), (2, 1), (3, 1), (4, 32)]) (zeroV w) (by kernel_rfl) (by kernel_rfl) _ _ ?_
  show Instr.fill _ ([] ++ ([Value.int .i64 0] ++ ([Value.int .i64 0] ++ ([Value.int .i64 0] ++ ([Value.int .i64 0] ++ v8 (List.replicate 32 0)))))).toArray [(0, .int .i64 1), (4, .agg (v8 d).toArray)] = _
  rw [fill_step (off := 0) (n := 1) (vs := [.int .i64 1]) rfl rfl rfl rfl rfl]
  have e : ([] ++ ([Value.int .i64 1] ++ ([Value.int .i64 0] ++ ([Value.int .i64 0] ++ ([Value.int .i64 0] ++ v8 (List.replicate 32 0)))))) = [Value.int .i64 1, .int .i64 0, .int .i64 0, .int .i64 0] ++ (v8 (List.replicate 32 0) ++ []) := by simp
  rw [e, fill_step (off := 4) (n := 32) (vs := v8 d) rfl zeroD rfl rfl (by rw [v8_length, hd])]
  simp [Instr.fill, Vt.cells]
set_option maxRecDepth 100000 in
theorem zeroCt (w : World) : (zeroValue 31).run Tryd.prog w = .ok (.agg (vt0.cells ++ [Value.slice none 0 0]).toArray) w := by kernel_rfl
set_option maxRecDepth 100000 in
theorem build_ct (u : List Value) (hu : u.length = 36) (w : World) : (Instr.build 31 #[(0, .agg u.toArray)]).run Tryd.prog w = .ok (.agg (u ++ [Value.slice none 0 0]).toArray) w := by
  refine build_fill (pl := #[(0, 36), (36, 1)]) (zeroCt w) (by kernel_rfl) (by kernel_rfl) _ _ ?_
  show Instr.fill _ ([] ++ (vt0.cells ++ [Value.slice none 0 0])).toArray [(0, .agg u.toArray)] = _
  rw [fill_step (off := 0) (n := 36) (vs := u) rfl vt0_ok.len rfl rfl hu]
  simp [Instr.fill]
theorem hold1 (b : Bat) : holdP (slA 0 b) (ceP 1 b) = (sl0, 180) := by
  unfold holdP
  rw [if_neg (by simp [ceP, vtP]), if_pos (.inr (by simp [ceP, vtP, slA]))]
theorem hold2 (b : Bat) : holdP (slA 0 b) (ceP 0 b) = ({ slA 0 b with hb := b, hc := ceP 0 b, ho := true }, 0) := by
  unfold holdP
  rw [if_neg (by simp [ceP, vtP]), if_neg (by simp [ceP, vtP, slA]), if_neg (by simp [ceP, vtP, slA]), if_neg (by simp [slA, sl0])]
  rfl
theorem iszD2 (x : Bat) : (Tryd.prog.info? 26).map (·.size) = some (v8 x.dig).toArray.size := by rw [show (v8 x.dig).toArray.size = 32 by simpa using x.dig_len]; exact iszD
set_option maxRecDepth 100000 in
set_option maxHeartbeats 4000000 in
theorem lives18_any (w : World) (hG : Glob w) : Calls Tryd.prog 7 #[] w fun e w' => e = .returned (.bool true) ∧ Below w.heap.size w w' := by
  have cN : ∀ w', Calls Tryd.prog 23 #[] w' fun e w2 => e = .returned (.agg batN.cells.toArray) ∧ Below w'.heap.size w' w2 := fun w' => none_any w'
  have cA := fun w' (h : Glob w') => acc_any sl0 0 batN w' h (sl0_ok w') (batN_at w') batN_lt
  rw [acc0 (by decide) batN] at cA
  have cD := fun w' (h : Glob w') => batN.dig_any w' h (batN_at w') batN_lt
  have cH1 := fun w' (h : Glob w') => hold_any (slA 0 batN) (ceP 1 batN) w' h (slA_ok (batN_at w') batN_lt) (ceP_at (by unfold I64; omega) batN w')
  rw [hold1] at cH1
  have cH2 := fun w' (h : Glob w') => hold_any (slA 0 batN) (ceP 0 batN) w' h (slA_ok (batN_at w') batN_lt) (ceP_at (by unfold I64; omega) batN w')
  rw [hold2] at cH2
  have l2 : (Sl.cells { slA 0 batN with hb := batN, hc := ceP 0 batN, ho := true }).length = 85 := Sl.len ⟨(vtP_ok (by unfold I64; omega) batN), vt0_ok⟩
  have o2 := all_oneS (Sl.one { slA 0 batN with hb := batN, hc := ceP 0 batN, ho := true })
  have p2 : ∀ (w' : World) (Z : Nat), w'.rangeAt Z 0 (Sl.cells { slA 0 batN with hb := batN, hc := ceP 0 batN, ho := true }) → w'.cell? ⟨Z, 43, none⟩ = some (.bool true) ∧ w'.cell? ⟨Z, 4, none⟩ = some (.bool true) := fun w' Z h => by
    have P := Sl.parts ⟨(vtP_ok (by unfold I64; omega) batN), vt0_ok⟩ h
    exact ⟨P.ho, P.hb 0 _ rfl⟩
  have l1 : (slA 0 batN).cells.length = 85 := Sl.len ⟨vt0_ok, vt0_ok⟩
  have o1 := all_oneS (slA 0 batN).one
  have l0 : sl0.cells.length = 85 := rfl
  have o0 := all_oneS sl0.one
  have hbz := fun w' => build_Tslot0 w'
  have hv1 := fun w' => build_vP 1 batN.dig batN.dig_len w'
  have hv2 := fun w' => build_v0 batN.dig batN.dig_len w'
  have u1 : (Vt.cells ⟨1, 0, 1, 0, batN.dig⟩).length = 36 := (vtP_ok (v := 1) (by unfold I64; omega) batN).len
  have u2 : (Vt.cells ⟨1, 0, 0, 0, batN.dig⟩).length = 36 := (vtP_ok (v := 0) (by unfold I64; omega) batN).len
  have hc1 : ∀ w', (Instr.build 31 #[(0, .agg (Vt.cells ⟨1, 0, 1, 0, batN.dig⟩).toArray)]).run Tryd.prog w' = .ok (.agg (ceP 1 batN).cells.toArray) w' := fun w' => build_ct _ u1 w'
  have hc2 : ∀ w', (Instr.build 31 #[(0, .agg (Vt.cells ⟨1, 0, 0, 0, batN.dig⟩).toArray)]).run Tryd.prog w' = .ok (.agg (ceP 0 batN).cells.toArray) w' := fun w' => build_ct _ u2 w'
  have d32 : (v8 batN.dig).toArray.size = 32 := by simpa using batN.dig_len
  have hiD2 := iszD2 batN
  have hd1 := all_oneS (v8_one batN.dig)
  generalize (Sl.cells { slA 0 batN with hb := batN, hc := ceP 0 batN, ho := true }) = k2 at *
  generalize (slA 0 batN).cells = k1 at *
  generalize Vt.cells ⟨1, 0, 1, 0, batN.dig⟩ = q1 at *
  generalize Vt.cells ⟨1, 0, 0, 0, batN.dig⟩ = q2 at *
  generalize (ceP 1 batN).cells = e1 at *
  generalize (ceP 0 batN).cells = e2 at *
  generalize v8 batN.dig = dg at *
  generalize batN.cells = bn at *
  obtain ⟨k0, hk0⟩ : ∃ k0, Hid (sl0.cells = k0) := ⟨_, hide rfl⟩
  simp only [hk0.out] at cA cH1 hbz
  rw [hk0.out] at l0 o0
  clear hk0
  have a0 : k0.toArray.size = 85 := by simpa using l0
  have a1 : k1.toArray.size = 85 := by simpa using l1
  have a2 : k2.toArray.size = 85 := by simpa using l2
  have i0 : (Tryd.prog.info? 37).map (·.size) = some k0.toArray.size := by rw [a0]; exact iszTslot
  have i1 : (Tryd.prog.info? 37).map (·.size) = some k1.toArray.size := by rw [a1]; exact iszTslot
  have i1' : (Tryd.prog.info? 37).map (·.size) = some k1.length := by rw [l1]; exact iszTslot
  have i2 : (Tryd.prog.info? 37).map (·.size) = some k2.toArray.size := by rw [a2]; exact iszTslot
  have iD : (Tryd.prog.info? 26).map (·.size) = some dg.length := by simpa using hiD2
  have hzv := fun w' => zero_Tslot w'
  go_enter Tryd.func7, Tryd.ntmps7
  go_wp2_with (refine wpList_build rfl 37 [] rfl [] (.agg k0.toArray) rfl (hbz _) ?_)
  refine (cN w).mono ?_
  rintro _ w1 ⟨rfl, hB1⟩
  go_wp2_with fail
  refine (cA w1 (hG.below hB1)).mono ?_
  rintro _ w2 ⟨rfl, hB2⟩
  have hB2 := hB1.trans (hB2.mono hB1.size)
  clear cA hB1
  go_upto_region 2 with (refine wpList_store_mid rfl 37 _ _ rfl _ 0 k1.toArray rfl rfl (there_newN _ _ _ (by first | exact a1.symm | (rw [a1]; rfl))) i1 o1 ?_)
  go_name_world w3 hw3
  obtain ⟨hB3, hS1, hlt1, ht1⟩ := box1 hw3 (by first | exact l1 | (rw [l1]; rfl))
  clear hw3
  have ht1 : w3.there w2.heap.size 0 85 := ht1
  have hB3 := hB2.trans (hB3.mono hB2.size)
  have hz2 := hB2.size
  clear hB2
  go_wp2_with fail
  refine (cN w3).mono ?_
  rintro _ w4 ⟨rfl, hB4⟩
  have hS1 := range_below hS1 hB4 hlt1
  have ht1 := there_below ht1 hB4 hlt1
  have hlt1 : w2.heap.size < w4.heap.size := Nat.lt_of_lt_of_le hlt1 hB4.size
  have hB4 := hB3.trans (hB4.mono hB3.size)
  clear hB3
  go_wp2_with fail
  refine (cD w4 (hG.below hB4)).mono ?_
  rintro _ w5 ⟨rfl, hB5⟩
  have hS1 := range_below hS1 hB5 hlt1
  have ht1 := there_below ht1 hB5 hlt1
  have hlt1 : w2.heap.size < w5.heap.size := Nat.lt_of_lt_of_le hlt1 hB5.size
  have hB5 := hB4.trans (hB5.mono hB4.size)
  clear hB4 cD cN
  go_upto_region 3 with (refine wpList_store_mid rfl 26 _ _ rfl _ 0 dg.toArray rfl rfl (there_newN _ _ _ d32.symm) hiD2 hd1 ?_)
  go_name_world w6 hw6
  obtain ⟨hB6, hD, hltD, -⟩ := box1 hw6 (by simpa using d32)
  clear hw6
  have hS1 := range_below hS1 hB6 hlt1
  have ht1 := there_below ht1 hB6 hlt1
  have hlt1 : w2.heap.size < w6.heap.size := Nat.lt_of_lt_of_le hlt1 hB6.size
  have hz5 := hB5.size
  have hB6 := hB5.trans (hB6.mono hB5.size)
  clear hB5
  try simp only [Act.put]
  refine wp_region_list ?_
  refine wpList_load_mid rfl 37 _ rfl _ _ rfl k1 _ hS1 Tryd.underlying37 rfl i1' ?_
  refine wpList_load_mid rfl 26 _ rfl _ _ rfl dg _ hD Tryd.underlying26 rfl iD ?_
  refine wpList_build rfl 28 [(0, .const (.int .i64 1)), (2, .const (.int .i64 1)), (4, .tmp 17)] rfl [(0, .int .i64 1), (2, .int .i64 1), (4, .agg dg.toArray)] (.agg q1.toArray) rfl (hv1 _) ?_
  refine wpList_build rfl 31 [(0, .tmp 18)] rfl [(0, .agg q1.toArray)] (.agg e1.toArray) rfl (hc1 _) ?_
  go_wp2_with fail
  refine (cH1 w6 (hG.below hB6)).mono ?_
  rintro _ w7 ⟨rfl, hB7⟩
  clear cH1
  have hS1 := range_below hS1 hB7 hlt1
  have hD := range_below hD hB7 hltD
  have ht1 := there_below ht1 hB7 hlt1
  have hltD : w5.heap.size < w7.heap.size := Nat.lt_of_lt_of_le hltD hB7.size
  have hlt1 : w2.heap.size < w7.heap.size := Nat.lt_of_lt_of_le hlt1 hB7.size
  have hB7 := hB6.trans (hB7.mono hB6.size)
  clear hB6
  go_upto_region 4 with (refine wpList_store_mid rfl 37 _ _ rfl _ 0 k0.toArray rfl rfl (there_newN _ _ _ (by first | exact a0.symm | (rw [a0]; rfl))) i0 o0 ?_)
  go_name_world w8 hw8
  obtain ⟨hB8, -, hlt8, -⟩ := box1 hw8 (by first | exact l0 | (rw [l0]; rfl))
  clear hw8
  have hS1 := range_below hS1 hB8 hlt1
  have hD := range_below hD hB8 hltD
  have ht1 := there_below ht1 hB8 hlt1
  have hlt1 : w2.heap.size < w8.heap.size := Nat.lt_of_lt_of_le hlt1 hB8.size
  have hB8 := hB7.trans (hB8.mono hB7.size)
  clear hB7
  try simp only [Act.put]
  refine wp_region_list ?_
  refine wpList_load_mid rfl 37 _ rfl _ _ rfl k1 _ hS1 Tryd.underlying37 rfl i1' ?_
  refine wpList_load_mid rfl 26 _ rfl _ _ rfl dg _ hD Tryd.underlying26 rfl iD ?_
  refine wpList_build rfl 28 [(0, .const (.int .i64 1)), (4, .tmp 25)] rfl [(0, .int .i64 1), (4, .agg dg.toArray)] (.agg q2.toArray) rfl (hv2 _) ?_
  refine wpList_build rfl 31 [(0, .tmp 26)] rfl [(0, .agg q2.toArray)] (.agg e2.toArray) rfl (hc2 _) ?_
  go_wp2_with fail
  refine (cH2 w8 (hG.below hB8)).mono ?_
  rintro _ w9 ⟨rfl, hB9⟩
  clear cH2
  have ht1 := there_below ht1 hB9 hlt1
  have hlt1 : w2.heap.size < w9.heap.size := Nat.lt_of_lt_of_le hlt1 hB9.size
  have hB9 := hB8.trans (hB9.mono hB8.size)
  clear hB8 hS1 hD
  have ht2 : w9.there w2.heap.size 0 k2.toArray.size := by rw [a2]; exact ht1
  go_upto_region 5 with (refine wpList_store_mid rfl 37 _ _ rfl _ 0 k2.toArray rfl rfl ht2 i2 o2 ?_)
  go_name_world w10 hw10
  have hS2 : w10.rangeAt w2.heap.size 0 k2 := by
    rw [← hw10]
    exact World.rangeAt_setCells_same _ _ _ _ (by simpa using ht2)
  have hB10 : Below w.heap.size w w10 := by
    rw [← hw10]
    exact below_sets hz2 _ _ _ hB9
  clear hw10
  obtain ⟨c43, c4⟩ := p2 w10 _ hS2
  clear hS2 p2
  go_wp2_with fail
  go_ret
  exact ⟨rfl, hB10⟩
end Go.Proofs.YtogmkcabndgllaaDoor
