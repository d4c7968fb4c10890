/- slot.Hold -/
import Derived.Test.YtogmkcabndgllaaDoorS3
namespace Go.Proofs.YtogmkcabndgllaaDoor
open Go.RowKit
open Sha Tal
set_option linter.unusedVariables false
theorem wpList_put1 {P : Program} {ops : Array Oper} {rest : List Oper} {op : Oper} {a : Act} {w : World} {Q : Exit → Act → World → Prop} (hgd : op.guard = none) (ty : TypeId) (x y : Operand) (ho : op.op = .store ty x y) {b off n : Nat} {v : Value} (hx : a.eval x = .pointer (some ⟨b, off, none⟩)) (hy : a.eval y = v) (ht : w.there b 0 n) (hn : off < n) (hi : (P.info? ty).map (·.size) = some 1) (hvc : v.cells = #[v]) (h1 : v.oneCell' = true) (h : wpList P ops Q rest (a.put op.dst undef) (w.setCells b off [v])) : wpList P ops Q (op :: rest) a w :=
  wpList_plain hgd fun K hK => by
    unfold Oper.wp
    rw [ex_put1 ho hx hy ht hn hi hvc h1]
    exact hK _ _ h
set_option maxRecDepth 100000 in
set_option maxHeartbeats 4000000 in
theorem hold_a (s : Sl) (c : Ce) (w : World) (hG : Glob w) (hs : s.ok w) (hc : c.at w) (hk : c.v.k ≠ 1) : Calls Tryd.prog 12 #[.agg s.cells.toArray, .agg c.cells.toArray] w fun e w' => e = .returned (.tuple #[.agg (holdP s c).1.cells.toArray, .int .i64 (holdP s c).2]) ∧ Below w.heap.size w w' := by
  have e : holdP s c = (sl0, 181) := by unfold holdP; rw [if_pos hk]
  simp only [e]
  clear e
  have hv := hs.vok
  have h85 : s.cells.length = 85 := Sl.len hv
  have h85a : s.cells.toArray.size = 85 := by simpa using h85
  have hi85 : (Tryd.prog.info? 37).map (·.size) = some s.cells.length := by rw [h85]; exact iszTslot
  have h1s := all_oneS s.one
  have hi85a : (Tryd.prog.info? 37).map (·.size) = some s.cells.toArray.size := by rw [h85a]; exact iszTslot
  obtain ⟨z0, hz0⟩ : ∃ z, Hid (sl0.cells = z) := ⟨_, hide rfl⟩
  have z85 : z0.length = 85 := by rw [← hz0.out]; rfl
  have z85a : z0.toArray.size = 85 := by simpa using z85
  have iz : (Tryd.prog.info? 37).map (·.size) = some z0.toArray.size := by rw [z85a]; exact iszTslot
  have z1 : z0.toArray.all (·.oneCell') = true := by rw [← hz0.out]; exact all_oneS sl0.one
  have hbz : ∀ w', (Instr.build 37 #[]).run Tryd.prog w' = .ok (.agg z0.toArray) w' := fun w' => by rw [← hz0.out]; exact build_Tslot0 w'
  have hzv : ∀ w', (zeroValue 37).run Tryd.prog w' = .ok (.agg z0.toArray) w' := fun w' => by rw [← hz0.out]; exact zero_Tslot w'
  have hv36 : c.v.cells.length = 36 := hc.v.len
  have hv36a : c.v.cells.toArray.size = 36 := by simpa using hv36
  have hiV : (Tryd.prog.info? 28).map (·.size) = some c.v.cells.length := by rw [hv36]; exact iszV
  have hiV2 : (Tryd.prog.info? 28).map (·.size) = some c.v.cells.toArray.size := by rw [hv36a]; exact iszV
  have hv1 := all_oneS c.v.one
  have hisb : (Tryd.prog.info? 24).map (·.size) = some s.b.cells.length := iszB
  go_enter Tryd.func12, Tryd.ntmps12
  go_upto_region 1 with fail
  go_name_world w1 hw1
  obtain ⟨hB1, hr1, ht1, hr2, hT1, hsz⟩ := box3 hw1
  clear hw1
  have hT1 : w1.there (w.heap.size + 1 + 1) 0 85 := by first | exact hT1 | (rw [z85a] at hT1; exact hT1)
  clear hzv
  rw [h85] at ht1
  have hA : SlAt w1 w.heap.size s := ⟨by omega, ht1, hr1⟩
  have hrv : w1.rangeAt (w.heap.size + 1) 0 c.v.cells := range_left hr2
  go_upto_region 2 with (first
    | (refine wpList_load_mid rfl 28 _ rfl _ _ rfl c.v.cells _ hrv Tryd.underlying28 rfl hiV ?_)
    | (refine wpList_store_mid rfl 28 _ _ rfl _ 0 c.v.cells.toArray rfl rfl (there_newN _ _ _ hv36a.symm) hiV2 hv1 ?_))
  go_name_world w2 hw2
  obtain ⟨hB2, hV, hVl, -⟩ := box1 hw2 hv36
  clear hw2
  have hA := hA.below hB2
  have hr2 := range_below hr2 hB2 (by omega)
  have hT := there_below hT1 hB2 (by omega)
  have hB : Below w.heap.size w w2 := hB1.trans (hB2.mono hB1.size)
  clear hB2 hrv hT1 hr1 ht1
  obtain ⟨V, hVe⟩ : ∃ V, Hid (w1.heap.size = V) := ⟨_, hide rfl⟩
  rw [hVe.out] at hV hVl
  have hz2 : w.heap.size + 3 ≤ V := by rw [← hVe.out]; exact hsz
  try rw [hVe.out]
  clear hVe hsz
  obtain ⟨v0, v1, v2, v3⟩ := Vt.four hV
  simp only [Nat.zero_add] at v0 v1 v2 v3
  have P := hA.parts hv
  have c0 := P.vw
  have c3 := P.is
  have hTz : w2.there (w.heap.size + 1 + 1) 0 z0.toArray.size := by rw [z85a]; exact hT
  have hk1 : (c.v.k != 1) = true := by simpa using hk
  go_wp2_with (first
      | (refine wpList_build rfl 37 [] rfl [] (.agg z0.toArray) rfl (hbz _) ?_)
      | (refine wpList_store_mid rfl 37 _ _ rfl _ 0 z0.toArray rfl rfl hTz iz z1 ?_))
  refine bodyPost_ret (results_ct rfl _ _ _ rfl (run_loadVar_mid (P := Tryd.prog) _ (w.heap.size + 1 + 1) 0 37 z0 _ (World.rangeAt_setCells_same _ _ _ _ (by rw [z85]; exact hT)) Tryd.underlying37 rfl (by simpa using iz))) rfl ?_
  exact ⟨by rw [hz0.out]; rfl, below_sets (by omega) _ _ _ hB⟩
set_option maxRecDepth 100000 in
set_option maxHeartbeats 4000000 in
theorem hold_b (s : Sl) (c : Ce) (w : World) (hG : Glob w) (hs : s.ok w) (hc : c.at w) (hk : c.v.k = 1) (his : s.is = false) : Calls Tryd.prog 12 #[.agg s.cells.toArray, .agg c.cells.toArray] w fun e w' => e = .returned (.tuple #[.agg (holdP s c).1.cells.toArray, .int .i64 (holdP s c).2]) ∧ Below w.heap.size w w' := by
  have e : holdP s c = (sl0, 180) := by unfold holdP; rw [if_neg (by simp [hk]), if_pos (.inl his)]
  simp only [e]
  clear e
  have hv := hs.vok
  have h85 : s.cells.length = 85 := Sl.len hv
  have h85a : s.cells.toArray.size = 85 := by simpa using h85
  have hi85 : (Tryd.prog.info? 37).map (·.size) = some s.cells.length := by rw [h85]; exact iszTslot
  have h1s := all_oneS s.one
  have hi85a : (Tryd.prog.info? 37).map (·.size) = some s.cells.toArray.size := by rw [h85a]; exact iszTslot
  obtain ⟨z0, hz0⟩ : ∃ z, Hid (sl0.cells = z) := ⟨_, hide rfl⟩
  have z85 : z0.length = 85 := by rw [← hz0.out]; rfl
  have z85a : z0.toArray.size = 85 := by simpa using z85
  have iz : (Tryd.prog.info? 37).map (·.size) = some z0.toArray.size := by rw [z85a]; exact iszTslot
  have z1 : z0.toArray.all (·.oneCell') = true := by rw [← hz0.out]; exact all_oneS sl0.one
  have hbz : ∀ w', (Instr.build 37 #[]).run Tryd.prog w' = .ok (.agg z0.toArray) w' := fun w' => by rw [← hz0.out]; exact build_Tslot0 w'
  have hzv : ∀ w', (zeroValue 37).run Tryd.prog w' = .ok (.agg z0.toArray) w' := fun w' => by rw [← hz0.out]; exact zero_Tslot w'
  have hv36 : c.v.cells.length = 36 := hc.v.len
  have hv36a : c.v.cells.toArray.size = 36 := by simpa using hv36
  have hiV : (Tryd.prog.info? 28).map (·.size) = some c.v.cells.length := by rw [hv36]; exact iszV
  have hiV2 : (Tryd.prog.info? 28).map (·.size) = some c.v.cells.toArray.size := by rw [hv36a]; exact iszV
  have hv1 := all_oneS c.v.one
  have hisb : (Tryd.prog.info? 24).map (·.size) = some s.b.cells.length := iszB
  go_enter Tryd.func12, Tryd.ntmps12
  go_upto_region 1 with fail
  go_name_world w1 hw1
  obtain ⟨hB1, hr1, ht1, hr2, hT1, hsz⟩ := box3 hw1
  clear hw1
  have hT1 : w1.there (w.heap.size + 1 + 1) 0 85 := by first | exact hT1 | (rw [z85a] at hT1; exact hT1)
  clear hzv
  rw [h85] at ht1
  have hA : SlAt w1 w.heap.size s := ⟨by omega, ht1, hr1⟩
  have hrv : w1.rangeAt (w.heap.size + 1) 0 c.v.cells := range_left hr2
  go_upto_region 2 with (first
    | (refine wpList_load_mid rfl 28 _ rfl _ _ rfl c.v.cells _ hrv Tryd.underlying28 rfl hiV ?_)
    | (refine wpList_store_mid rfl 28 _ _ rfl _ 0 c.v.cells.toArray rfl rfl (there_newN _ _ _ hv36a.symm) hiV2 hv1 ?_))
  go_name_world w2 hw2
  obtain ⟨hB2, hV, hVl, -⟩ := box1 hw2 hv36
  clear hw2
  have hA := hA.below hB2
  have hr2 := range_below hr2 hB2 (by omega)
  have hT := there_below hT1 hB2 (by omega)
  have hB : Below w.heap.size w w2 := hB1.trans (hB2.mono hB1.size)
  clear hB2 hrv hT1 hr1 ht1
  obtain ⟨V, hVe⟩ : ∃ V, Hid (w1.heap.size = V) := ⟨_, hide rfl⟩
  rw [hVe.out] at hV hVl
  have hz2 : w.heap.size + 3 ≤ V := by rw [← hVe.out]; exact hsz
  try rw [hVe.out]
  clear hVe hsz
  obtain ⟨v0, v1, v2, v3⟩ := Vt.four hV
  simp only [Nat.zero_add] at v0 v1 v2 v3
  have P := hA.parts hv
  have c0 := P.vw
  have c3 := P.is
  have hTz : w2.there (w.heap.size + 1 + 1) 0 z0.toArray.size := by rw [z85a]; exact hT
  rw [hk] at v0
  rw [his] at c3
  go_wp2_with (first
      | (refine wpList_build rfl 37 [] rfl [] (.agg z0.toArray) rfl (hbz _) ?_)
      | (refine wpList_store_mid rfl 37 _ _ rfl _ 0 z0.toArray rfl rfl hTz iz z1 ?_))
  refine bodyPost_ret (results_ct rfl _ _ _ rfl (run_loadVar_mid (P := Tryd.prog) _ (w.heap.size + 1 + 1) 0 37 z0 _ (World.rangeAt_setCells_same _ _ _ _ (by rw [z85]; exact hT)) Tryd.underlying37 rfl (by simpa using iz))) rfl ?_
  exact ⟨by rw [hz0.out]; rfl, below_sets (by omega) _ _ _ hB⟩
set_option maxRecDepth 100000 in
set_option maxHeartbeats 4000000 in
theorem hold_c (s : Sl) (c : Ce) (w : World) (hG : Glob w) (hs : s.ok w) (hc : c.at w) (hk : c.v.k = 1) (his : s.is = true) (h2 : c.v.v ≠ s.vw) : Calls Tryd.prog 12 #[.agg s.cells.toArray, .agg c.cells.toArray] w fun e w' => e = .returned (.tuple #[.agg (holdP s c).1.cells.toArray, .int .i64 (holdP s c).2]) ∧ Below w.heap.size w w' := by
  have e : holdP s c = (sl0, 180) := by unfold holdP; rw [if_neg (by simp [hk]), if_pos (.inr h2)]
  simp only [e]
  clear e
  have hv := hs.vok
  have h85 : s.cells.length = 85 := Sl.len hv
  have h85a : s.cells.toArray.size = 85 := by simpa using h85
  have hi85 : (Tryd.prog.info? 37).map (·.size) = some s.cells.length := by rw [h85]; exact iszTslot
  have h1s := all_oneS s.one
  have hi85a : (Tryd.prog.info? 37).map (·.size) = some s.cells.toArray.size := by rw [h85a]; exact iszTslot
  obtain ⟨z0, hz0⟩ : ∃ z, Hid (sl0.cells = z) := ⟨_, hide rfl⟩
  have z85 : z0.length = 85 := by rw [← hz0.out]; rfl
  have z85a : z0.toArray.size = 85 := by simpa using z85
  have iz : (Tryd.prog.info? 37).map (·.size) = some z0.toArray.size := by rw [z85a]; exact iszTslot
  have z1 : z0.toArray.all (·.oneCell') = true := by rw [← hz0.out]; exact all_oneS sl0.one
  have hbz : ∀ w', (Instr.build 37 #[]).run Tryd.prog w' = .ok (.agg z0.toArray) w' := fun w' => by rw [← hz0.out]; exact build_Tslot0 w'
  have hzv : ∀ w', (zeroValue 37).run Tryd.prog w' = .ok (.agg z0.toArray) w' := fun w' => by rw [← hz0.out]; exact zero_Tslot w'
  have hv36 : c.v.cells.length = 36 := hc.v.len
  have hv36a : c.v.cells.toArray.size = 36 := by simpa using hv36
  have hiV : (Tryd.prog.info? 28).map (·.size) = some c.v.cells.length := by rw [hv36]; exact iszV
  have hiV2 : (Tryd.prog.info? 28).map (·.size) = some c.v.cells.toArray.size := by rw [hv36a]; exact iszV
  have hv1 := all_oneS c.v.one
  have hisb : (Tryd.prog.info? 24).map (·.size) = some s.b.cells.length := iszB
  go_enter Tryd.func12, Tryd.ntmps12
  go_upto_region 1 with fail
  go_name_world w1 hw1
  obtain ⟨hB1, hr1, ht1, hr2, hT1, hsz⟩ := box3 hw1
  clear hw1
  have hT1 : w1.there (w.heap.size + 1 + 1) 0 85 := by first | exact hT1 | (rw [z85a] at hT1; exact hT1)
  clear hzv
  rw [h85] at ht1
  have hA : SlAt w1 w.heap.size s := ⟨by omega, ht1, hr1⟩
  have hrv : w1.rangeAt (w.heap.size + 1) 0 c.v.cells := range_left hr2
  go_upto_region 2 with (first
    | (refine wpList_load_mid rfl 28 _ rfl _ _ rfl c.v.cells _ hrv Tryd.underlying28 rfl hiV ?_)
    | (refine wpList_store_mid rfl 28 _ _ rfl _ 0 c.v.cells.toArray rfl rfl (there_newN _ _ _ hv36a.symm) hiV2 hv1 ?_))
  go_name_world w2 hw2
  obtain ⟨hB2, hV, hVl, -⟩ := box1 hw2 hv36
  clear hw2
  have hA := hA.below hB2
  have hr2 := range_below hr2 hB2 (by omega)
  have hT := there_below hT1 hB2 (by omega)
  have hB : Below w.heap.size w w2 := hB1.trans (hB2.mono hB1.size)
  clear hB2 hrv hT1 hr1 ht1
  obtain ⟨V, hVe⟩ : ∃ V, Hid (w1.heap.size = V) := ⟨_, hide rfl⟩
  rw [hVe.out] at hV hVl
  have hz2 : w.heap.size + 3 ≤ V := by rw [← hVe.out]; exact hsz
  try rw [hVe.out]
  clear hVe hsz
  obtain ⟨v0, v1, v2, v3⟩ := Vt.four hV
  simp only [Nat.zero_add] at v0 v1 v2 v3
  have P := hA.parts hv
  have c0 := P.vw
  have c3 := P.is
  have hTz : w2.there (w.heap.size + 1 + 1) 0 z0.toArray.size := by rw [z85a]; exact hT
  rw [hk] at v0
  rw [his] at c3
  have h2b : (c.v.v != s.vw) = true := by simpa using h2
  go_wp2_with (first
      | (refine wpList_build rfl 37 [] rfl [] (.agg z0.toArray) rfl (hbz _) ?_)
      | (refine wpList_store_mid rfl 37 _ _ rfl _ 0 z0.toArray rfl rfl hTz iz z1 ?_))
  refine bodyPost_ret (results_ct rfl _ _ _ rfl (run_loadVar_mid (P := Tryd.prog) _ (w.heap.size + 1 + 1) 0 37 z0 _ (World.rangeAt_setCells_same _ _ _ _ (by rw [z85]; exact hT)) Tryd.underlying37 rfl (by simpa using iz))) rfl ?_
  exact ⟨by rw [hz0.out]; rfl, below_sets (by omega) _ _ _ hB⟩
set_option maxRecDepth 100000 in
set_option maxHeartbeats 4000000 in
theorem hold_d (s : Sl) (c : Ce) (w : World) (hG : Glob w) (hs : s.ok w) (hc : c.at w) (hk : c.v.k = 1) (his : s.is = true) (h2 : c.v.v = s.vw) (h3 : c.v.d ≠ s.b.dig) : Calls Tryd.prog 12 #[.agg s.cells.toArray, .agg c.cells.toArray] w fun e w' => e = .returned (.tuple #[.agg (holdP s c).1.cells.toArray, .int .i64 (holdP s c).2]) ∧ Below w.heap.size w w' := by
  have e : holdP s c = (sl0, 181) := by unfold holdP; rw [if_neg (by simp [hk]), if_neg (by simp [his, h2]), if_pos h3]
  simp only [e]
  clear e
  have hv := hs.vok
  have h85 : s.cells.length = 85 := Sl.len hv
  have h85a : s.cells.toArray.size = 85 := by simpa using h85
  have hi85 : (Tryd.prog.info? 37).map (·.size) = some s.cells.length := by rw [h85]; exact iszTslot
  have h1s := all_oneS s.one
  have hi85a : (Tryd.prog.info? 37).map (·.size) = some s.cells.toArray.size := by rw [h85a]; exact iszTslot
  obtain ⟨z0, hz0⟩ : ∃ z, Hid (sl0.cells = z) := ⟨_, hide rfl⟩
  have z85 : z0.length = 85 := by rw [← hz0.out]; rfl
  have z85a : z0.toArray.size = 85 := by simpa using z85
  have iz : (Tryd.prog.info? 37).map (·.size) = some z0.toArray.size := by rw [z85a]; exact iszTslot
  have z1 : z0.toArray.all (·.oneCell') = true := by rw [← hz0.out]; exact all_oneS sl0.one
  have hbz : ∀ w', (Instr.build 37 #[]).run Tryd.prog w' = .ok (.agg z0.toArray) w' := fun w' => by rw [← hz0.out]; exact build_Tslot0 w'
  have hzv : ∀ w', (zeroValue 37).run Tryd.prog w' = .ok (.agg z0.toArray) w' := fun w' => by rw [← hz0.out]; exact zero_Tslot w'
  have hv36 : c.v.cells.length = 36 := hc.v.len
  have hv36a : c.v.cells.toArray.size = 36 := by simpa using hv36
  have hiV : (Tryd.prog.info? 28).map (·.size) = some c.v.cells.length := by rw [hv36]; exact iszV
  have hiV2 : (Tryd.prog.info? 28).map (·.size) = some c.v.cells.toArray.size := by rw [hv36a]; exact iszV
  have hv1 := all_oneS c.v.one
  have hisb : (Tryd.prog.info? 24).map (·.size) = some s.b.cells.length := iszB
  go_enter Tryd.func12, Tryd.ntmps12
  go_upto_region 1 with fail
  go_name_world w1 hw1
  obtain ⟨hB1, hr1, ht1, hr2, hT1, hsz⟩ := box3 hw1
  clear hw1
  have hT1 : w1.there (w.heap.size + 1 + 1) 0 85 := by first | exact hT1 | (rw [z85a] at hT1; exact hT1)
  clear hzv
  rw [h85] at ht1
  have hA : SlAt w1 w.heap.size s := ⟨by omega, ht1, hr1⟩
  have hrv : w1.rangeAt (w.heap.size + 1) 0 c.v.cells := range_left hr2
  go_upto_region 2 with (first
    | (refine wpList_load_mid rfl 28 _ rfl _ _ rfl c.v.cells _ hrv Tryd.underlying28 rfl hiV ?_)
    | (refine wpList_store_mid rfl 28 _ _ rfl _ 0 c.v.cells.toArray rfl rfl (there_newN _ _ _ hv36a.symm) hiV2 hv1 ?_))
  go_name_world w2 hw2
  obtain ⟨hB2, hV, hVl, -⟩ := box1 hw2 hv36
  clear hw2
  have hA := hA.below hB2
  have hr2 := range_below hr2 hB2 (by omega)
  have hT := there_below hT1 hB2 (by omega)
  have hB : Below w.heap.size w w2 := hB1.trans (hB2.mono hB1.size)
  clear hB2 hrv hT1 hr1 ht1
  obtain ⟨V, hVe⟩ : ∃ V, Hid (w1.heap.size = V) := ⟨_, hide rfl⟩
  rw [hVe.out] at hV hVl
  have hz2 : w.heap.size + 3 ≤ V := by rw [← hVe.out]; exact hsz
  try rw [hVe.out]
  clear hVe hsz
  obtain ⟨v0, v1, v2, v3⟩ := Vt.four hV
  simp only [Nat.zero_add] at v0 v1 v2 v3
  have P := hA.parts hv
  have c0 := P.vw
  have c3 := P.is
  have hTz : w2.there (w.heap.size + 1 + 1) 0 z0.toArray.size := by rw [z85a]; exact hT
  rw [hk] at v0
  rw [his] at c3
  have HD := hide h3
  clear h3
  have h2b : (c.v.v != s.vw) = false := by simpa using h2
  go_upto_region 5 with fail
  obtain ⟨w8, hw8⟩ : ∃ w8, w2.drew = w8 := ⟨_, rfl⟩
  have hB8 : Below w2.heap.size w2 w8 := by rw [← hw8]; exact (Below.refl _ _).drew
  have hA8 := hA.below hB8
  have P8 := hA8.parts hv
  have hr8 := range_below hr2 hB8 (by omega)
  have hV8 := range_below hV hB8 hVl
  have hT8 := there_below hT hB8 (by omega)
  have hBB : Below w.heap.size w w8 := hB.trans (hB8.mono hB.size)
  have hz8 : V < w8.heap.size := by have := hB8.size; omega
  have hD8 := Vt.dig hV8
  rw [Nat.zero_add] at hD8
  have hiD : (Tryd.prog.info? 26).map (·.size) = some (v8 c.v.d).length := by rw [v8_length, hc.v.dl]; exact iszD
  have hG8 := hG.below hBB
  have c1 := fun w' (h : Below w8.heap.size w8 w') => s.b.dig_any w' (hG8.below h) ((hs.b.below hBB).below h) hs.bl
  try simp only [Act.put]
  refine hs_begin (S := (Below w8.heap.size w8)) 7 rfl (by kernel_rfl) ?_
  rw [hw8]
  clear hw8
  have hS : (Below w8.heap.size w8) w8 := Below.refl _ _
  refine hs_take (i := 0) (d := some 24) (v := ?_) rfl (by kernel_rfl) (by kernel_rfl) (by kernel_rfl) (by rfl) ?_ hS rfl ?_
  rotate_left
  · intro w' hw
    go_simp
    try with_reducible rfl
  simp only [Act.put, List.setIfInBounds_toArray, List.set_cons_zero, List.set_cons_succ]
  refine hs_take (i := 1) (d := some 25) (v := .agg (v8 c.v.d).toArray) rfl (by kernel_rfl) (by kernel_rfl) (by kernel_rfl) (by rfl) (fun w' hw => ex_mid rfl rfl (range_below hD8 hw (by omega)) Tryd.underlying26 rfl hiD) hS rfl ?_
  simp only [Act.put, List.setIfInBounds_toArray, List.set_cons_zero, List.set_cons_succ]
  refine hs_take (i := 2) (d := some 26) (v := ?_) rfl (by kernel_rfl) (by kernel_rfl) (by kernel_rfl) (by rfl) ?_ hS rfl ?_
  rotate_left
  · intro w' hw
    go_simp
    try with_reducible rfl
  simp only [Act.put, List.setIfInBounds_toArray, List.set_cons_zero, List.set_cons_succ]
  refine hs_take (i := 3) (d := some 27) (v := .agg s.b.cells.toArray) rfl (by kernel_rfl) (by kernel_rfl) (by kernel_rfl) (by rfl) (fun w' hw => ex_mid rfl rfl (range_below P8.b hw hA8.lt) Tryd.underlying24 rfl hisb) hS rfl ?_
  simp only [Act.put, List.setIfInBounds_toArray, List.set_cons_zero, List.set_cons_succ]
  refine hs_call (i := 4) (d := some 28) rfl (by kernel_rfl) (by rfl) (by go_simp; first | done | exact ⟨rfl, rfl⟩ | with_reducible rfl) rfl ?_
  refine (c1 w8 (Below.refl _ _)).mono ?_
  rintro e' w9 ⟨rfl, hB9⟩
  have hS : (Below w8.heap.size w8) w9 := hB9
  refine ⟨_, rfl, hS, ?_⟩
  simp only [Act.put, List.setIfInBounds_toArray, List.set_cons_zero, List.set_cons_succ]
  refine hs_take (i := 5) (d := some 29) (v := .bool true) rfl (by kernel_rfl) (by kernel_rfl) (by kernel_rfl) (by rfl) (fun w' hw => ex_bin rfl rfl rfl (by kernel_rfl) (by rw [neq_any _ _ hc.v.dl (Bat.dig_len _)]; simp [HD.out])) hS rfl ?_
  simp only [Act.put, List.setIfInBounds_toArray, List.set_cons_zero, List.set_cons_succ]
  refine hs_take (i := 6) (d := some 23) (v := ?_) rfl (by kernel_rfl) (by kernel_rfl) (by kernel_rfl) (by rfl) ?_ hS rfl ?_
  rotate_left
  · intro w' hw
    go_simp
    try with_reducible rfl
  simp only [Act.put, List.setIfInBounds_toArray, List.set_cons_zero, List.set_cons_succ]
  refine hs_done (by kernel_rfl) ?_
  have hA := hA8.below hB9
  have hr2 := range_below hr8 hB9 (by omega)
  have hV := range_below hV8 hB9 (by omega)
  have hT := there_below hT8 hB9 (by omega)
  have hB : Below w.heap.size w w9 := hBB.trans (hB9.mono hBB.size)
  have hz9 : V < w9.heap.size := by have := hB9.size; omega
  have hTz : w9.there (w.heap.size + 1 + 1) 0 z0.toArray.size := by rw [z85a]; exact hT
  have hTs : w9.there (w.heap.size + 1 + 1) 0 s.cells.toArray.size := by rw [h85a]; exact hT
  clear hS hB8 hB9 hBB hA8 P8 P hr8 hV8 hT8 hD8 c1 hG8 v0 v1 v2 v3 c0 c3 hz8
  go_wp2_with (first
      | (refine wpList_build rfl 37 [] rfl [] (.agg z0.toArray) rfl (hbz _) ?_)
      | (refine wpList_store_mid rfl 37 _ _ rfl _ 0 z0.toArray rfl rfl hTz iz z1 ?_))
  refine bodyPost_ret (results_ct rfl _ _ _ rfl (run_loadVar_mid (P := Tryd.prog) _ (w.heap.size + 1 + 1) 0 37 z0 _ (World.rangeAt_setCells_same _ _ _ _ (by rw [z85]; exact hT)) Tryd.underlying37 rfl (by simpa using iz))) rfl ?_
  exact ⟨by rw [hz0.out]; rfl, below_sets (by omega) _ _ _ hB⟩
set_option maxRecDepth 100000 in
set_option maxHeartbeats 4000000 in
theorem hold_e (s : Sl) (c : Ce) (w : World) (hG : Glob w) (hs : s.ok w) (hc : c.at w) (hk : c.v.k = 1) (his : s.is = true) (h2 : c.v.v = s.vw) (h3 : c.v.d = s.b.dig) (hho : s.ho = true) (h4 : c.v.v ≤ s.hc.v.v) : Calls Tryd.prog 12 #[.agg s.cells.toArray, .agg c.cells.toArray] w fun e w' => e = .returned (.tuple #[.agg (holdP s c).1.cells.toArray, .int .i64 (holdP s c).2]) ∧ Below w.heap.size w w' := by
  have e : holdP s c = (s, 0) := by unfold holdP; rw [if_neg (by simp [hk]), if_neg (by simp [his, h2]), if_neg (by simp [h3]), if_pos ⟨hho, h4⟩]
  simp only [e]
  clear e
  have hv := hs.vok
  have h85 : s.cells.length = 85 := Sl.len hv
  have h85a : s.cells.toArray.size = 85 := by simpa using h85
  have hi85 : (Tryd.prog.info? 37).map (·.size) = some s.cells.length := by rw [h85]; exact iszTslot
  have h1s := all_oneS s.one
  have hi85a : (Tryd.prog.info? 37).map (·.size) = some s.cells.toArray.size := by rw [h85a]; exact iszTslot
  obtain ⟨z0, hz0⟩ : ∃ z, Hid (sl0.cells = z) := ⟨_, hide rfl⟩
  have z85 : z0.length = 85 := by rw [← hz0.out]; rfl
  have z85a : z0.toArray.size = 85 := by simpa using z85
  have iz : (Tryd.prog.info? 37).map (·.size) = some z0.toArray.size := by rw [z85a]; exact iszTslot
  have z1 : z0.toArray.all (·.oneCell') = true := by rw [← hz0.out]; exact all_oneS sl0.one
  have hbz : ∀ w', (Instr.build 37 #[]).run Tryd.prog w' = .ok (.agg z0.toArray) w' := fun w' => by rw [← hz0.out]; exact build_Tslot0 w'
  have hzv : ∀ w', (zeroValue 37).run Tryd.prog w' = .ok (.agg z0.toArray) w' := fun w' => by rw [← hz0.out]; exact zero_Tslot w'
  have hv36 : c.v.cells.length = 36 := hc.v.len
  have hv36a : c.v.cells.toArray.size = 36 := by simpa using hv36
  have hiV : (Tryd.prog.info? 28).map (·.size) = some c.v.cells.length := by rw [hv36]; exact iszV
  have hiV2 : (Tryd.prog.info? 28).map (·.size) = some c.v.cells.toArray.size := by rw [hv36a]; exact iszV
  have hv1 := all_oneS c.v.one
  have hisb : (Tryd.prog.info? 24).map (·.size) = some s.b.cells.length := iszB
  go_enter Tryd.func12, Tryd.ntmps12
  go_upto_region 1 with fail
  go_name_world w1 hw1
  obtain ⟨hB1, hr1, ht1, hr2, hT1, hsz⟩ := box3 hw1
  clear hw1
  have hT1 : w1.there (w.heap.size + 1 + 1) 0 85 := by first | exact hT1 | (rw [z85a] at hT1; exact hT1)
  clear hzv
  rw [h85] at ht1
  have hA : SlAt w1 w.heap.size s := ⟨by omega, ht1, hr1⟩
  have hrv : w1.rangeAt (w.heap.size + 1) 0 c.v.cells := range_left hr2
  go_upto_region 2 with (first
    | (refine wpList_load_mid rfl 28 _ rfl _ _ rfl c.v.cells _ hrv Tryd.underlying28 rfl hiV ?_)
    | (refine wpList_store_mid rfl 28 _ _ rfl _ 0 c.v.cells.toArray rfl rfl (there_newN _ _ _ hv36a.symm) hiV2 hv1 ?_))
  go_name_world w2 hw2
  obtain ⟨hB2, hV, hVl, -⟩ := box1 hw2 hv36
  clear hw2
  have hA := hA.below hB2
  have hr2 := range_below hr2 hB2 (by omega)
  have hT := there_below hT1 hB2 (by omega)
  have hB : Below w.heap.size w w2 := hB1.trans (hB2.mono hB1.size)
  clear hB2 hrv hT1 hr1 ht1
  obtain ⟨V, hVe⟩ : ∃ V, Hid (w1.heap.size = V) := ⟨_, hide rfl⟩
  rw [hVe.out] at hV hVl
  have hz2 : w.heap.size + 3 ≤ V := by rw [← hVe.out]; exact hsz
  try rw [hVe.out]
  clear hVe hsz
  obtain ⟨v0, v1, v2, v3⟩ := Vt.four hV
  simp only [Nat.zero_add] at v0 v1 v2 v3
  have P := hA.parts hv
  have c0 := P.vw
  have c3 := P.is
  have hTz : w2.there (w.heap.size + 1 + 1) 0 z0.toArray.size := by rw [z85a]; exact hT
  rw [hk] at v0
  rw [his] at c3
  have HD := hide h3
  clear h3
  have h2b : (c.v.v != s.vw) = false := by simpa using h2
  go_upto_region 5 with fail
  obtain ⟨w8, hw8⟩ : ∃ w8, w2.drew = w8 := ⟨_, rfl⟩
  have hB8 : Below w2.heap.size w2 w8 := by rw [← hw8]; exact (Below.refl _ _).drew
  have hA8 := hA.below hB8
  have P8 := hA8.parts hv
  have hr8 := range_below hr2 hB8 (by omega)
  have hV8 := range_below hV hB8 hVl
  have hT8 := there_below hT hB8 (by omega)
  have hBB : Below w.heap.size w w8 := hB.trans (hB8.mono hB.size)
  have hz8 : V < w8.heap.size := by have := hB8.size; omega
  have hD8 := Vt.dig hV8
  rw [Nat.zero_add] at hD8
  have hiD : (Tryd.prog.info? 26).map (·.size) = some (v8 c.v.d).length := by rw [v8_length, hc.v.dl]; exact iszD
  have hG8 := hG.below hBB
  have c1 := fun w' (h : Below w8.heap.size w8 w') => s.b.dig_any w' (hG8.below h) ((hs.b.below hBB).below h) hs.bl
  try simp only [Act.put]
  refine hs_begin (S := (Below w8.heap.size w8)) 7 rfl (by kernel_rfl) ?_
  rw [hw8]
  clear hw8
  have hS : (Below w8.heap.size w8) w8 := Below.refl _ _
  refine hs_take (i := 0) (d := some 24) (v := ?_) rfl (by kernel_rfl) (by kernel_rfl) (by kernel_rfl) (by rfl) ?_ hS rfl ?_
  rotate_left
  · intro w' hw
    go_simp
    try with_reducible rfl
  simp only [Act.put, List.setIfInBounds_toArray, List.set_cons_zero, List.set_cons_succ]
  refine hs_take (i := 1) (d := some 25) (v := .agg (v8 c.v.d).toArray) rfl (by kernel_rfl) (by kernel_rfl) (by kernel_rfl) (by rfl) (fun w' hw => ex_mid rfl rfl (range_below hD8 hw (by omega)) Tryd.underlying26 rfl hiD) hS rfl ?_
  simp only [Act.put, List.setIfInBounds_toArray, List.set_cons_zero, List.set_cons_succ]
  refine hs_take (i := 2) (d := some 26) (v := ?_) rfl (by kernel_rfl) (by kernel_rfl) (by kernel_rfl) (by rfl) ?_ hS rfl ?_
  rotate_left
  · intro w' hw
    go_simp
    try with_reducible rfl
  simp only [Act.put, List.setIfInBounds_toArray, List.set_cons_zero, List.set_cons_succ]
  refine hs_take (i := 3) (d := some 27) (v := .agg s.b.cells.toArray) rfl (by kernel_rfl) (by kernel_rfl) (by kernel_rfl) (by rfl) (fun w' hw => ex_mid rfl rfl (range_below P8.b hw hA8.lt) Tryd.underlying24 rfl hisb) hS rfl ?_
  simp only [Act.put, List.setIfInBounds_toArray, List.set_cons_zero, List.set_cons_succ]
  refine hs_call (i := 4) (d := some 28) rfl (by kernel_rfl) (by rfl) (by go_simp; first | done | exact ⟨rfl, rfl⟩ | with_reducible rfl) rfl ?_
  refine (c1 w8 (Below.refl _ _)).mono ?_
  rintro e' w9 ⟨rfl, hB9⟩
  have hS : (Below w8.heap.size w8) w9 := hB9
  refine ⟨_, rfl, hS, ?_⟩
  simp only [Act.put, List.setIfInBounds_toArray, List.set_cons_zero, List.set_cons_succ]
  refine hs_take (i := 5) (d := some 29) (v := .bool false) rfl (by kernel_rfl) (by kernel_rfl) (by kernel_rfl) (by rfl) (fun w' hw => ex_bin rfl rfl rfl (by kernel_rfl) (by rw [neq_any _ _ hc.v.dl (Bat.dig_len _)]; simp [HD.out])) hS rfl ?_
  simp only [Act.put, List.setIfInBounds_toArray, List.set_cons_zero, List.set_cons_succ]
  refine hs_take (i := 6) (d := some 23) (v := ?_) rfl (by kernel_rfl) (by kernel_rfl) (by kernel_rfl) (by rfl) ?_ hS rfl ?_
  rotate_left
  · intro w' hw
    go_simp
    try with_reducible rfl
  simp only [Act.put, List.setIfInBounds_toArray, List.set_cons_zero, List.set_cons_succ]
  refine hs_done (by kernel_rfl) ?_
  have hA := hA8.below hB9
  have hr2 := range_below hr8 hB9 (by omega)
  have hV := range_below hV8 hB9 (by omega)
  have hT := there_below hT8 hB9 (by omega)
  have hB : Below w.heap.size w w9 := hBB.trans (hB9.mono hBB.size)
  have hz9 : V < w9.heap.size := by have := hB9.size; omega
  have hTz : w9.there (w.heap.size + 1 + 1) 0 z0.toArray.size := by rw [z85a]; exact hT
  have hTs : w9.there (w.heap.size + 1 + 1) 0 s.cells.toArray.size := by rw [h85a]; exact hT
  clear hS hB8 hB9 hBB hA8 P8 P hr8 hV8 hT8 hD8 c1 hG8 v0 v1 v2 v3 c0 c3 hz8
  obtain ⟨v0, v1, v2, v3⟩ := Vt.four hV
  simp only [Nat.zero_add] at v0 v1 v2 v3
  have P := hA.parts hv
  have c0 := P.vw
  have c3 := P.is
  have c43 := P.ho
  obtain ⟨h0, h1, h2', h3⟩ := Vt.four P.hv
  simp only [Nat.reduceAdd] at h0 h1 h2' h3
  rw [hk] at v0
  rw [his] at c3
  rw [hho] at c43
  have h5 : s.hc.v.v ≥ c.v.v := h4
  have hr := hA.r
  go_wp2_with (first
      | (refine wpList_load_mid rfl 37 _ rfl _ _ rfl s.cells _ hr Tryd.underlying37 rfl hi85 ?_)
      | (refine wpList_store_mid rfl 37 _ _ rfl _ 0 (s.cells).toArray rfl rfl hTs hi85a h1s ?_))
  refine bodyPost_ret (results_ct rfl _ _ _ rfl (run_loadVar_mid (P := Tryd.prog) _ (w.heap.size + 1 + 1) 0 37 (s.cells) _ (World.rangeAt_setCells_same _ _ _ _ (by rw [h85]; exact hT)) Tryd.underlying37 rfl hi85)) rfl ?_
  exact ⟨rfl, below_sets (by omega) _ _ _ hB⟩
set_option maxRecDepth 100000 in
set_option maxHeartbeats 4000000 in
theorem hold_f (s : Sl) (c : Ce) (w : World) (hG : Glob w) (hs : s.ok w) (hc : c.at w) (hk : c.v.k = 1) (his : s.is = true) (h2 : c.v.v = s.vw) (h3 : c.v.d = s.b.dig) (hho : s.ho = false) : Calls Tryd.prog 12 #[.agg s.cells.toArray, .agg c.cells.toArray] w fun e w' => e = .returned (.tuple #[.agg (holdP s c).1.cells.toArray, .int .i64 (holdP s c).2]) ∧ Below w.heap.size w w' := by
  have e : holdP s c = ({ s with hb := s.b, hc := c, ho := true }, 0) := by unfold holdP; rw [if_neg (by simp [hk]), if_neg (by simp [his, h2]), if_neg (by simp [h3]), if_neg (by simp [hho])]
  simp only [e]
  clear e
  have hv := hs.vok
  have h85 : s.cells.length = 85 := Sl.len hv
  have h85a : s.cells.toArray.size = 85 := by simpa using h85
  have hi85 : (Tryd.prog.info? 37).map (·.size) = some s.cells.length := by rw [h85]; exact iszTslot
  have h1s := all_oneS s.one
  have hi85a : (Tryd.prog.info? 37).map (·.size) = some s.cells.toArray.size := by rw [h85a]; exact iszTslot
  obtain ⟨z0, hz0⟩ : ∃ z, Hid (sl0.cells = z) := ⟨_, hide rfl⟩
  have z85 : z0.length = 85 := by rw [← hz0.out]; rfl
  have z85a : z0.toArray.size = 85 := by simpa using z85
  have iz : (Tryd.prog.info? 37).map (·.size) = some z0.toArray.size := by rw [z85a]; exact iszTslot
  have z1 : z0.toArray.all (·.oneCell') = true := by rw [← hz0.out]; exact all_oneS sl0.one
  have hbz : ∀ w', (Instr.build 37 #[]).run Tryd.prog w' = .ok (.agg z0.toArray) w' := fun w' => by rw [← hz0.out]; exact build_Tslot0 w'
  have hzv : ∀ w', (zeroValue 37).run Tryd.prog w' = .ok (.agg z0.toArray) w' := fun w' => by rw [← hz0.out]; exact zero_Tslot w'
  have hv36 : c.v.cells.length = 36 := hc.v.len
  have hv36a : c.v.cells.toArray.size = 36 := by simpa using hv36
  have hiV : (Tryd.prog.info? 28).map (·.size) = some c.v.cells.length := by rw [hv36]; exact iszV
  have hiV2 : (Tryd.prog.info? 28).map (·.size) = some c.v.cells.toArray.size := by rw [hv36a]; exact iszV
  have hv1 := all_oneS c.v.one
  have hisb : (Tryd.prog.info? 24).map (·.size) = some s.b.cells.length := iszB
  go_enter Tryd.func12, Tryd.ntmps12
  go_upto_region 1 with fail
  go_name_world w1 hw1
  obtain ⟨hB1, hr1, ht1, hr2, hT1, hsz⟩ := box3 hw1
  clear hw1
  have hT1 : w1.there (w.heap.size + 1 + 1) 0 85 := by first | exact hT1 | (rw [z85a] at hT1; exact hT1)
  clear hzv
  rw [h85] at ht1
  have hA : SlAt w1 w.heap.size s := ⟨by omega, ht1, hr1⟩
  have hrv : w1.rangeAt (w.heap.size + 1) 0 c.v.cells := range_left hr2
  go_upto_region 2 with (first
    | (refine wpList_load_mid rfl 28 _ rfl _ _ rfl c.v.cells _ hrv Tryd.underlying28 rfl hiV ?_)
    | (refine wpList_store_mid rfl 28 _ _ rfl _ 0 c.v.cells.toArray rfl rfl (there_newN _ _ _ hv36a.symm) hiV2 hv1 ?_))
  go_name_world w2 hw2
  obtain ⟨hB2, hV, hVl, -⟩ := box1 hw2 hv36
  clear hw2
  have hA := hA.below hB2
  have hr2 := range_below hr2 hB2 (by omega)
  have hT := there_below hT1 hB2 (by omega)
  have hB : Below w.heap.size w w2 := hB1.trans (hB2.mono hB1.size)
  clear hB2 hrv hT1 hr1 ht1
  obtain ⟨V, hVe⟩ : ∃ V, Hid (w1.heap.size = V) := ⟨_, hide rfl⟩
  rw [hVe.out] at hV hVl
  have hz2 : w.heap.size + 3 ≤ V := by rw [← hVe.out]; exact hsz
  try rw [hVe.out]
  clear hVe hsz
  obtain ⟨v0, v1, v2, v3⟩ := Vt.four hV
  simp only [Nat.zero_add] at v0 v1 v2 v3
  have P := hA.parts hv
  have c0 := P.vw
  have c3 := P.is
  have hTz : w2.there (w.heap.size + 1 + 1) 0 z0.toArray.size := by rw [z85a]; exact hT
  rw [hk] at v0
  rw [his] at c3
  have HD := hide h3
  clear h3
  have h2b : (c.v.v != s.vw) = false := by simpa using h2
  go_upto_region 5 with fail
  obtain ⟨w8, hw8⟩ : ∃ w8, w2.drew = w8 := ⟨_, rfl⟩
  have hB8 : Below w2.heap.size w2 w8 := by rw [← hw8]; exact (Below.refl _ _).drew
  have hA8 := hA.below hB8
  have P8 := hA8.parts hv
  have hr8 := range_below hr2 hB8 (by omega)
  have hV8 := range_below hV hB8 hVl
  have hT8 := there_below hT hB8 (by omega)
  have hBB : Below w.heap.size w w8 := hB.trans (hB8.mono hB.size)
  have hz8 : V < w8.heap.size := by have := hB8.size; omega
  have hD8 := Vt.dig hV8
  rw [Nat.zero_add] at hD8
  have hiD : (Tryd.prog.info? 26).map (·.size) = some (v8 c.v.d).length := by rw [v8_length, hc.v.dl]; exact iszD
  have hG8 := hG.below hBB
  have c1 := fun w' (h : Below w8.heap.size w8 w') => s.b.dig_any w' (hG8.below h) ((hs.b.below hBB).below h) hs.bl
  try simp only [Act.put]
  refine hs_begin (S := (Below w8.heap.size w8)) 7 rfl (by kernel_rfl) ?_
  rw [hw8]
  clear hw8
  have hS : (Below w8.heap.size w8) w8 := Below.refl _ _
  refine hs_take (i := 0) (d := some 24) (v := ?_) rfl (by kernel_rfl) (by kernel_rfl) (by kernel_rfl) (by rfl) ?_ hS rfl ?_
  rotate_left
  · intro w' hw
    go_simp
    try with_reducible rfl
  simp only [Act.put, List.setIfInBounds_toArray, List.set_cons_zero, List.set_cons_succ]
  refine hs_take (i := 1) (d := some 25) (v := .agg (v8 c.v.d).toArray) rfl (by kernel_rfl) (by kernel_rfl) (by kernel_rfl) (by rfl) (fun w' hw => ex_mid rfl rfl (range_below hD8 hw (by omega)) Tryd.underlying26 rfl hiD) hS rfl ?_
  simp only [Act.put, List.setIfInBounds_toArray, List.set_cons_zero, List.set_cons_succ]
  refine hs_take (i := 2) (d := some 26) (v := ?_) rfl (by kernel_rfl) (by kernel_rfl) (by kernel_rfl) (by rfl) ?_ hS rfl ?_
  rotate_left
  · intro w' hw
    go_simp
    try with_reducible rfl
  simp only [Act.put, List.setIfInBounds_toArray, List.set_cons_zero, List.set_cons_succ]
  refine hs_take (i := 3) (d := some 27) (v := .agg s.b.cells.toArray) rfl (by kernel_rfl) (by kernel_rfl) (by kernel_rfl) (by rfl) (fun w' hw => ex_mid rfl rfl (range_below P8.b hw hA8.lt) Tryd.underlying24 rfl hisb) hS rfl ?_
  simp only [Act.put, List.setIfInBounds_toArray, List.set_cons_zero, List.set_cons_succ]
  refine hs_call (i := 4) (d := some 28) rfl (by kernel_rfl) (by rfl) (by go_simp; first | done | exact ⟨rfl, rfl⟩ | with_reducible rfl) rfl ?_
  refine (c1 w8 (Below.refl _ _)).mono ?_
  rintro e' w9 ⟨rfl, hB9⟩
  have hS : (Below w8.heap.size w8) w9 := hB9
  refine ⟨_, rfl, hS, ?_⟩
  simp only [Act.put, List.setIfInBounds_toArray, List.set_cons_zero, List.set_cons_succ]
  refine hs_take (i := 5) (d := some 29) (v := .bool false) rfl (by kernel_rfl) (by kernel_rfl) (by kernel_rfl) (by rfl) (fun w' hw => ex_bin rfl rfl rfl (by kernel_rfl) (by rw [neq_any _ _ hc.v.dl (Bat.dig_len _)]; simp [HD.out])) hS rfl ?_
  simp only [Act.put, List.setIfInBounds_toArray, List.set_cons_zero, List.set_cons_succ]
  refine hs_take (i := 6) (d := some 23) (v := ?_) rfl (by kernel_rfl) (by kernel_rfl) (by kernel_rfl) (by rfl) ?_ hS rfl ?_
  rotate_left
  · intro w' hw
    go_simp
    try with_reducible rfl
  simp only [Act.put, List.setIfInBounds_toArray, List.set_cons_zero, List.set_cons_succ]
  refine hs_done (by kernel_rfl) ?_
  have hA := hA8.below hB9
  have hr2 := range_below hr8 hB9 (by omega)
  have hV := range_below hV8 hB9 (by omega)
  have hT := there_below hT8 hB9 (by omega)
  have hB : Below w.heap.size w w9 := hBB.trans (hB9.mono hBB.size)
  have hz9 : V < w9.heap.size := by have := hB9.size; omega
  have hTz : w9.there (w.heap.size + 1 + 1) 0 z0.toArray.size := by rw [z85a]; exact hT
  have hTs : w9.there (w.heap.size + 1 + 1) 0 s.cells.toArray.size := by rw [h85a]; exact hT
  clear hS hB8 hB9 hBB hA8 P8 P hr8 hV8 hT8 hD8 c1 hG8 v0 v1 v2 v3 c0 c3 hz8
  obtain ⟨v0, v1, v2, v3⟩ := Vt.four hV
  simp only [Nat.zero_add] at v0 v1 v2 v3
  have P := hA.parts hv
  have c0 := P.vw
  have c3 := P.is
  have c43 := P.ho
  obtain ⟨h0, h1, h2', h3⟩ := Vt.four P.hv
  simp only [Nat.reduceAdd] at h0 h1 h2' h3
  rw [hk] at v0
  rw [his] at c3
  rw [hho] at c43
  have hic : (Tryd.prog.info? 31).map (·.size) = some c.cells.length := by rw [Ce.len hc.v]; exact iszCe
  have h39 : (heldC s.b c).toArray.size = 39 := by simpa using heldC_len (b := s.b) hc.v
  have hih : (Tryd.prog.info? 33).map (·.size) = some (heldC s.b c).toArray.size := by rw [h39]; exact iszHe
  have hh1 := all_oneS (heldC_one s.b c)
  have hbh := fun w' => build_held s.b c hc.v w'
  have hTh : w9.there w.heap.size 4 (heldC s.b c).toArray.size := by rw [h39]; exact there_part1 hA.th (by decide)
  have k1 := hA.held hv s.b c hc.v
  have k2 := k1.ho ⟨hc.v, hv.e⟩ true
  have hb2 := P.b
  obtain ⟨hl, hhl⟩ : ∃ hl, Hid (heldC s.b c = hl) := ⟨_, hide rfl⟩
  rw [hhl.out] at k1 k2 h39 hih hh1 hTh
  simp only [hhl.out] at hbh
  go_upto_region 11 with fail
  try simp only [Act.put]
  refine wp_region_list ?_
  refine wpList_step fun K hK => ?_
  go_simp
  refine hK _ _ ?_
  clear hK K
  refine wpList_load_mid rfl 24 _ rfl _ _ rfl s.b.cells _ hb2 Tryd.underlying24 rfl hisb ?_
  refine wpList_load_mid rfl 31 _ rfl _ _ rfl c.cells _ hr2 Tryd.underlying31 rfl hic ?_
  refine wpList_build rfl 33 [(0, .tmp 48), (1, .tmp 49)] rfl [(0, .agg s.b.cells.toArray), (1, .agg c.cells.toArray)] (.agg hl.toArray) rfl (hbh _) ?_
  refine wpList_step fun K hK => ?_
  go_simp
  refine hK _ _ ?_
  clear hK K
  refine wpList_store_mid rfl 33 _ _ rfl _ 4 hl.toArray rfl rfl hTh hih hh1 ?_
  refine wpList_step fun K hK => ?_
  go_simp
  refine hK _ _ ?_
  clear hK K
  refine wpList_put1 (v := .bool true) rfl 4 _ _ rfl rfl rfl k1.th (by decide) iszBo rfl rfl ?_
  go_upto_region 12 with fail
  have hT : ((w9.setCells w.heap.size 4 hl).setCells w.heap.size 43 [.bool true]).there (w.heap.size + 1 + 1) 0 85 := World.there_setCells (World.there_setCells hT _ _ _) _ _ _
  have hB : Below w.heap.size w ((w9.setCells w.heap.size 4 hl).setCells w.heap.size 43 [.bool true]) := below_sets (Nat.le_refl _) _ _ _ (below_sets (Nat.le_refl _) _ _ _ hB)
  have hr := k2.r
  go_name_world wz hwz
  rw [hwz] at hr hT hB
  clear hwz k1 k2 P hA hr2 hV hTz c0 c3 c43 v0 v1 v2 v3 h0 h1 h2' h3 hb2 hTh hih hh1 hbh hhl h39
  have h85' : (Sl.cells { s with hb := s.b, hc := c, ho := true }).length = 85 := Sl.len ⟨hc.v, hv.e⟩
  have h1s' := all_oneS (Sl.one { s with hb := s.b, hc := c, ho := true })
  obtain ⟨cs, hcs⟩ : ∃ cs, Hid (Sl.cells { s with hb := s.b, hc := c, ho := true } = cs) := ⟨_, hide rfl⟩
  rw [hcs.out] at hr h85' h1s'
  have hTs : wz.there (w.heap.size + 1 + 1) 0 cs.toArray.size := by rw [show cs.toArray.size = 85 by simpa using h85']; exact hT
  have hi85' : (Tryd.prog.info? 37).map (·.size) = some cs.length := by rw [h85']; exact iszTslot
  have hi85a' : (Tryd.prog.info? 37).map (·.size) = some cs.toArray.size := by rw [show cs.toArray.size = 85 by simpa using h85']; exact iszTslot
  go_wp2_with (first
      | (refine wpList_load_mid rfl 37 _ rfl _ _ rfl cs _ hr Tryd.underlying37 rfl hi85' ?_)
      | (refine wpList_store_mid rfl 37 _ _ rfl _ 0 (cs).toArray rfl rfl hTs hi85a' h1s' ?_))
  refine bodyPost_ret (results_ct rfl _ _ _ rfl (run_loadVar_mid (P := Tryd.prog) _ (w.heap.size + 1 + 1) 0 37 (cs) _ (World.rangeAt_setCells_same _ _ _ _ (by rw [h85']; exact hT)) Tryd.underlying37 rfl hi85')) rfl ?_
  exact ⟨by rw [← hcs.out]; rfl, below_sets (by omega) _ _ _ hB⟩
set_option maxRecDepth 100000 in
set_option maxHeartbeats 4000000 in
theorem hold_g (s : Sl) (c : Ce) (w : World) (hG : Glob w) (hs : s.ok w) (hc : c.at w) (hk : c.v.k = 1) (his : s.is = true) (h2 : c.v.v = s.vw) (h3 : c.v.d = s.b.dig) (hho : s.ho = true) (h4 : ¬ c.v.v ≤ s.hc.v.v) : Calls Tryd.prog 12 #[.agg s.cells.toArray, .agg c.cells.toArray] w fun e w' => e = .returned (.tuple #[.agg (holdP s c).1.cells.toArray, .int .i64 (holdP s c).2]) ∧ Below w.heap.size w w' := by
  have e : holdP s c = ({ s with hb := s.b, hc := c, ho := true }, 0) := by unfold holdP; rw [if_neg (by simp [hk]), if_neg (by simp [his, h2]), if_neg (by simp [h3]), if_neg (fun q => h4 q.2)]
  simp only [e]
  clear e
  have hv := hs.vok
  have h85 : s.cells.length = 85 := Sl.len hv
  have h85a : s.cells.toArray.size = 85 := by simpa using h85
  have hi85 : (Tryd.prog.info? 37).map (·.size) = some s.cells.length := by rw [h85]; exact iszTslot
  have h1s := all_oneS s.one
  have hi85a : (Tryd.prog.info? 37).map (·.size) = some s.cells.toArray.size := by rw [h85a]; exact iszTslot
  obtain ⟨z0, hz0⟩ : ∃ z, Hid (sl0.cells = z) := ⟨_, hide rfl⟩
  have z85 : z0.length = 85 := by rw [← hz0.out]; rfl
  have z85a : z0.toArray.size = 85 := by simpa using z85
  have iz : (Tryd.prog.info? 37).map (·.size) = some z0.toArray.size := by rw [z85a]; exact iszTslot
  have z1 : z0.toArray.all (·.oneCell') = true := by rw [← hz0.out]; exact all_oneS sl0.one
  have hbz : ∀ w', (Instr.build 37 #[]).run Tryd.prog w' = .ok (.agg z0.toArray) w' := fun w' => by rw [← hz0.out]; exact build_Tslot0 w'
  have hzv : ∀ w', (zeroValue 37).run Tryd.prog w' = .ok (.agg z0.toArray) w' := fun w' => by rw [← hz0.out]; exact zero_Tslot w'
  have hv36 : c.v.cells.length = 36 := hc.v.len
  have hv36a : c.v.cells.toArray.size = 36 := by simpa using hv36
  have hiV : (Tryd.prog.info? 28).map (·.size) = some c.v.cells.length := by rw [hv36]; exact iszV
  have hiV2 : (Tryd.prog.info? 28).map (·.size) = some c.v.cells.toArray.size := by rw [hv36a]; exact iszV
  have hv1 := all_oneS c.v.one
  have hisb : (Tryd.prog.info? 24).map (·.size) = some s.b.cells.length := iszB
  go_enter Tryd.func12, Tryd.ntmps12
  go_upto_region 1 with fail
  go_name_world w1 hw1
  obtain ⟨hB1, hr1, ht1, hr2, hT1, hsz⟩ := box3 hw1
  clear hw1
  have hT1 : w1.there (w.heap.size + 1 + 1) 0 85 := by first | exact hT1 | (rw [z85a] at hT1; exact hT1)
  clear hzv
  rw [h85] at ht1
  have hA : SlAt w1 w.heap.size s := ⟨by omega, ht1, hr1⟩
  have hrv : w1.rangeAt (w.heap.size + 1) 0 c.v.cells := range_left hr2
  go_upto_region 2 with (first
    | (refine wpList_load_mid rfl 28 _ rfl _ _ rfl c.v.cells _ hrv Tryd.underlying28 rfl hiV ?_)
    | (refine wpList_store_mid rfl 28 _ _ rfl _ 0 c.v.cells.toArray rfl rfl (there_newN _ _ _ hv36a.symm) hiV2 hv1 ?_))
  go_name_world w2 hw2
  obtain ⟨hB2, hV, hVl, -⟩ := box1 hw2 hv36
  clear hw2
  have hA := hA.below hB2
  have hr2 := range_below hr2 hB2 (by omega)
  have hT := there_below hT1 hB2 (by omega)
  have hB : Below w.heap.size w w2 := hB1.trans (hB2.mono hB1.size)
  clear hB2 hrv hT1 hr1 ht1
  obtain ⟨V, hVe⟩ : ∃ V, Hid (w1.heap.size = V) := ⟨_, hide rfl⟩
  rw [hVe.out] at hV hVl
  have hz2 : w.heap.size + 3 ≤ V := by rw [← hVe.out]; exact hsz
  try rw [hVe.out]
  clear hVe hsz
  obtain ⟨v0, v1, v2, v3⟩ := Vt.four hV
  simp only [Nat.zero_add] at v0 v1 v2 v3
  have P := hA.parts hv
  have c0 := P.vw
  have c3 := P.is
  have hTz : w2.there (w.heap.size + 1 + 1) 0 z0.toArray.size := by rw [z85a]; exact hT
  rw [hk] at v0
  rw [his] at c3
  have HD := hide h3
  clear h3
  have h2b : (c.v.v != s.vw) = false := by simpa using h2
  go_upto_region 5 with fail
  obtain ⟨w8, hw8⟩ : ∃ w8, w2.drew = w8 := ⟨_, rfl⟩
  have hB8 : Below w2.heap.size w2 w8 := by rw [← hw8]; exact (Below.refl _ _).drew
  have hA8 := hA.below hB8
  have P8 := hA8.parts hv
  have hr8 := range_below hr2 hB8 (by omega)
  have hV8 := range_below hV hB8 hVl
  have hT8 := there_below hT hB8 (by omega)
  have hBB : Below w.heap.size w w8 := hB.trans (hB8.mono hB.size)
  have hz8 : V < w8.heap.size := by have := hB8.size; omega
  have hD8 := Vt.dig hV8
  rw [Nat.zero_add] at hD8
  have hiD : (Tryd.prog.info? 26).map (·.size) = some (v8 c.v.d).length := by rw [v8_length, hc.v.dl]; exact iszD
  have hG8 := hG.below hBB
  have c1 := fun w' (h : Below w8.heap.size w8 w') => s.b.dig_any w' (hG8.below h) ((hs.b.below hBB).below h) hs.bl
  try simp only [Act.put]
  refine hs_begin (S := (Below w8.heap.size w8)) 7 rfl (by kernel_rfl) ?_
  rw [hw8]
  clear hw8
  have hS : (Below w8.heap.size w8) w8 := Below.refl _ _
  refine hs_take (i := 0) (d := some 24) (v := ?_) rfl (by kernel_rfl) (by kernel_rfl) (by kernel_rfl) (by rfl) ?_ hS rfl ?_
  rotate_left
  · intro w' hw
    go_simp
    try with_reducible rfl
  simp only [Act.put, List.setIfInBounds_toArray, List.set_cons_zero, List.set_cons_succ]
  refine hs_take (i := 1) (d := some 25) (v := .agg (v8 c.v.d).toArray) rfl (by kernel_rfl) (by kernel_rfl) (by kernel_rfl) (by rfl) (fun w' hw => ex_mid rfl rfl (range_below hD8 hw (by omega)) Tryd.underlying26 rfl hiD) hS rfl ?_
  simp only [Act.put, List.setIfInBounds_toArray, List.set_cons_zero, List.set_cons_succ]
  refine hs_take (i := 2) (d := some 26) (v := ?_) rfl (by kernel_rfl) (by kernel_rfl) (by kernel_rfl) (by rfl) ?_ hS rfl ?_
  rotate_left
  · intro w' hw
    go_simp
    try with_reducible rfl
  simp only [Act.put, List.setIfInBounds_toArray, List.set_cons_zero, List.set_cons_succ]
  refine hs_take (i := 3) (d := some 27) (v := .agg s.b.cells.toArray) rfl (by kernel_rfl) (by kernel_rfl) (by kernel_rfl) (by rfl) (fun w' hw => ex_mid rfl rfl (range_below P8.b hw hA8.lt) Tryd.underlying24 rfl hisb) hS rfl ?_
  simp only [Act.put, List.setIfInBounds_toArray, List.set_cons_zero, List.set_cons_succ]
  refine hs_call (i := 4) (d := some 28) rfl (by kernel_rfl) (by rfl) (by go_simp; first | done | exact ⟨rfl, rfl⟩ | with_reducible rfl) rfl ?_
  refine (c1 w8 (Below.refl _ _)).mono ?_
  rintro e' w9 ⟨rfl, hB9⟩
  have hS : (Below w8.heap.size w8) w9 := hB9
  refine ⟨_, rfl, hS, ?_⟩
  simp only [Act.put, List.setIfInBounds_toArray, List.set_cons_zero, List.set_cons_succ]
  refine hs_take (i := 5) (d := some 29) (v := .bool false) rfl (by kernel_rfl) (by kernel_rfl) (by kernel_rfl) (by rfl) (fun w' hw => ex_bin rfl rfl rfl (by kernel_rfl) (by rw [neq_any _ _ hc.v.dl (Bat.dig_len _)]; simp [HD.out])) hS rfl ?_
  simp only [Act.put, List.setIfInBounds_toArray, List.set_cons_zero, List.set_cons_succ]
  refine hs_take (i := 6) (d := some 23) (v := ?_) rfl (by kernel_rfl) (by kernel_rfl) (by kernel_rfl) (by rfl) ?_ hS rfl ?_
  rotate_left
  · intro w' hw
    go_simp
    try with_reducible rfl
  simp only [Act.put, List.setIfInBounds_toArray, List.set_cons_zero, List.set_cons_succ]
  refine hs_done (by kernel_rfl) ?_
  have hA := hA8.below hB9
  have hr2 := range_below hr8 hB9 (by omega)
  have hV := range_below hV8 hB9 (by omega)
  have hT := there_below hT8 hB9 (by omega)
  have hB : Below w.heap.size w w9 := hBB.trans (hB9.mono hBB.size)
  have hz9 : V < w9.heap.size := by have := hB9.size; omega
  have hTz : w9.there (w.heap.size + 1 + 1) 0 z0.toArray.size := by rw [z85a]; exact hT
  have hTs : w9.there (w.heap.size + 1 + 1) 0 s.cells.toArray.size := by rw [h85a]; exact hT
  clear hS hB8 hB9 hBB hA8 P8 P hr8 hV8 hT8 hD8 c1 hG8 v0 v1 v2 v3 c0 c3 hz8
  obtain ⟨v0, v1, v2, v3⟩ := Vt.four hV
  simp only [Nat.zero_add] at v0 v1 v2 v3
  have P := hA.parts hv
  have c0 := P.vw
  have c3 := P.is
  have c43 := P.ho
  obtain ⟨h0, h1, h2', h3⟩ := Vt.four P.hv
  simp only [Nat.reduceAdd] at h0 h1 h2' h3
  rw [hk] at v0
  rw [his] at c3
  rw [hho] at c43
  have h5 : ¬ s.hc.v.v ≥ c.v.v := h4
  clear his hk hho
  have hic : (Tryd.prog.info? 31).map (·.size) = some c.cells.length := by rw [Ce.len hc.v]; exact iszCe
  have h39 : (heldC s.b c).toArray.size = 39 := by simpa using heldC_len (b := s.b) hc.v
  have hih : (Tryd.prog.info? 33).map (·.size) = some (heldC s.b c).toArray.size := by rw [h39]; exact iszHe
  have hh1 := all_oneS (heldC_one s.b c)
  have hbh := fun w' => build_held s.b c hc.v w'
  have hTh : w9.there w.heap.size 4 (heldC s.b c).toArray.size := by rw [h39]; exact there_part1 hA.th (by decide)
  have k1 := hA.held hv s.b c hc.v
  have k2 := k1.ho ⟨hc.v, hv.e⟩ true
  have hb2 := P.b
  obtain ⟨hl, hhl⟩ : ∃ hl, Hid (heldC s.b c = hl) := ⟨_, hide rfl⟩
  rw [hhl.out] at k1 k2 h39 hih hh1 hTh
  simp only [hhl.out] at hbh
  go_upto_region 11 with fail
  try simp only [Act.put]
  refine wp_region_list ?_
  refine wpList_step fun K hK => ?_
  go_simp
  refine hK _ _ ?_
  clear hK K
  refine wpList_load_mid rfl 24 _ rfl _ _ rfl s.b.cells _ hb2 Tryd.underlying24 rfl hisb ?_
  refine wpList_load_mid rfl 31 _ rfl _ _ rfl c.cells _ hr2 Tryd.underlying31 rfl hic ?_
  refine wpList_build rfl 33 [(0, .tmp 48), (1, .tmp 49)] rfl [(0, .agg s.b.cells.toArray), (1, .agg c.cells.toArray)] (.agg hl.toArray) rfl (hbh _) ?_
  refine wpList_step fun K hK => ?_
  go_simp
  refine hK _ _ ?_
  clear hK K
  refine wpList_store_mid rfl 33 _ _ rfl _ 4 hl.toArray rfl rfl hTh hih hh1 ?_
  refine wpList_step fun K hK => ?_
  go_simp
  refine hK _ _ ?_
  clear hK K
  refine wpList_put1 (v := .bool true) rfl 4 _ _ rfl rfl rfl k1.th (by decide) iszBo rfl rfl ?_
  go_upto_region 12 with fail
  have hT : ((w9.setCells w.heap.size 4 hl).setCells w.heap.size 43 [.bool true]).there (w.heap.size + 1 + 1) 0 85 := World.there_setCells (World.there_setCells hT _ _ _) _ _ _
  have hB : Below w.heap.size w ((w9.setCells w.heap.size 4 hl).setCells w.heap.size 43 [.bool true]) := below_sets (Nat.le_refl _) _ _ _ (below_sets (Nat.le_refl _) _ _ _ hB)
  have hr := k2.r
  go_name_world wz hwz
  rw [hwz] at hr hT hB
  clear hwz k1 k2 P hA hr2 hV hTz c0 c3 c43 v0 v1 v2 v3 h0 h1 h2' h3 hb2 hTh hih hh1 hbh hhl h39
  have h85' : (Sl.cells { s with hb := s.b, hc := c, ho := true }).length = 85 := Sl.len ⟨hc.v, hv.e⟩
  have h1s' := all_oneS (Sl.one { s with hb := s.b, hc := c, ho := true })
  obtain ⟨cs, hcs⟩ : ∃ cs, Hid (Sl.cells { s with hb := s.b, hc := c, ho := true } = cs) := ⟨_, hide rfl⟩
  rw [hcs.out] at hr h85' h1s'
  have hTs : wz.there (w.heap.size + 1 + 1) 0 cs.toArray.size := by rw [show cs.toArray.size = 85 by simpa using h85']; exact hT
  have hi85' : (Tryd.prog.info? 37).map (·.size) = some cs.length := by rw [h85']; exact iszTslot
  have hi85a' : (Tryd.prog.info? 37).map (·.size) = some cs.toArray.size := by rw [show cs.toArray.size = 85 by simpa using h85']; exact iszTslot
  go_wp2_with (first
      | (refine wpList_load_mid rfl 37 _ rfl _ _ rfl cs _ hr Tryd.underlying37 rfl hi85' ?_)
      | (refine wpList_store_mid rfl 37 _ _ rfl _ 0 (cs).toArray rfl rfl hTs hi85a' h1s' ?_))
  refine bodyPost_ret (results_ct rfl _ _ _ rfl (run_loadVar_mid (P := Tryd.prog) _ (w.heap.size + 1 + 1) 0 37 (cs) _ (World.rangeAt_setCells_same _ _ _ _ (by rw [h85']; exact hT)) Tryd.underlying37 rfl hi85')) rfl ?_
  exact ⟨by rw [← hcs.out]; rfl, below_sets (by omega) _ _ _ hB⟩
set_option maxRecDepth 100000 in
set_option maxHeartbeats 4000000 in
theorem hold_any (s : Sl) (c : Ce) (w : World) (hG : Glob w) (hs : s.ok w) (hc : c.at w) : Calls Tryd.prog 12 #[.agg s.cells.toArray, .agg c.cells.toArray] w fun e w' => e = .returned (.tuple #[.agg (holdP s c).1.cells.toArray, .int .i64 (holdP s c).2]) ∧ Below w.heap.size w w' := by
  by_cases hk : c.v.k = 1
  · cases his : s.is with
    | false => exact hold_b s c w hG hs hc hk his
    | true =>
      by_cases h2 : c.v.v = s.vw
      · by_cases h3 : c.v.d = s.b.dig
        · cases hho : s.ho with
          | false => exact hold_f s c w hG hs hc hk his h2 h3 hho
          | true =>
            by_cases h4 : c.v.v ≤ s.hc.v.v
            · exact hold_e s c w hG hs hc hk his h2 h3 hho h4
            · exact hold_g s c w hG hs hc hk his h2 h3 hho h4
        · exact hold_d s c w hG hs hc hk his h2 h3
      · exact hold_c s c w hG hs hc hk his h2
  · exact hold_a s c w hG hs hc hk
end Go.Proofs.YtogmkcabndgllaaDoor
