/- the document's Accept -/
import Derived.Test.YtogmkcabndgllaaDoorSM
namespace Go.Proofs.YtogmkcabndgllaaDoor
open Go.RowKit
open Sha Tal
set_option linter.unusedVariables false
set_option maxRecDepth 100000 in
set_option maxHeartbeats 4000000 in
theorem xacc_a (s : Sl) (view : Int) (b : Bat) (w : World) (hs : s.ok w) (hb : b.at w) (hbl : b.lt) (h1 : view < 0) : Calls Tryd.prog 9 #[.agg s.cells.toArray, .int .i64 view, .agg b.cells.toArray] w fun e w' => e = .returned (.tuple #[.agg (acceptP s view b).1.cells.toArray, .int .i64 (acceptP s view b).2]) ∧ Below w.heap.size w w' := by
  have e : acceptP s view b = (sl0, 180) := by unfold acceptP; rw [if_pos (.inl h1)]
  simp only [e]
  clear e
  have hv := hs.vok
  have hi85 : (Tryd.prog.info? 44).map (·.size) = some s.cells.length := by rw [Sl.len hv]; exact iszTxslot
  have h85 : s.cells.length = 85 := Sl.len hv
  have h1s := all_oneS s.one
  have hi85a : (Tryd.prog.info? 44).map (·.size) = some s.cells.toArray.size := by rw [List.size_toArray, h85]; exact iszTxslot
  obtain ⟨z0, hz0⟩ : ∃ z, Hid (sl0.cells = z) := ⟨_, hide rfl⟩
  have z85 : z0.length = 85 := by rw [← hz0.out]; rfl
  have z85a : z0.toArray.size = 85 := by simpa using z85
  have h85a : s.cells.toArray.size = 85 := by simpa using h85
  have iz : (Tryd.prog.info? 44).map (·.size) = some z0.toArray.size := by rw [z85a]; exact iszTxslot
  have z1 : z0.toArray.all (·.oneCell') = true := by rw [← hz0.out]; exact all_oneS sl0.one
  have hbz : ∀ w', (Instr.build 44 #[]).run Tryd.prog w' = .ok (.agg z0.toArray) w' := fun w' => by rw [← hz0.out]; exact build_Txslot0 w'
  have hzv : ∀ w', (zeroValue 44).run Tryd.prog w' = .ok (.agg z0.toArray) w' := fun w' => by rw [← hz0.out]; exact zero_Txslot w'
  have hib : (Tryd.prog.info? 24).map (·.size) = some b.cells.length := iszB
  have hisb : (Tryd.prog.info? 24).map (·.size) = some s.b.cells.length := iszB
  go_enter Tryd.func9, Tryd.ntmps9
  go_upto_region 1 with fail
  go_name_world w1 hw1
  obtain ⟨hB1, hr1, ht1, hr2, hT1, hsz⟩ := box3 hw1
  clear hw1
  have hT1 : w1.there (w.heap.size + 1 + 1) 0 85 := by first | exact hT1 | (rw [z85a] at hT1; exact hT1)
  clear hzv
  have hT1z : w1.there (w.heap.size + 1 + 1) 0 z0.toArray.size := by rw [z85a]; exact hT1
  rw [h85] at ht1
  have hA : SlAt w1 w.heap.size s := ⟨by omega, ht1, hr1⟩
  have P1 := hA.parts hv
  have c0 := P1.vw
  have c3 := P1.is
  go_wp2_with (first
      | (refine wpList_build rfl 44 [] rfl [] (.agg z0.toArray) rfl (hbz _) ?_)
      | (refine wpList_store_mid rfl 44 _ _ rfl _ 0 z0.toArray rfl rfl hT1z iz z1 ?_))
  refine bodyPost_ret (results_ct rfl _ _ _ rfl (run_loadVar_mid (P := Tryd.prog) _ (w.heap.size + 1 + 1) 0 44 z0 _ (World.rangeAt_setCells_same _ _ _ _ (by rw [z85]; exact hT1)) Tryd.underlying44 rfl (by simpa using iz))) rfl ?_
  exact ⟨by rw [hz0.out]; rfl, below_sets (by omega) _ _ _ hB1⟩
set_option maxRecDepth 100000 in
set_option maxHeartbeats 4000000 in
theorem xacc_b (s : Sl) (view : Int) (b : Bat) (w : World) (hs : s.ok w) (hb : b.at w) (hbl : b.lt) (h1 : ¬ view < 0) (his : s.is = true) (h2 : view < s.vw) : Calls Tryd.prog 9 #[.agg s.cells.toArray, .int .i64 view, .agg b.cells.toArray] w fun e w' => e = .returned (.tuple #[.agg (acceptP s view b).1.cells.toArray, .int .i64 (acceptP s view b).2]) ∧ Below w.heap.size w w' := by
  have e : acceptP s view b = (sl0, 180) := by unfold acceptP; rw [if_pos (.inr ⟨his, h2⟩)]
  simp only [e]
  clear e
  have hv := hs.vok
  have hi85 : (Tryd.prog.info? 44).map (·.size) = some s.cells.length := by rw [Sl.len hv]; exact iszTxslot
  have h85 : s.cells.length = 85 := Sl.len hv
  have h1s := all_oneS s.one
  have hi85a : (Tryd.prog.info? 44).map (·.size) = some s.cells.toArray.size := by rw [List.size_toArray, h85]; exact iszTxslot
  obtain ⟨z0, hz0⟩ : ∃ z, Hid (sl0.cells = z) := ⟨_, hide rfl⟩
  have z85 : z0.length = 85 := by rw [← hz0.out]; rfl
  have z85a : z0.toArray.size = 85 := by simpa using z85
  have h85a : s.cells.toArray.size = 85 := by simpa using h85
  have iz : (Tryd.prog.info? 44).map (·.size) = some z0.toArray.size := by rw [z85a]; exact iszTxslot
  have z1 : z0.toArray.all (·.oneCell') = true := by rw [← hz0.out]; exact all_oneS sl0.one
  have hbz : ∀ w', (Instr.build 44 #[]).run Tryd.prog w' = .ok (.agg z0.toArray) w' := fun w' => by rw [← hz0.out]; exact build_Txslot0 w'
  have hzv : ∀ w', (zeroValue 44).run Tryd.prog w' = .ok (.agg z0.toArray) w' := fun w' => by rw [← hz0.out]; exact zero_Txslot w'
  have hib : (Tryd.prog.info? 24).map (·.size) = some b.cells.length := iszB
  have hisb : (Tryd.prog.info? 24).map (·.size) = some s.b.cells.length := iszB
  go_enter Tryd.func9, Tryd.ntmps9
  go_upto_region 1 with fail
  go_name_world w1 hw1
  obtain ⟨hB1, hr1, ht1, hr2, hT1, hsz⟩ := box3 hw1
  clear hw1
  have hT1 : w1.there (w.heap.size + 1 + 1) 0 85 := by first | exact hT1 | (rw [z85a] at hT1; exact hT1)
  clear hzv
  have hT1z : w1.there (w.heap.size + 1 + 1) 0 z0.toArray.size := by rw [z85a]; exact hT1
  rw [h85] at ht1
  have hA : SlAt w1 w.heap.size s := ⟨by omega, ht1, hr1⟩
  have P1 := hA.parts hv
  have c0 := P1.vw
  have c3 := P1.is
  rw [his] at c3
  have h3 : s.vw > view := h2
  go_wp2_with (first
      | (refine wpList_build rfl 44 [] rfl [] (.agg z0.toArray) rfl (hbz _) ?_)
      | (refine wpList_store_mid rfl 44 _ _ rfl _ 0 z0.toArray rfl rfl hT1z iz z1 ?_))
  refine bodyPost_ret (results_ct rfl _ _ _ rfl (run_loadVar_mid (P := Tryd.prog) _ (w.heap.size + 1 + 1) 0 44 z0 _ (World.rangeAt_setCells_same _ _ _ _ (by rw [z85]; exact hT1)) Tryd.underlying44 rfl (by simpa using iz))) rfl ?_
  exact ⟨by rw [hz0.out]; rfl, below_sets (by omega) _ _ _ hB1⟩
set_option maxRecDepth 100000 in
set_option maxHeartbeats 4000000 in
theorem xacc_c (s : Sl) (view : Int) (b : Bat) (w : World) (hs : s.ok w) (hb : b.at w) (hbl : b.lt) (h1 : ¬ view < 0) (his : s.is = true) (h2 : s.vw = view) (h4 : s.b.dig ≠ b.dig) : Calls Tryd.prog 9 #[.agg s.cells.toArray, .int .i64 view, .agg b.cells.toArray] w fun e w' => e = .returned (.tuple #[.agg (acceptP s view b).1.cells.toArray, .int .i64 (acceptP s view b).2]) ∧ Below w.heap.size w w' := by
  have e : acceptP s view b = (sl0, 181) := by unfold acceptP; rw [if_neg (by omega), if_pos ⟨his, h2⟩, if_neg h4]
  simp only [e]
  clear e
  have hv := hs.vok
  have hi85 : (Tryd.prog.info? 44).map (·.size) = some s.cells.length := by rw [Sl.len hv]; exact iszTxslot
  have h85 : s.cells.length = 85 := Sl.len hv
  have h1s := all_oneS s.one
  have hi85a : (Tryd.prog.info? 44).map (·.size) = some s.cells.toArray.size := by rw [List.size_toArray, h85]; exact iszTxslot
  obtain ⟨z0, hz0⟩ : ∃ z, Hid (sl0.cells = z) := ⟨_, hide rfl⟩
  have z85 : z0.length = 85 := by rw [← hz0.out]; rfl
  have z85a : z0.toArray.size = 85 := by simpa using z85
  have h85a : s.cells.toArray.size = 85 := by simpa using h85
  have iz : (Tryd.prog.info? 44).map (·.size) = some z0.toArray.size := by rw [z85a]; exact iszTxslot
  have z1 : z0.toArray.all (·.oneCell') = true := by rw [← hz0.out]; exact all_oneS sl0.one
  have hbz : ∀ w', (Instr.build 44 #[]).run Tryd.prog w' = .ok (.agg z0.toArray) w' := fun w' => by rw [← hz0.out]; exact build_Txslot0 w'
  have hzv : ∀ w', (zeroValue 44).run Tryd.prog w' = .ok (.agg z0.toArray) w' := fun w' => by rw [← hz0.out]; exact zero_Txslot w'
  have hib : (Tryd.prog.info? 24).map (·.size) = some b.cells.length := iszB
  have hisb : (Tryd.prog.info? 24).map (·.size) = some s.b.cells.length := iszB
  go_enter Tryd.func9, Tryd.ntmps9
  go_upto_region 1 with fail
  go_name_world w1 hw1
  obtain ⟨hB1, hr1, ht1, hr2, hT1, hsz⟩ := box3 hw1
  clear hw1
  have hT1 : w1.there (w.heap.size + 1 + 1) 0 85 := by first | exact hT1 | (rw [z85a] at hT1; exact hT1)
  clear hzv
  have hT1z : w1.there (w.heap.size + 1 + 1) 0 z0.toArray.size := by rw [z85a]; exact hT1
  rw [h85] at ht1
  have hA : SlAt w1 w.heap.size s := ⟨by omega, ht1, hr1⟩
  have P1 := hA.parts hv
  have c0 := P1.vw
  have c3 := P1.is
  subst h2
  rw [his] at c3
  have h5 : ¬ s.vw > s.vw := by omega
  have HD := hide h4
  clear h4
  go_upto_region 4 with fail
  obtain ⟨w8, hw8⟩ : ∃ w8, w1.drew = w8 := ⟨_, rfl⟩
  have hB8 : Below w1.heap.size w1 w8 := by rw [← hw8]; exact (Below.refl _ _).drew
  have hA8 := hA.below hB8
  have P8 := hA8.parts hv
  have hr8 := range_below hr2 hB8 (by omega)
  have hT8 := there_below hT1 hB8 (by omega)
  have hBB : Below w.heap.size w w8 := hB1.trans (hB8.mono hB1.size)
  have hz8 : w.heap.size + 3 ≤ w8.heap.size := by have := hB8.size; omega
  have hBB' := hBB
  try simp only [Act.put]
  refine hs_begin (S := (Below w8.heap.size w8)) 6 rfl (by kernel_rfl) ?_
  rw [hw8]
  clear hw8
  have hS : (Below w8.heap.size w8) w8 := Below.refl _ _
  have c1 := fun w' (h : Below w8.heap.size w8 w') => s.b.xdig_any w' ((hs.b.below hBB').below h) hs.bl
  have c2 := fun w' (h : Below w8.heap.size w8 w') => b.xdig_any w' ((hb.below hBB').below h) hbl
  refine hs_take (i := 0) (d := some 29) (v := ?_) rfl (by kernel_rfl) (by kernel_rfl) (by kernel_rfl) (by rfl) ?_ hS rfl ?_
  rotate_left
  · intro w' hw
    go_simp
    try with_reducible rfl
  simp only [Act.put, List.setIfInBounds_toArray, List.set_cons_zero, List.set_cons_succ]
  refine hs_take (i := 1) (d := some 30) (v := .agg s.b.cells.toArray) rfl (by kernel_rfl) (by kernel_rfl) (by kernel_rfl) (by rfl) (fun w' hw => ex_mid rfl rfl (range_below P8.b hw hA8.lt) Tryd.underlying24 rfl hisb) hS rfl ?_
  simp only [Act.put, List.setIfInBounds_toArray, List.set_cons_zero, List.set_cons_succ]
  refine hs_take (i := 3) (d := some 32) (v := .agg b.cells.toArray) rfl (by kernel_rfl) (by kernel_rfl) (by kernel_rfl) (by rfl) (fun w' hw => ex_mid rfl rfl (range_below hr8 hw (by omega)) Tryd.underlying24 rfl hib) hS rfl ?_
  simp only [Act.put, List.setIfInBounds_toArray, List.set_cons_zero, List.set_cons_succ]
  refine hs_call (i := 2) (d := some 31) rfl (by kernel_rfl) (by rfl) (by go_simp; first | done | exact ⟨rfl, rfl⟩ | with_reducible rfl) rfl ?_
  refine (c1 w8 (Below.refl _ _)).mono ?_
  rintro e' w9 ⟨rfl, hB9⟩
  have hS : (Below w8.heap.size w8) w9 := hB9
  refine ⟨_, rfl, hS, ?_⟩
  simp only [Act.put, List.setIfInBounds_toArray, List.set_cons_zero, List.set_cons_succ]
  refine hs_call (i := 4) (d := some 33) rfl (by kernel_rfl) (by rfl) (by go_simp; first | done | exact ⟨rfl, rfl⟩ | with_reducible rfl) rfl ?_
  refine (c2 w9 hB9).mono ?_
  rintro e' w10 ⟨rfl, hB10⟩
  have hS : (Below w8.heap.size w8) w10 := hB9.trans (hB10.mono hB9.size)
  refine ⟨_, rfl, hS, ?_⟩
  simp only [Act.put, List.setIfInBounds_toArray, List.set_cons_zero, List.set_cons_succ]
  refine hs_take (i := 5) (d := some 34) (v := .bool true) rfl (by kernel_rfl) (by kernel_rfl) (by kernel_rfl) (by rfl) (fun w' hw => ex_bin rfl rfl rfl (by kernel_rfl) (by rw [neq_any _ _ (Bat.dig_len _) (Bat.dig_len _)]; simp [HD.out])) hS rfl ?_
  simp only [Act.put, List.setIfInBounds_toArray, List.set_cons_zero, List.set_cons_succ]
  refine hs_done (by kernel_rfl) ?_
  have hr := range_below hA8.r hS hA8.lt
  have hT := there_below hT8 hS (by omega)
  have hTz : w10.there (w.heap.size + 1 + 1) 0 z0.toArray.size := by rw [z85a]; exact hT
  have hTs : w10.there (w.heap.size + 1 + 1) 0 s.cells.toArray.size := by rw [h85a]; exact hT
  have hB : Below w.heap.size w w10 := hBB.trans (hS.mono hBB.size)
  have hzz := hS.size
  clear hS hB9 hB10 c1 c2 P8 P1 c0 c3
  go_wp2_with (first
      | (refine wpList_build rfl 44 [] rfl [] (.agg z0.toArray) rfl (hbz _) ?_)
      | (refine wpList_store_mid rfl 44 _ _ rfl _ 0 z0.toArray rfl rfl hTz iz z1 ?_))
  refine bodyPost_ret (results_ct rfl _ _ _ rfl (run_loadVar_mid (P := Tryd.prog) _ (w.heap.size + 1 + 1) 0 44 z0 _ (World.rangeAt_setCells_same _ _ _ _ (by rw [z85]; exact hT)) Tryd.underlying44 rfl (by simpa using iz))) rfl ?_
  exact ⟨by rw [hz0.out]; rfl, below_sets (by omega) _ _ _ hB⟩
set_option maxRecDepth 100000 in
set_option maxHeartbeats 4000000 in
theorem xacc_d (s : Sl) (view : Int) (b : Bat) (w : World) (hs : s.ok w) (hb : b.at w) (hbl : b.lt) (h1 : ¬ view < 0) (his : s.is = true) (h2 : s.vw = view) (h4 : s.b.dig = b.dig) : Calls Tryd.prog 9 #[.agg s.cells.toArray, .int .i64 view, .agg b.cells.toArray] w fun e w' => e = .returned (.tuple #[.agg (acceptP s view b).1.cells.toArray, .int .i64 (acceptP s view b).2]) ∧ Below w.heap.size w w' := by
  have e : acceptP s view b = (s, 0) := by unfold acceptP; rw [if_neg (by omega), if_pos ⟨his, h2⟩, if_pos h4]
  simp only [e]
  clear e
  have hv := hs.vok
  have hi85 : (Tryd.prog.info? 44).map (·.size) = some s.cells.length := by rw [Sl.len hv]; exact iszTxslot
  have h85 : s.cells.length = 85 := Sl.len hv
  have h1s := all_oneS s.one
  have hi85a : (Tryd.prog.info? 44).map (·.size) = some s.cells.toArray.size := by rw [List.size_toArray, h85]; exact iszTxslot
  obtain ⟨z0, hz0⟩ : ∃ z, Hid (sl0.cells = z) := ⟨_, hide rfl⟩
  have z85 : z0.length = 85 := by rw [← hz0.out]; rfl
  have z85a : z0.toArray.size = 85 := by simpa using z85
  have h85a : s.cells.toArray.size = 85 := by simpa using h85
  have iz : (Tryd.prog.info? 44).map (·.size) = some z0.toArray.size := by rw [z85a]; exact iszTxslot
  have z1 : z0.toArray.all (·.oneCell') = true := by rw [← hz0.out]; exact all_oneS sl0.one
  have hbz : ∀ w', (Instr.build 44 #[]).run Tryd.prog w' = .ok (.agg z0.toArray) w' := fun w' => by rw [← hz0.out]; exact build_Txslot0 w'
  have hzv : ∀ w', (zeroValue 44).run Tryd.prog w' = .ok (.agg z0.toArray) w' := fun w' => by rw [← hz0.out]; exact zero_Txslot w'
  have hib : (Tryd.prog.info? 24).map (·.size) = some b.cells.length := iszB
  have hisb : (Tryd.prog.info? 24).map (·.size) = some s.b.cells.length := iszB
  go_enter Tryd.func9, Tryd.ntmps9
  go_upto_region 1 with fail
  go_name_world w1 hw1
  obtain ⟨hB1, hr1, ht1, hr2, hT1, hsz⟩ := box3 hw1
  clear hw1
  have hT1 : w1.there (w.heap.size + 1 + 1) 0 85 := by first | exact hT1 | (rw [z85a] at hT1; exact hT1)
  clear hzv
  have hT1z : w1.there (w.heap.size + 1 + 1) 0 z0.toArray.size := by rw [z85a]; exact hT1
  rw [h85] at ht1
  have hA : SlAt w1 w.heap.size s := ⟨by omega, ht1, hr1⟩
  have P1 := hA.parts hv
  have c0 := P1.vw
  have c3 := P1.is
  subst h2
  rw [his] at c3
  have h5 : ¬ s.vw > s.vw := by omega
  have HD := hide h4
  clear h4
  go_upto_region 4 with fail
  obtain ⟨w8, hw8⟩ : ∃ w8, w1.drew = w8 := ⟨_, rfl⟩
  have hB8 : Below w1.heap.size w1 w8 := by rw [← hw8]; exact (Below.refl _ _).drew
  have hA8 := hA.below hB8
  have P8 := hA8.parts hv
  have hr8 := range_below hr2 hB8 (by omega)
  have hT8 := there_below hT1 hB8 (by omega)
  have hBB : Below w.heap.size w w8 := hB1.trans (hB8.mono hB1.size)
  have hz8 : w.heap.size + 3 ≤ w8.heap.size := by have := hB8.size; omega
  have hBB' := hBB
  try simp only [Act.put]
  refine hs_begin (S := (Below w8.heap.size w8)) 6 rfl (by kernel_rfl) ?_
  rw [hw8]
  clear hw8
  have hS : (Below w8.heap.size w8) w8 := Below.refl _ _
  have c1 := fun w' (h : Below w8.heap.size w8 w') => s.b.xdig_any w' ((hs.b.below hBB').below h) hs.bl
  have c2 := fun w' (h : Below w8.heap.size w8 w') => b.xdig_any w' ((hb.below hBB').below h) hbl
  refine hs_take (i := 0) (d := some 29) (v := ?_) rfl (by kernel_rfl) (by kernel_rfl) (by kernel_rfl) (by rfl) ?_ hS rfl ?_
  rotate_left
  · intro w' hw
    go_simp
    try with_reducible rfl
  simp only [Act.put, List.setIfInBounds_toArray, List.set_cons_zero, List.set_cons_succ]
  refine hs_take (i := 1) (d := some 30) (v := .agg s.b.cells.toArray) rfl (by kernel_rfl) (by kernel_rfl) (by kernel_rfl) (by rfl) (fun w' hw => ex_mid rfl rfl (range_below P8.b hw hA8.lt) Tryd.underlying24 rfl hisb) hS rfl ?_
  simp only [Act.put, List.setIfInBounds_toArray, List.set_cons_zero, List.set_cons_succ]
  refine hs_take (i := 3) (d := some 32) (v := .agg b.cells.toArray) rfl (by kernel_rfl) (by kernel_rfl) (by kernel_rfl) (by rfl) (fun w' hw => ex_mid rfl rfl (range_below hr8 hw (by omega)) Tryd.underlying24 rfl hib) hS rfl ?_
  simp only [Act.put, List.setIfInBounds_toArray, List.set_cons_zero, List.set_cons_succ]
  refine hs_call (i := 2) (d := some 31) rfl (by kernel_rfl) (by rfl) (by go_simp; first | done | exact ⟨rfl, rfl⟩ | with_reducible rfl) rfl ?_
  refine (c1 w8 (Below.refl _ _)).mono ?_
  rintro e' w9 ⟨rfl, hB9⟩
  have hS : (Below w8.heap.size w8) w9 := hB9
  refine ⟨_, rfl, hS, ?_⟩
  simp only [Act.put, List.setIfInBounds_toArray, List.set_cons_zero, List.set_cons_succ]
  refine hs_call (i := 4) (d := some 33) rfl (by kernel_rfl) (by rfl) (by go_simp; first | done | exact ⟨rfl, rfl⟩ | with_reducible rfl) rfl ?_
  refine (c2 w9 hB9).mono ?_
  rintro e' w10 ⟨rfl, hB10⟩
  have hS : (Below w8.heap.size w8) w10 := hB9.trans (hB10.mono hB9.size)
  refine ⟨_, rfl, hS, ?_⟩
  simp only [Act.put, List.setIfInBounds_toArray, List.set_cons_zero, List.set_cons_succ]
  refine hs_take (i := 5) (d := some 34) (v := .bool false) rfl (by kernel_rfl) (by kernel_rfl) (by kernel_rfl) (by rfl) (fun w' hw => ex_bin rfl rfl rfl (by kernel_rfl) (by rw [neq_any _ _ (Bat.dig_len _) (Bat.dig_len _)]; simp [HD.out])) hS rfl ?_
  simp only [Act.put, List.setIfInBounds_toArray, List.set_cons_zero, List.set_cons_succ]
  refine hs_done (by kernel_rfl) ?_
  have hr := range_below hA8.r hS hA8.lt
  have hT := there_below hT8 hS (by omega)
  have hTz : w10.there (w.heap.size + 1 + 1) 0 z0.toArray.size := by rw [z85a]; exact hT
  have hTs : w10.there (w.heap.size + 1 + 1) 0 s.cells.toArray.size := by rw [h85a]; exact hT
  have hB : Below w.heap.size w w10 := hBB.trans (hS.mono hBB.size)
  have hzz := hS.size
  clear hS hB9 hB10 c1 c2 P8 P1 c0 c3
  go_wp2_with (first
      | (refine wpList_load_mid rfl 44 _ rfl _ _ rfl s.cells _ hr Tryd.underlying44 rfl hi85 ?_)
      | (refine wpList_store_mid rfl 44 _ _ rfl _ 0 (s.cells).toArray rfl rfl hTs hi85a h1s ?_))
  refine bodyPost_ret (results_ct rfl _ _ _ rfl (run_loadVar_mid (P := Tryd.prog) _ (w.heap.size + 1 + 1) 0 44 (s.cells) _ (World.rangeAt_setCells_same _ _ _ _ (by rw [h85]; exact hT)) Tryd.underlying44 rfl hi85)) rfl ?_
  exact ⟨rfl, below_sets (by omega) _ _ _ hB⟩
set_option maxRecDepth 100000 in
set_option maxHeartbeats 4000000 in
theorem xacc_e (s : Sl) (view : Int) (b : Bat) (w : World) (hs : s.ok w) (hb : b.at w) (hbl : b.lt) (h1 : ¬ view < 0) (his : s.is = true) (h2 : s.vw < view) : Calls Tryd.prog 9 #[.agg s.cells.toArray, .int .i64 view, .agg b.cells.toArray] w fun e w' => e = .returned (.tuple #[.agg (acceptP s view b).1.cells.toArray, .int .i64 (acceptP s view b).2]) ∧ Below w.heap.size w w' := by
  have e : acceptP s view b = ({ s with vw := view, b := b, is := true }, 0) := by unfold acceptP; rw [if_neg (by simp [his]; omega), if_neg (by simp [his]; omega)]
  simp only [e]
  clear e
  have hv := hs.vok
  have hi85 : (Tryd.prog.info? 44).map (·.size) = some s.cells.length := by rw [Sl.len hv]; exact iszTxslot
  have h85 : s.cells.length = 85 := Sl.len hv
  have h1s := all_oneS s.one
  have hi85a : (Tryd.prog.info? 44).map (·.size) = some s.cells.toArray.size := by rw [List.size_toArray, h85]; exact iszTxslot
  obtain ⟨z0, hz0⟩ : ∃ z, Hid (sl0.cells = z) := ⟨_, hide rfl⟩
  have z85 : z0.length = 85 := by rw [← hz0.out]; rfl
  have z85a : z0.toArray.size = 85 := by simpa using z85
  have h85a : s.cells.toArray.size = 85 := by simpa using h85
  have iz : (Tryd.prog.info? 44).map (·.size) = some z0.toArray.size := by rw [z85a]; exact iszTxslot
  have z1 : z0.toArray.all (·.oneCell') = true := by rw [← hz0.out]; exact all_oneS sl0.one
  have hbz : ∀ w', (Instr.build 44 #[]).run Tryd.prog w' = .ok (.agg z0.toArray) w' := fun w' => by rw [← hz0.out]; exact build_Txslot0 w'
  have hzv : ∀ w', (zeroValue 44).run Tryd.prog w' = .ok (.agg z0.toArray) w' := fun w' => by rw [← hz0.out]; exact zero_Txslot w'
  have hib : (Tryd.prog.info? 24).map (·.size) = some b.cells.length := iszB
  have hisb : (Tryd.prog.info? 24).map (·.size) = some s.b.cells.length := iszB
  go_enter Tryd.func9, Tryd.ntmps9
  go_upto_region 1 with fail
  go_name_world w1 hw1
  obtain ⟨hB1, hr1, ht1, hr2, hT1, hsz⟩ := box3 hw1
  clear hw1
  have hT1 : w1.there (w.heap.size + 1 + 1) 0 85 := by first | exact hT1 | (rw [z85a] at hT1; exact hT1)
  clear hzv
  have hT1z : w1.there (w.heap.size + 1 + 1) 0 z0.toArray.size := by rw [z85a]; exact hT1
  rw [h85] at ht1
  have hA : SlAt w1 w.heap.size s := ⟨by omega, ht1, hr1⟩
  have P1 := hA.parts hv
  have c0 := P1.vw
  have c3 := P1.is
  rw [his] at c3
  have h4 : (s.vw == view) = false := by simp; omega
  have h5 : ¬ s.vw > view := by omega
  go_upto_region 7 with fail
  have k1 := hA.is true
  have k2 := k1.vw view
  have k3 := k2.b b
  try simp only [Act.put]
  refine wp_region_list ?_
  refine wpList_step fun K hK => ?_
  go_simp
  refine hK _ _ ?_
  clear hK K
  refine wpList_put1 (v := .bool true) rfl 4 _ _ rfl rfl rfl hA.th (by decide) iszBo rfl rfl ?_
  go_upto_region 8 with fail
  try simp only [Act.put]
  refine wp_region_list ?_
  refine wpList_step fun K hK => ?_
  go_simp
  refine hK _ _ ?_
  clear hK K
  refine wpList_step fun K hK => ?_
  go_simp
  refine hK _ _ ?_
  clear hK K
  refine wpList_put1 (v := .int .i64 view) rfl 3 _ _ rfl rfl rfl k1.th (by decide) iszI rfl rfl ?_
  go_upto_region 9 with fail
  have hrb : ((w1.setCells w.heap.size 3 [.bool true]).setCells w.heap.size 0 [.int .i64 view]).rangeAt (w.heap.size + 1) 0 b.cells := World.rangeAt_setCells_apart (World.rangeAt_setCells_apart hr2 _ _ _ (.inl (by omega))) _ _ _ (.inl (by omega))
  try simp only [Act.put]
  refine wp_region_list ?_
  refine wpList_load_mid rfl 24 _ rfl _ _ rfl b.cells _ hrb Tryd.underlying24 rfl hib ?_
  refine wpList_step fun K hK => ?_
  go_simp
  refine hK _ _ ?_
  clear hK K
  refine wpList_store_mid rfl 24 _ _ rfl _ 1 b.cells.toArray rfl rfl (there_part1 k2.th (show 1 + 2 ≤ 85 by decide)) hib (all_oneS b.one) ?_
  go_upto_region 10 with fail
  have hr := k3.r
  have hT : (((w1.setCells w.heap.size 3 [.bool true]).setCells w.heap.size 0 [.int .i64 view]).setCells w.heap.size 1 b.cells).there (w.heap.size + 1 + 1) 0 85 := World.there_setCells (World.there_setCells (World.there_setCells hT1 _ _ _) _ _ _) _ _ _
  have hB : Below w.heap.size w (((w1.setCells w.heap.size 3 [.bool true]).setCells w.heap.size 0 [.int .i64 view]).setCells w.heap.size 1 b.cells) := below_sets (Nat.le_refl _) _ _ _ (below_sets (Nat.le_refl _) _ _ _ (below_sets (Nat.le_refl _) _ _ _ hB1))
  go_name_world wz hwz
  rw [hwz] at hr hT hB
  clear hwz k1 k2 k3 P1 c0 c3 hA hr1 hr2 hrb ht1
  have h85' : (Sl.cells { s with vw := view, b := b, is := true }).length = 85 := Sl.len ⟨hv.h, hv.e⟩
  have h1s' := all_oneS (Sl.one { s with vw := view, b := b, is := true })
  obtain ⟨cs, hcs⟩ : ∃ cs, Hid (Sl.cells { s with vw := view, b := b, is := true } = cs) := ⟨_, hide rfl⟩
  rw [hcs.out] at hr h85' h1s'
  have hTs : wz.there (w.heap.size + 1 + 1) 0 cs.toArray.size := by rw [show cs.toArray.size = 85 by simpa using h85']; exact hT
  have hi85' : (Tryd.prog.info? 44).map (·.size) = some cs.length := by rw [h85']; exact iszTxslot
  have hi85a' : (Tryd.prog.info? 44).map (·.size) = some cs.toArray.size := by rw [show cs.toArray.size = 85 by simpa using h85']; exact iszTxslot
  go_wp2_with (first
      | (refine wpList_load_mid rfl 44 _ rfl _ _ rfl cs _ hr Tryd.underlying44 rfl hi85' ?_)
      | (refine wpList_store_mid rfl 44 _ _ rfl _ 0 (cs).toArray rfl rfl hTs hi85a' h1s' ?_))
  refine bodyPost_ret (results_ct rfl _ _ _ rfl (run_loadVar_mid (P := Tryd.prog) _ (w.heap.size + 1 + 1) 0 44 (cs) _ (World.rangeAt_setCells_same _ _ _ _ (by rw [h85']; exact hT)) Tryd.underlying44 rfl hi85')) rfl ?_
  exact ⟨by rw [← hcs.out]; rfl, below_sets (by omega) _ _ _ hB⟩
set_option maxRecDepth 100000 in
set_option maxHeartbeats 4000000 in
theorem xacc_f (s : Sl) (view : Int) (b : Bat) (w : World) (hs : s.ok w) (hb : b.at w) (hbl : b.lt) (h1 : ¬ view < 0) (his : s.is = false) : Calls Tryd.prog 9 #[.agg s.cells.toArray, .int .i64 view, .agg b.cells.toArray] w fun e w' => e = .returned (.tuple #[.agg (acceptP s view b).1.cells.toArray, .int .i64 (acceptP s view b).2]) ∧ Below w.heap.size w w' := by
  have e : acceptP s view b = ({ s with vw := view, b := b, is := true }, 0) := by unfold acceptP; rw [if_neg (by simp [his]; omega), if_neg (by simp [his])]
  simp only [e]
  clear e
  have hv := hs.vok
  have hi85 : (Tryd.prog.info? 44).map (·.size) = some s.cells.length := by rw [Sl.len hv]; exact iszTxslot
  have h85 : s.cells.length = 85 := Sl.len hv
  have h1s := all_oneS s.one
  have hi85a : (Tryd.prog.info? 44).map (·.size) = some s.cells.toArray.size := by rw [List.size_toArray, h85]; exact iszTxslot
  obtain ⟨z0, hz0⟩ : ∃ z, Hid (sl0.cells = z) := ⟨_, hide rfl⟩
  have z85 : z0.length = 85 := by rw [← hz0.out]; rfl
  have z85a : z0.toArray.size = 85 := by simpa using z85
  have h85a : s.cells.toArray.size = 85 := by simpa using h85
  have iz : (Tryd.prog.info? 44).map (·.size) = some z0.toArray.size := by rw [z85a]; exact iszTxslot
  have z1 : z0.toArray.all (·.oneCell') = true := by rw [← hz0.out]; exact all_oneS sl0.one
  have hbz : ∀ w', (Instr.build 44 #[]).run Tryd.prog w' = .ok (.agg z0.toArray) w' := fun w' => by rw [← hz0.out]; exact build_Txslot0 w'
  have hzv : ∀ w', (zeroValue 44).run Tryd.prog w' = .ok (.agg z0.toArray) w' := fun w' => by rw [← hz0.out]; exact zero_Txslot w'
  have hib : (Tryd.prog.info? 24).map (·.size) = some b.cells.length := iszB
  have hisb : (Tryd.prog.info? 24).map (·.size) = some s.b.cells.length := iszB
  go_enter Tryd.func9, Tryd.ntmps9
  go_upto_region 1 with fail
  go_name_world w1 hw1
  obtain ⟨hB1, hr1, ht1, hr2, hT1, hsz⟩ := box3 hw1
  clear hw1
  have hT1 : w1.there (w.heap.size + 1 + 1) 0 85 := by first | exact hT1 | (rw [z85a] at hT1; exact hT1)
  clear hzv
  have hT1z : w1.there (w.heap.size + 1 + 1) 0 z0.toArray.size := by rw [z85a]; exact hT1
  rw [h85] at ht1
  have hA : SlAt w1 w.heap.size s := ⟨by omega, ht1, hr1⟩
  have P1 := hA.parts hv
  have c0 := P1.vw
  have c3 := P1.is
  rw [his] at c3
  go_upto_region 7 with fail
  have k1 := hA.is true
  have k2 := k1.vw view
  have k3 := k2.b b
  try simp only [Act.put]
  refine wp_region_list ?_
  refine wpList_step fun K hK => ?_
  go_simp
  refine hK _ _ ?_
  clear hK K
  refine wpList_put1 (v := .bool true) rfl 4 _ _ rfl rfl rfl hA.th (by decide) iszBo rfl rfl ?_
  go_upto_region 8 with fail
  try simp only [Act.put]
  refine wp_region_list ?_
  refine wpList_step fun K hK => ?_
  go_simp
  refine hK _ _ ?_
  clear hK K
  refine wpList_step fun K hK => ?_
  go_simp
  refine hK _ _ ?_
  clear hK K
  refine wpList_put1 (v := .int .i64 view) rfl 3 _ _ rfl rfl rfl k1.th (by decide) iszI rfl rfl ?_
  go_upto_region 9 with fail
  have hrb : ((w1.setCells w.heap.size 3 [.bool true]).setCells w.heap.size 0 [.int .i64 view]).rangeAt (w.heap.size + 1) 0 b.cells := World.rangeAt_setCells_apart (World.rangeAt_setCells_apart hr2 _ _ _ (.inl (by omega))) _ _ _ (.inl (by omega))
  try simp only [Act.put]
  refine wp_region_list ?_
  refine wpList_load_mid rfl 24 _ rfl _ _ rfl b.cells _ hrb Tryd.underlying24 rfl hib ?_
  refine wpList_step fun K hK => ?_
  go_simp
  refine hK _ _ ?_
  clear hK K
  refine wpList_store_mid rfl 24 _ _ rfl _ 1 b.cells.toArray rfl rfl (there_part1 k2.th (show 1 + 2 ≤ 85 by decide)) hib (all_oneS b.one) ?_
  go_upto_region 10 with fail
  have hr := k3.r
  have hT : (((w1.setCells w.heap.size 3 [.bool true]).setCells w.heap.size 0 [.int .i64 view]).setCells w.heap.size 1 b.cells).there (w.heap.size + 1 + 1) 0 85 := World.there_setCells (World.there_setCells (World.there_setCells hT1 _ _ _) _ _ _) _ _ _
  have hB : Below w.heap.size w (((w1.setCells w.heap.size 3 [.bool true]).setCells w.heap.size 0 [.int .i64 view]).setCells w.heap.size 1 b.cells) := below_sets (Nat.le_refl _) _ _ _ (below_sets (Nat.le_refl _) _ _ _ (below_sets (Nat.le_refl _) _ _ _ hB1))
  go_name_world wz hwz
  rw [hwz] at hr hT hB
  clear hwz k1 k2 k3 P1 c0 c3 hA hr1 hr2 hrb ht1
  have h85' : (Sl.cells { s with vw := view, b := b, is := true }).length = 85 := Sl.len ⟨hv.h, hv.e⟩
  have h1s' := all_oneS (Sl.one { s with vw := view, b := b, is := true })
  obtain ⟨cs, hcs⟩ : ∃ cs, Hid (Sl.cells { s with vw := view, b := b, is := true } = cs) := ⟨_, hide rfl⟩
  rw [hcs.out] at hr h85' h1s'
  have hTs : wz.there (w.heap.size + 1 + 1) 0 cs.toArray.size := by rw [show cs.toArray.size = 85 by simpa using h85']; exact hT
  have hi85' : (Tryd.prog.info? 44).map (·.size) = some cs.length := by rw [h85']; exact iszTxslot
  have hi85a' : (Tryd.prog.info? 44).map (·.size) = some cs.toArray.size := by rw [show cs.toArray.size = 85 by simpa using h85']; exact iszTxslot
  go_wp2_with (first
      | (refine wpList_load_mid rfl 44 _ rfl _ _ rfl cs _ hr Tryd.underlying44 rfl hi85' ?_)
      | (refine wpList_store_mid rfl 44 _ _ rfl _ 0 (cs).toArray rfl rfl hTs hi85a' h1s' ?_))
  refine bodyPost_ret (results_ct rfl _ _ _ rfl (run_loadVar_mid (P := Tryd.prog) _ (w.heap.size + 1 + 1) 0 44 (cs) _ (World.rangeAt_setCells_same _ _ _ _ (by rw [h85']; exact hT)) Tryd.underlying44 rfl hi85')) rfl ?_
  exact ⟨by rw [← hcs.out]; rfl, below_sets (by omega) _ _ _ hB⟩
set_option maxRecDepth 100000 in
set_option maxHeartbeats 4000000 in
theorem xacc_any (s : Sl) (view : Int) (b : Bat) (w : World) (hs : s.ok w) (hb : b.at w) (hbl : b.lt) : Calls Tryd.prog 9 #[.agg s.cells.toArray, .int .i64 view, .agg b.cells.toArray] w fun e w' => e = .returned (.tuple #[.agg (acceptP s view b).1.cells.toArray, .int .i64 (acceptP s view b).2]) ∧ Below w.heap.size w w' := by
  by_cases h1 : view < 0
  · exact xacc_a s view b w hs hb hbl h1
  cases his : s.is with
  | false => exact xacc_f s view b w hs hb hbl h1 his
  | true =>
    by_cases h2 : view < s.vw
    · exact xacc_b s view b w hs hb hbl h1 his h2
    by_cases h3 : s.vw = view
    · by_cases h4 : s.b.dig = b.dig
      · exact xacc_d s view b w hs hb hbl h1 his h3 h4
      · exact xacc_c s view b w hs hb hbl h1 his h3 h4
    · exact xacc_e s view b w hs hb hbl h1 his (by omega)
end Go.Proofs.YtogmkcabndgllaaDoor
