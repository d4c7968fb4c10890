/- slot.Accept, the document's Accept -/
import Derived.Test.YtogmkcabndgllaaDoorJB
namespace Go.Proofs.YtogmkcabndgllaaDoor
open Go.RowKit
open Sha Tal
set_option linter.unusedVariables false
theorem iszTslot : (Tryd.prog.info? 37).map (·.size) = some 85 := by kernel_rfl
theorem iszTxslot : (Tryd.prog.info? 44).map (·.size) = some 85 := by kernel_rfl
set_option maxRecDepth 100000 in
theorem zero_Tslot (w : World) : (zeroValue 37).run Tryd.prog w = .ok (.agg sl0.cells.toArray) w := by kernel_rfl
set_option maxRecDepth 100000 in
theorem zero_Txslot (w : World) : (zeroValue 44).run Tryd.prog w = .ok (.agg sl0.cells.toArray) w := by kernel_rfl
set_option maxRecDepth 100000 in
theorem build_Tslot0 (w : World) : (Instr.build 37 #[]).run Tryd.prog w = .ok (.agg sl0.cells.toArray) w := by kernel_rfl
set_option maxRecDepth 100000 in
theorem build_Txslot0 (w : World) : (Instr.build 44 #[]).run Tryd.prog w = .ok (.agg sl0.cells.toArray) w := by kernel_rfl
theorem there_part1 {w : World} {b n o m : Nat} (h : w.there b 0 n) (hm : o + m ≤ n) : w.there b o m := fun j hj => by
  have := h (o + j) (by omega)
  rwa [Nat.zero_add] at this
theorem ex_put1 {P : Program} {o : Oper} {a : Act} {w : World} {ty : TypeId} {x y : Operand} {b off n : Nat} {v : Value} (ho : o.op = .store ty x y) (hx : a.eval x = .pointer (some ⟨b, off, none⟩)) (hy : a.eval y = v) (ht : w.there b 0 n) (hn : off < n) (hi : (P.info? ty).map (·.size) = some 1) (hvc : v.cells = #[v]) (h1 : v.oneCell' = true) : (execOp a.eval o).run P w = .ok .skip (w.setCells b off [v]) := by
  refine exec_store ho hx hy ?_
  have e : storeVar ty ⟨b, off, none⟩ v = storeVar ty ⟨b, off, none⟩ (.agg #[v]) := by unfold storeVar; rw [hvc]; rfl
  rw [e, run_storeVar_mid w b off ty #[v] (there_part1 ht (by simp; omega)) hi (by simpa using h1)]
theorem iszI : (Tryd.prog.info? 3).map (·.size) = some 1 := by kernel_rfl
theorem iszBo : (Tryd.prog.info? 4).map (·.size) = some 1 := by kernel_rfl
set_option maxRecDepth 100000 in
set_option maxHeartbeats 4000000 in
theorem acc_a (s : Sl) (view : Int) (b : Bat) (w : World) (hG : Glob w) (hs : s.ok w) (hb : b.at w) (hbl : b.lt) (h1 : view < 0) : Calls Tryd.prog 8 #[.agg s.cells.toArray, .int .i64 view, .agg b.cells.toArray] w fun e w' => e = .returned (.tuple #[.agg (acceptP s view b).1.cells.toArray, .int .i64 (acceptP s view b).2]) ∧ Below w.heap.size w w' := by
  have e : acceptP s view b = (sl0, 180) := by unfold acceptP; rw [if_pos (.inl h1)]
  simp only [e]
  clear e
  have hv := hs.vok
  have hi85 : (Tryd.prog.info? 37).map (·.size) = some s.cells.length := by rw [Sl.len hv]; exact iszTslot
  have h85 : s.cells.length = 85 := Sl.len hv
  have h1s := all_oneS s.one
  have hi85a : (Tryd.prog.info? 37).map (·.size) = some s.cells.toArray.size := by rw [List.size_toArray, h85]; exact iszTslot
  obtain ⟨z0, hz0⟩ : ∃ z, Hid (sl0.cells = z) := ⟨_, hide rfl⟩
  have z85 : z0.length = 85 := by rw [← hz0.out]; rfl
  have z85a : z0.toArray.size = 85 := by simpa using z85
  have h85a : s.cells.toArray.size = 85 := by simpa using h85
  have iz : (Tryd.prog.info? 37).map (·.size) = some z0.toArray.size := by rw [z85a]; exact iszTslot
  have z1 : z0.toArray.all (·.oneCell') = true := by rw [← hz0.out]; exact all_oneS sl0.one
  have hbz : ∀ w', (Instr.build 37 #[]).run Tryd.prog w' = .ok (.agg z0.toArray) w' := fun w' => by rw [← hz0.out]; exact build_Tslot0 w'
  have hzv : ∀ w', (zeroValue 37).run Tryd.prog w' = .ok (.agg z0.toArray) w' := fun w' => by rw [← hz0.out]; exact zero_Tslot w'
  have hib : (Tryd.prog.info? 24).map (·.size) = some b.cells.length := iszB
  have hisb : (Tryd.prog.info? 24).map (·.size) = some s.b.cells.length := iszB
  go_enter Tryd.func8, Tryd.ntmps8
  go_upto_region 1 with fail
  go_name_world w1 hw1
  obtain ⟨hB1, hr1, ht1, hr2, hT1, hsz⟩ := box3 hw1
  clear hw1
  have hT1 : w1.there (w.heap.size + 1 + 1) 0 85 := by first | exact hT1 | (rw [z85a] at hT1; exact hT1)
  clear hzv
  have hT1z : w1.there (w.heap.size + 1 + 1) 0 z0.toArray.size := by rw [z85a]; exact hT1
  rw [h85] at ht1
  have hA : SlAt w1 w.heap.size s := ⟨by omega, ht1, hr1⟩
  have P1 := hA.parts hv
  have c0 := P1.vw
  have c3 := P1.is
  cases his : s.is
  all_goals
    rw [his] at c3
    clear his
    go_wp2_with (first
        | (refine wpList_build rfl 37 [] rfl [] (.agg z0.toArray) rfl (hbz _) ?_)
        | (refine wpList_store_mid rfl 37 _ _ rfl _ 0 z0.toArray rfl rfl hT1z iz z1 ?_))
    refine bodyPost_ret (results_ct rfl _ _ _ rfl (run_loadVar_mid (P := Tryd.prog) _ (w.heap.size + 1 + 1) 0 37 z0 _ (World.rangeAt_setCells_same _ _ _ _ (by rw [z85]; exact hT1)) Tryd.underlying37 rfl (by simpa using iz))) rfl ?_
    exact ⟨by rw [hz0.out]; rfl, below_sets (by omega) _ _ _ hB1⟩
set_option maxRecDepth 100000 in
set_option maxHeartbeats 4000000 in
theorem acc_b (s : Sl) (view : Int) (b : Bat) (w : World) (hG : Glob w) (hs : s.ok w) (hb : b.at w) (hbl : b.lt) (h1 : ¬ view < 0) (his : s.is = true) (h2 : view < s.vw) : Calls Tryd.prog 8 #[.agg s.cells.toArray, .int .i64 view, .agg b.cells.toArray] w fun e w' => e = .returned (.tuple #[.agg (acceptP s view b).1.cells.toArray, .int .i64 (acceptP s view b).2]) ∧ Below w.heap.size w w' := by
  have e : acceptP s view b = (sl0, 180) := by unfold acceptP; rw [if_pos (.inr ⟨his, h2⟩)]
  simp only [e]
  clear e
  have hv := hs.vok
  have hi85 : (Tryd.prog.info? 37).map (·.size) = some s.cells.length := by rw [Sl.len hv]; exact iszTslot
  have h85 : s.cells.length = 85 := Sl.len hv
  have h1s := all_oneS s.one
  have hi85a : (Tryd.prog.info? 37).map (·.size) = some s.cells.toArray.size := by rw [List.size_toArray, h85]; exact iszTslot
  obtain ⟨z0, hz0⟩ : ∃ z, Hid (sl0.cells = z) := ⟨_, hide rfl⟩
  have z85 : z0.length = 85 := by rw [← hz0.out]; rfl
  have z85a : z0.toArray.size = 85 := by simpa using z85
  have h85a : s.cells.toArray.size = 85 := by simpa using h85
  have iz : (Tryd.prog.info? 37).map (·.size) = some z0.toArray.size := by rw [z85a]; exact iszTslot
  have z1 : z0.toArray.all (·.oneCell') = true := by rw [← hz0.out]; exact all_oneS sl0.one
  have hbz : ∀ w', (Instr.build 37 #[]).run Tryd.prog w' = .ok (.agg z0.toArray) w' := fun w' => by rw [← hz0.out]; exact build_Tslot0 w'
  have hzv : ∀ w', (zeroValue 37).run Tryd.prog w' = .ok (.agg z0.toArray) w' := fun w' => by rw [← hz0.out]; exact zero_Tslot w'
  have hib : (Tryd.prog.info? 24).map (·.size) = some b.cells.length := iszB
  have hisb : (Tryd.prog.info? 24).map (·.size) = some s.b.cells.length := iszB
  go_enter Tryd.func8, Tryd.ntmps8
  go_upto_region 1 with fail
  go_name_world w1 hw1
  obtain ⟨hB1, hr1, ht1, hr2, hT1, hsz⟩ := box3 hw1
  clear hw1
  have hT1 : w1.there (w.heap.size + 1 + 1) 0 85 := by first | exact hT1 | (rw [z85a] at hT1; exact hT1)
  clear hzv
  have hT1z : w1.there (w.heap.size + 1 + 1) 0 z0.toArray.size := by rw [z85a]; exact hT1
  rw [h85] at ht1
  have hA : SlAt w1 w.heap.size s := ⟨by omega, ht1, hr1⟩
  have P1 := hA.parts hv
  have c0 := P1.vw
  have c3 := P1.is
  rw [his] at c3
  have h3 : s.vw > view := h2
  have h4 : (s.vw == view) = false := by simp; omega
  go_wp2_with (first
      | (refine wpList_build rfl 37 [] rfl [] (.agg z0.toArray) rfl (hbz _) ?_)
      | (refine wpList_store_mid rfl 37 _ _ rfl _ 0 z0.toArray rfl rfl hT1z iz z1 ?_))
  refine bodyPost_ret (results_ct rfl _ _ _ rfl (run_loadVar_mid (P := Tryd.prog) _ (w.heap.size + 1 + 1) 0 37 z0 _ (World.rangeAt_setCells_same _ _ _ _ (by rw [z85]; exact hT1)) Tryd.underlying37 rfl (by simpa using iz))) rfl ?_
  exact ⟨by rw [hz0.out]; rfl, below_sets (by omega) _ _ _ hB1⟩
set_option maxRecDepth 100000 in
set_option maxHeartbeats 4000000 in
theorem acc_c (s : Sl) (view : Int) (b : Bat) (w : World) (hG : Glob w) (hs : s.ok w) (hb : b.at w) (hbl : b.lt) (h1 : ¬ view < 0) (his : s.is = true) (h2 : s.vw = view) (h4 : s.b.dig ≠ b.dig) : Calls Tryd.prog 8 #[.agg s.cells.toArray, .int .i64 view, .agg b.cells.toArray] w fun e w' => e = .returned (.tuple #[.agg (acceptP s view b).1.cells.toArray, .int .i64 (acceptP s view b).2]) ∧ Below w.heap.size w w' := by
  have e : acceptP s view b = (sl0, 181) := by unfold acceptP; rw [if_neg (by omega), if_pos ⟨his, h2⟩, if_neg h4]
  simp only [e]
  clear e
  have hv := hs.vok
  have hi85 : (Tryd.prog.info? 37).map (·.size) = some s.cells.length := by rw [Sl.len hv]; exact iszTslot
  have h85 : s.cells.length = 85 := Sl.len hv
  have h1s := all_oneS s.one
  have hi85a : (Tryd.prog.info? 37).map (·.size) = some s.cells.toArray.size := by rw [List.size_toArray, h85]; exact iszTslot
  obtain ⟨z0, hz0⟩ : ∃ z, Hid (sl0.cells = z) := ⟨_, hide rfl⟩
  have z85 : z0.length = 85 := by rw [← hz0.out]; rfl
  have z85a : z0.toArray.size = 85 := by simpa using z85
  have h85a : s.cells.toArray.size = 85 := by simpa using h85
  have iz : (Tryd.prog.info? 37).map (·.size) = some z0.toArray.size := by rw [z85a]; exact iszTslot
  have z1 : z0.toArray.all (·.oneCell') = true := by rw [← hz0.out]; exact all_oneS sl0.one
  have hbz : ∀ w', (Instr.build 37 #[]).run Tryd.prog w' = .ok (.agg z0.toArray) w' := fun w' => by rw [← hz0.out]; exact build_Tslot0 w'
  have hzv : ∀ w', (zeroValue 37).run Tryd.prog w' = .ok (.agg z0.toArray) w' := fun w' => by rw [← hz0.out]; exact zero_Tslot w'
  have hib : (Tryd.prog.info? 24).map (·.size) = some b.cells.length := iszB
  have hisb : (Tryd.prog.info? 24).map (·.size) = some s.b.cells.length := iszB
  go_enter Tryd.func8, Tryd.ntmps8
  go_upto_region 1 with fail
  go_name_world w1 hw1
  obtain ⟨hB1, hr1, ht1, hr2, hT1, hsz⟩ := box3 hw1
  clear hw1
  have hT1 : w1.there (w.heap.size + 1 + 1) 0 85 := by first | exact hT1 | (rw [z85a] at hT1; exact hT1)
  clear hzv
  have hT1z : w1.there (w.heap.size + 1 + 1) 0 z0.toArray.size := by rw [z85a]; exact hT1
  rw [h85] at ht1
  have hA : SlAt w1 w.heap.size s := ⟨by omega, ht1, hr1⟩
  have P1 := hA.parts hv
  have c0 := P1.vw
  have c3 := P1.is
  subst h2
  rw [his] at c3
  have h5 : ¬ s.vw > s.vw := by omega
  have HD := hide h4
  clear h4
  go_upto_region 4 with fail
  obtain ⟨w8, hw8⟩ : ∃ w8, w1.drew = w8 := ⟨_, rfl⟩
  have hB8 : Below w1.heap.size w1 w8 := by rw [← hw8]; exact (Below.refl _ _).drew
  have hA8 := hA.below hB8
  have P8 := hA8.parts hv
  have hr8 := range_below hr2 hB8 (by omega)
  have hT8 := there_below hT1 hB8 (by omega)
  have hBB : Below w.heap.size w w8 := hB1.trans (hB8.mono hB1.size)
  have hz8 : w.heap.size + 3 ≤ w8.heap.size := by have := hB8.size; omega
  try simp only [Act.put]
  refine hs_begin (S := (Below w8.heap.size w8)) 10 rfl (by kernel_rfl) ?_
  rw [hw8]
  clear hw8
  have hS : (Below w8.heap.size w8) w8 := Below.refl _ _
  have hBB' := hBB
  have hG8 := hG.below hBB'
  have c1 := fun w' (h : Below w8.heap.size w8 w') => s.b.dig_any w' (hG8.below h) ((hs.b.below hBB').below h) hs.bl
  have c2 := fun w' (h : Below w8.heap.size w8 w') => b.dig_any w' (hG8.below h) ((hb.below hBB').below h) hbl
  refine hs_take (i := 0) (d := some 30) (v := ?_) rfl (by kernel_rfl) (by kernel_rfl) (by kernel_rfl) (by rfl) ?_ hS rfl ?_
  rotate_left
  · intro w' hw
    go_simp
    try with_reducible rfl
  simp only [Act.put, List.setIfInBounds_toArray, List.set_cons_zero, List.set_cons_succ]
  refine hs_take (i := 1) (d := some 31) (v := ?_) rfl (by kernel_rfl) (by kernel_rfl) (by kernel_rfl) (by rfl) ?_ hS rfl ?_
  rotate_left
  · intro w' hw
    go_simp
    try with_reducible rfl
  simp only [Act.put, List.setIfInBounds_toArray, List.set_cons_zero, List.set_cons_succ]
  refine hs_take (i := 2) (d := some 32) (v := ?_) rfl (by kernel_rfl) (by kernel_rfl) (by kernel_rfl) (by rfl) ?_ hS rfl ?_
  rotate_left
  · intro w' hw
    go_simp
    try with_reducible rfl
  simp only [Act.put, List.setIfInBounds_toArray, List.set_cons_zero, List.set_cons_succ]
  refine hs_take (i := 3) (d := some 33) (v := .agg s.b.cells.toArray) rfl (by kernel_rfl) (by kernel_rfl) (by kernel_rfl) (by rfl) (fun w' hw => ex_mid rfl rfl (range_below P8.b hw hA8.lt) Tryd.underlying24 rfl hisb) hS rfl ?_
  simp only [Act.put, List.setIfInBounds_toArray, List.set_cons_zero, List.set_cons_succ]
  refine hs_take (i := 5) (d := some 35) (v := .agg b.cells.toArray) rfl (by kernel_rfl) (by kernel_rfl) (by kernel_rfl) (by rfl) (fun w' hw => ex_mid rfl rfl (range_below hr8 hw (by omega)) Tryd.underlying24 rfl hib) hS rfl ?_
  simp only [Act.put, List.setIfInBounds_toArray, List.set_cons_zero, List.set_cons_succ]
  refine hs_call (i := 4) (d := some 34) rfl (by kernel_rfl) (by rfl) (by go_simp; first | done | exact ⟨rfl, rfl⟩ | with_reducible rfl) rfl ?_
  refine (c1 w8 (Below.refl _ _)).mono ?_
  rintro e' w9 ⟨rfl, hB9⟩
  have hS : (Below w8.heap.size w8) w9 := hB9
  refine ⟨_, rfl, hS, ?_⟩
  simp only [Act.put, List.setIfInBounds_toArray, List.set_cons_zero, List.set_cons_succ]
  refine hs_call (i := 6) (d := some 36) rfl (by kernel_rfl) (by rfl) (by go_simp; first | done | exact ⟨rfl, rfl⟩ | with_reducible rfl) rfl ?_
  refine (c2 w9 hB9).mono ?_
  rintro e' w10 ⟨rfl, hB10⟩
  have hS : (Below w8.heap.size w8) w10 := hB9.trans (hB10.mono hB9.size)
  refine ⟨_, rfl, hS, ?_⟩
  simp only [Act.put, List.setIfInBounds_toArray, List.set_cons_zero, List.set_cons_succ]
  refine hs_take (i := 7) (d := some 37) (v := .bool true) rfl (by kernel_rfl) (by kernel_rfl) (by kernel_rfl) (by rfl) (fun w' hw => ex_bin rfl rfl rfl (by kernel_rfl) (by rw [neq_any _ _ (Bat.dig_len _) (Bat.dig_len _)]; simp [HD.out])) hS rfl ?_
  simp only [Act.put, List.setIfInBounds_toArray, List.set_cons_zero, List.set_cons_succ]
  refine hs_take (i := 8) (d := some 38) (v := ?_) rfl (by kernel_rfl) (by kernel_rfl) (by kernel_rfl) (by rfl) ?_ hS rfl ?_
  rotate_left
  · intro w' hw
    go_simp
    try with_reducible rfl
  simp only [Act.put, List.setIfInBounds_toArray, List.set_cons_zero, List.set_cons_succ]
  refine hs_take (i := 9) (d := some 29) (v := ?_) rfl (by kernel_rfl) (by kernel_rfl) (by kernel_rfl) (by rfl) ?_ hS rfl ?_
  rotate_left
  · intro w' hw
    go_simp
    try with_reducible rfl
  simp only [Act.put, List.setIfInBounds_toArray, List.set_cons_zero, List.set_cons_succ]
  refine hs_done (by kernel_rfl) ?_
  have hr := range_below hA8.r hS hA8.lt
  have hT := there_below hT8 hS (by omega)
  have hTz : w10.there (w.heap.size + 1 + 1) 0 z0.toArray.size := by rw [z85a]; exact hT
  have hTs : w10.there (w.heap.size + 1 + 1) 0 s.cells.toArray.size := by rw [h85a]; exact hT
  have hB : Below w.heap.size w w10 := hBB.trans (hS.mono hBB.size)
  have hzz := hS.size
  clear hS hB9 hB10 c1 c2 P8 P1 c0 c3
  go_wp2_with (first
      | (refine wpList_build rfl 37 [] rfl [] (.agg z0.toArray) rfl (hbz _) ?_)
      | (refine wpList_store_mid rfl 37 _ _ rfl _ 0 z0.toArray rfl rfl hTz iz z1 ?_))
  refine bodyPost_ret (results_ct rfl _ _ _ rfl (run_loadVar_mid (P := Tryd.prog) _ (w.heap.size + 1 + 1) 0 37 z0 _ (World.rangeAt_setCells_same _ _ _ _ (by rw [z85]; exact hT)) Tryd.underlying37 rfl (by simpa using iz))) rfl ?_
  exact ⟨by rw [hz0.out]; rfl, below_sets (by omega) _ _ _ hB⟩
set_option maxRecDepth 100000 in
set_option maxHeartbeats 4000000 in
theorem acc_d (s : Sl) (view : Int) (b : Bat) (w : World) (hG : Glob w) (hs : s.ok w) (hb : b.at w) (hbl : b.lt) (h1 : ¬ view < 0) (his : s.is = true) (h2 : s.vw = view) (h4 : s.b.dig = b.dig) : Calls Tryd.prog 8 #[.agg s.cells.toArray, .int .i64 view, .agg b.cells.toArray] w fun e w' => e = .returned (.tuple #[.agg (acceptP s view b).1.cells.toArray, .int .i64 (acceptP s view b).2]) ∧ Below w.heap.size w w' := by
  have e : acceptP s view b = (s, 0) := by unfold acceptP; rw [if_neg (by omega), if_pos ⟨his, h2⟩, if_pos h4]
  simp only [e]
  clear e
  have hv := hs.vok
  have hi85 : (Tryd.prog.info? 37).map (·.size) = some s.cells.length := by rw [Sl.len hv]; exact iszTslot
  have h85 : s.cells.length = 85 := Sl.len hv
  have h1s := all_oneS s.one
  have hi85a : (Tryd.prog.info? 37).map (·.size) = some s.cells.toArray.size := by rw [List.size_toArray, h85]; exact iszTslot
  obtain ⟨z0, hz0⟩ : ∃ z, Hid (sl0.cells = z) := ⟨_, hide rfl⟩
  have z85 : z0.length = 85 := by rw [← hz0.out]; rfl
  have z85a : z0.toArray.size = 85 := by simpa using z85
  have h85a : s.cells.toArray.size = 85 := by simpa using h85
  have iz : (Tryd.prog.info? 37).map (·.size) = some z0.toArray.size := by rw [z85a]; exact iszTslot
  have z1 : z0.toArray.all (·.oneCell') = true := by rw [← hz0.out]; exact all_oneS sl0.one
  have hbz : ∀ w', (Instr.build 37 #[]).run Tryd.prog w' = .ok (.agg z0.toArray) w' := fun w' => by rw [← hz0.out]; exact build_Tslot0 w'
  have hzv : ∀ w', (zeroValue 37).run Tryd.prog w' = .ok (.agg z0.toArray) w' := fun w' => by rw [← hz0.out]; exact zero_Tslot w'
  have hib : (Tryd.prog.info? 24).map (·.size) = some b.cells.length := iszB
  have hisb : (Tryd.prog.info? 24).map (·.size) = some s.b.cells.length := iszB
  go_enter Tryd.func8, Tryd.ntmps8
  go_upto_region 1 with fail
  go_name_world w1 hw1
  obtain ⟨hB1, hr1, ht1, hr2, hT1, hsz⟩ := box3 hw1
  clear hw1
  have hT1 : w1.there (w.heap.size + 1 + 1) 0 85 := by first | exact hT1 | (rw [z85a] at hT1; exact hT1)
  clear hzv
  have hT1z : w1.there (w.heap.size + 1 + 1) 0 z0.toArray.size := by rw [z85a]; exact hT1
  rw [h85] at ht1
  have hA : SlAt w1 w.heap.size s := ⟨by omega, ht1, hr1⟩
  have P1 := hA.parts hv
  have c0 := P1.vw
  have c3 := P1.is
  subst h2
  rw [his] at c3
  have h5 : ¬ s.vw > s.vw := by omega
  have HD := hide h4
  clear h4
  go_upto_region 4 with fail
  obtain ⟨w8, hw8⟩ : ∃ w8, w1.drew = w8 := ⟨_, rfl⟩
  have hB8 : Below w1.heap.size w1 w8 := by rw [← hw8]; exact (Below.refl _ _).drew
  have hA8 := hA.below hB8
  have P8 := hA8.parts hv
  have hr8 := range_below hr2 hB8 (by omega)
  have hT8 := there_below hT1 hB8 (by omega)
  have hBB : Below w.heap.size w w8 := hB1.trans (hB8.mono hB1.size)
  have hz8 : w.heap.size + 3 ≤ w8.heap.size := by have := hB8.size; omega
  try simp only [Act.put]
  refine hs_begin (S := (Below w8.heap.size w8)) 10 rfl (by kernel_rfl) ?_
  rw [hw8]
  clear hw8
  have hS : (Below w8.heap.size w8) w8 := Below.refl _ _
  have hBB' := hBB
  have hG8 := hG.below hBB'
  have c1 := fun w' (h : Below w8.heap.size w8 w') => s.b.dig_any w' (hG8.below h) ((hs.b.below hBB').below h) hs.bl
  have c2 := fun w' (h : Below w8.heap.size w8 w') => b.dig_any w' (hG8.below h) ((hb.below hBB').below h) hbl
  refine hs_take (i := 0) (d := some 30) (v := ?_) rfl (by kernel_rfl) (by kernel_rfl) (by kernel_rfl) (by rfl) ?_ hS rfl ?_
  rotate_left
  · intro w' hw
    go_simp
    try with_reducible rfl
  simp only [Act.put, List.setIfInBounds_toArray, List.set_cons_zero, List.set_cons_succ]
  refine hs_take (i := 1) (d := some 31) (v := ?_) rfl (by kernel_rfl) (by kernel_rfl) (by kernel_rfl) (by rfl) ?_ hS rfl ?_
  rotate_left
  · intro w' hw
    go_simp
    try with_reducible rfl
  simp only [Act.put, List.setIfInBounds_toArray, List.set_cons_zero, List.set_cons_succ]
  refine hs_take (i := 2) (d := some 32) (v := ?_) rfl (by kernel_rfl) (by kernel_rfl) (by kernel_rfl) (by rfl) ?_ hS rfl ?_
  rotate_left
  · intro w' hw
    go_simp
    try with_reducible rfl
  simp only [Act.put, List.setIfInBounds_toArray, List.set_cons_zero, List.set_cons_succ]
  refine hs_take (i := 3) (d := some 33) (v := .agg s.b.cells.toArray) rfl (by kernel_rfl) (by kernel_rfl) (by kernel_rfl) (by rfl) (fun w' hw => ex_mid rfl rfl (range_below P8.b hw hA8.lt) Tryd.underlying24 rfl hisb) hS rfl ?_
  simp only [Act.put, List.setIfInBounds_toArray, List.set_cons_zero, List.set_cons_succ]
  refine hs_take (i := 5) (d := some 35) (v := .agg b.cells.toArray) rfl (by kernel_rfl) (by kernel_rfl) (by kernel_rfl) (by rfl) (fun w' hw => ex_mid rfl rfl (range_below hr8 hw (by omega)) Tryd.underlying24 rfl hib) hS rfl ?_
  simp only [Act.put, List.setIfInBounds_toArray, List.set_cons_zero, List.set_cons_succ]
  refine hs_call (i := 4) (d := some 34) rfl (by kernel_rfl) (by rfl) (by go_simp; first | done | exact ⟨rfl, rfl⟩ | with_reducible rfl) rfl ?_
  refine (c1 w8 (Below.refl _ _)).mono ?_
  rintro e' w9 ⟨rfl, hB9⟩
  have hS : (Below w8.heap.size w8) w9 := hB9
  refine ⟨_, rfl, hS, ?_⟩
  simp only [Act.put, List.setIfInBounds_toArray, List.set_cons_zero, List.set_cons_succ]
  refine hs_call (i := 6) (d := some 36) rfl (by kernel_rfl) (by rfl) (by go_simp; first | done | exact ⟨rfl, rfl⟩ | with_reducible rfl) rfl ?_
  refine (c2 w9 hB9).mono ?_
  rintro e' w10 ⟨rfl, hB10⟩
  have hS : (Below w8.heap.size w8) w10 := hB9.trans (hB10.mono hB9.size)
  refine ⟨_, rfl, hS, ?_⟩
  simp only [Act.put, List.setIfInBounds_toArray, List.set_cons_zero, List.set_cons_succ]
  refine hs_take (i := 7) (d := some 37) (v := .bool false) rfl (by kernel_rfl) (by kernel_rfl) (by kernel_rfl) (by rfl) (fun w' hw => ex_bin rfl rfl rfl (by kernel_rfl) (by rw [neq_any _ _ (Bat.dig_len _) (Bat.dig_len _)]; simp [HD.out])) hS rfl ?_
  simp only [Act.put, List.setIfInBounds_toArray, List.set_cons_zero, List.set_cons_succ]
  refine hs_take (i := 8) (d := some 38) (v := ?_) rfl (by kernel_rfl) (by kernel_rfl) (by kernel_rfl) (by rfl) ?_ hS rfl ?_
  rotate_left
  · intro w' hw
    go_simp
    try with_reducible rfl
  simp only [Act.put, List.setIfInBounds_toArray, List.set_cons_zero, List.set_cons_succ]
  refine hs_take (i := 9) (d := some 29) (v := ?_) rfl (by kernel_rfl) (by kernel_rfl) (by kernel_rfl) (by rfl) ?_ hS rfl ?_
  rotate_left
  · intro w' hw
    go_simp
    try with_reducible rfl
  simp only [Act.put, List.setIfInBounds_toArray, List.set_cons_zero, List.set_cons_succ]
  refine hs_done (by kernel_rfl) ?_
  have hr := range_below hA8.r hS hA8.lt
  have hT := there_below hT8 hS (by omega)
  have hTz : w10.there (w.heap.size + 1 + 1) 0 z0.toArray.size := by rw [z85a]; exact hT
  have hTs : w10.there (w.heap.size + 1 + 1) 0 s.cells.toArray.size := by rw [h85a]; exact hT
  have hB : Below w.heap.size w w10 := hBB.trans (hS.mono hBB.size)
  have hzz := hS.size
  clear hS hB9 hB10 c1 c2 P8 P1 c0 c3
  go_wp2_with (first
      | (refine wpList_load_mid rfl 37 _ rfl _ _ rfl s.cells _ hr Tryd.underlying37 rfl hi85 ?_)
      | (refine wpList_store_mid rfl 37 _ _ rfl _ 0 (s.cells).toArray rfl rfl hTs hi85a h1s ?_))
  refine bodyPost_ret (results_ct rfl _ _ _ rfl (run_loadVar_mid (P := Tryd.prog) _ (w.heap.size + 1 + 1) 0 37 (s.cells) _ (World.rangeAt_setCells_same _ _ _ _ (by rw [h85]; exact hT)) Tryd.underlying37 rfl hi85)) rfl ?_
  exact ⟨rfl, below_sets (by omega) _ _ _ hB⟩
set_option maxRecDepth 100000 in
set_option maxHeartbeats 4000000 in
theorem acc_e (s : Sl) (view : Int) (b : Bat) (w : World) (hG : Glob w) (hs : s.ok w) (hb : b.at w) (hbl : b.lt) (h1 : ¬ view < 0) (his : s.is = true) (h2 : s.vw < view) : Calls Tryd.prog 8 #[.agg s.cells.toArray, .int .i64 view, .agg b.cells.toArray] w fun e w' => e = .returned (.tuple #[.agg (acceptP s view b).1.cells.toArray, .int .i64 (acceptP s view b).2]) ∧ Below w.heap.size w w' := by
  have e : acceptP s view b = ({ s with vw := view, b := b, is := true }, 0) := by unfold acceptP; rw [if_neg (by simp [his]; omega), if_neg (by simp [his]; omega)]
  simp only [e]
  clear e
  have hv := hs.vok
  have hi85 : (Tryd.prog.info? 37).map (·.size) = some s.cells.length := by rw [Sl.len hv]; exact iszTslot
  have h85 : s.cells.length = 85 := Sl.len hv
  have h1s := all_oneS s.one
  have hi85a : (Tryd.prog.info? 37).map (·.size) = some s.cells.toArray.size := by rw [List.size_toArray, h85]; exact iszTslot
  obtain ⟨z0, hz0⟩ : ∃ z, Hid (sl0.cells = z) := ⟨_, hide rfl⟩
  have z85 : z0.length = 85 := by rw [← hz0.out]; rfl
  have z85a : z0.toArray.size = 85 := by simpa using z85
  have h85a : s.cells.toArray.size = 85 := by simpa using h85
  have iz : (Tryd.prog.info? 37).map (·.size) = some z0.toArray.size := by rw [z85a]; exact iszTslot
  have z1 : z0.toArray.all (·.oneCell') = true := by rw [← hz0.out]; exact all_oneS sl0.one
  have hbz : ∀ w', (Instr.build 37 #[]).run Tryd.prog w' = .ok (.agg z0.toArray) w' := fun w' => by rw [← hz0.out]; exact build_Tslot0 w'
  have hzv : ∀ w', (zeroValue 37).run Tryd.prog w' = .ok (.agg z0.toArray) w' := fun w' => by rw [← hz0.out]; exact zero_Tslot w'
  have hib : (Tryd.prog.info? 24).map (·.size) = some b.cells.length := iszB
  have hisb : (Tryd.prog.info? 24).map (·.size) = some s.b.cells.length := iszB
  go_enter Tryd.func8, Tryd.ntmps8
  go_upto_region 1 with fail
  go_name_world w1 hw1
  obtain ⟨hB1, hr1, ht1, hr2, hT1, hsz⟩ := box3 hw1
  clear hw1
  have hT1 : w1.there (w.heap.size + 1 + 1) 0 85 := by first | exact hT1 | (rw [z85a] at hT1; exact hT1)
  clear hzv
  have hT1z : w1.there (w.heap.size + 1 + 1) 0 z0.toArray.size := by rw [z85a]; exact hT1
  rw [h85] at ht1
  have hA : SlAt w1 w.heap.size s := ⟨by omega, ht1, hr1⟩
  have P1 := hA.parts hv
  have c0 := P1.vw
  have c3 := P1.is
  rw [his] at c3
  have h4 : (s.vw == view) = false := by simp; omega
  have h5 : ¬ s.vw > view := by omega
  go_upto_region 4 with fail
  obtain ⟨w8, hw8⟩ : ∃ w8, w1.drew = w8 := ⟨_, rfl⟩
  have hB8 : Below w1.heap.size w1 w8 := by rw [← hw8]; exact (Below.refl _ _).drew
  have hA8 := hA.below hB8
  have P8 := hA8.parts hv
  have hr8 := range_below hr2 hB8 (by omega)
  have hT8 := there_below hT1 hB8 (by omega)
  have hBB : Below w.heap.size w w8 := hB1.trans (hB8.mono hB1.size)
  have hz8 : w.heap.size + 3 ≤ w8.heap.size := by have := hB8.size; omega
  try simp only [Act.put]
  refine hs_begin (S := (Below w8.heap.size w8)) 10 rfl (by kernel_rfl) ?_
  rw [hw8]
  clear hw8
  have hS : (Below w8.heap.size w8) w8 := Below.refl _ _
  refine hs_take (i := 0) (d := some 30) (v := ?_) rfl (by kernel_rfl) (by kernel_rfl) (by kernel_rfl) (by rfl) ?_ hS rfl ?_
  rotate_left
  · intro w' hw
    go_simp
    try with_reducible rfl
  simp only [Act.put, List.setIfInBounds_toArray, List.set_cons_zero, List.set_cons_succ]
  refine hs_take (i := 1) (d := some 31) (v := ?_) rfl (by kernel_rfl) (by kernel_rfl) (by kernel_rfl) (by rfl) ?_ hS rfl ?_
  rotate_left
  · intro w' hw
    go_simp
    try with_reducible rfl
  simp only [Act.put, List.setIfInBounds_toArray, List.set_cons_zero, List.set_cons_succ]
  refine hs_skip (i := 2) (d := some 32) rfl (by kernel_rfl) (by kernel_rfl) (by kernel_rfl) (by rfl) hS rfl ?_
  simp only [Act.put, List.setIfInBounds_toArray, List.set_cons_zero, List.set_cons_succ]
  refine hs_skip (i := 3) (d := some 33) rfl (by kernel_rfl) (by kernel_rfl) (by kernel_rfl) (by rfl) hS rfl ?_
  simp only [Act.put, List.setIfInBounds_toArray, List.set_cons_zero, List.set_cons_succ]
  refine hs_skip (i := 4) (d := some 34) rfl (by kernel_rfl) (by kernel_rfl) (by kernel_rfl) (by rfl) hS rfl ?_
  simp only [Act.put, List.setIfInBounds_toArray, List.set_cons_zero, List.set_cons_succ]
  refine hs_skip (i := 5) (d := some 35) rfl (by kernel_rfl) (by kernel_rfl) (by kernel_rfl) (by rfl) hS rfl ?_
  simp only [Act.put, List.setIfInBounds_toArray, List.set_cons_zero, List.set_cons_succ]
  refine hs_skip (i := 6) (d := some 36) rfl (by kernel_rfl) (by kernel_rfl) (by kernel_rfl) (by rfl) hS rfl ?_
  simp only [Act.put, List.setIfInBounds_toArray, List.set_cons_zero, List.set_cons_succ]
  refine hs_skip (i := 7) (d := some 37) rfl (by kernel_rfl) (by kernel_rfl) (by kernel_rfl) (by rfl) hS rfl ?_
  simp only [Act.put, List.setIfInBounds_toArray, List.set_cons_zero, List.set_cons_succ]
  refine hs_take (i := 8) (d := some 38) (v := ?_) rfl (by kernel_rfl) (by kernel_rfl) (by kernel_rfl) (by rfl) ?_ hS rfl ?_
  rotate_left
  · intro w' hw
    go_simp
    try with_reducible rfl
  simp only [Act.put, List.setIfInBounds_toArray, List.set_cons_zero, List.set_cons_succ]
  refine hs_take (i := 9) (d := some 29) (v := ?_) rfl (by kernel_rfl) (by kernel_rfl) (by kernel_rfl) (by rfl) ?_ hS rfl ?_
  rotate_left
  · intro w' hw
    go_simp
    try with_reducible rfl
  simp only [Act.put, List.setIfInBounds_toArray, List.set_cons_zero, List.set_cons_succ]
  refine hs_done (by kernel_rfl) ?_
  go_upto_region 9 with fail
  obtain ⟨w9, hw9⟩ : ∃ w9, w8.drew = w9 := ⟨_, rfl⟩
  have hB9 : Below w8.heap.size w8 w9 := by rw [← hw9]; exact (Below.refl _ _).drew
  have hA9 := hA8.below hB9
  have hr9 := range_below hr8 hB9 (by omega)
  have hT9 := there_below hT8 hB9 (by omega)
  have hB' : Below w.heap.size w w9 := hBB.trans (hB9.mono hBB.size)
  clear P1 P8 c0 c3 hS
  try simp only [Act.put]
  refine hs_begin (S := fun W => W.rangeAt (w.heap.size + 1) 0 b.cells) 8 rfl (by kernel_rfl) ?_
  rw [hw9]
  clear hw9
  have hS : (fun W : World => W.rangeAt (w.heap.size + 1) 0 b.cells) w9 := hr9
  refine hs_take (i := 0) (d := some 44) (v := ?_) rfl (by kernel_rfl) (by kernel_rfl) (by kernel_rfl) (by rfl) ?_ hS rfl ?_
  rotate_left
  · intro w' hw
    go_simp
    try with_reducible rfl
  simp only [Act.put, List.setIfInBounds_toArray, List.set_cons_zero, List.set_cons_succ]
  refine hs_take (i := 1) (d := some 45) (v := .agg b.cells.toArray) rfl (by kernel_rfl) (by kernel_rfl) (by kernel_rfl) (by rfl) (fun w' hw => ex_mid rfl rfl hw Tryd.underlying24 rfl hib) hS rfl ?_
  simp only [Act.put, List.setIfInBounds_toArray, List.set_cons_zero, List.set_cons_succ]
  refine hs_take (i := 2) (d := some 46) (v := ?_) rfl (by kernel_rfl) (by kernel_rfl) (by kernel_rfl) (by rfl) ?_ hS rfl ?_
  rotate_left
  · intro w' hw
    go_simp
    try with_reducible rfl
  simp only [Act.put, List.setIfInBounds_toArray, List.set_cons_zero, List.set_cons_succ]
  have k1 := hA9.vw view
  have hS : (fun W : World => W.rangeAt (w.heap.size + 1) 0 b.cells) (w9.setCells w.heap.size 0 [.int .i64 view]) := World.rangeAt_setCells_apart hS _ _ _ (.inl (by omega))
  refine hs_store (i := 3) (w' := w9.setCells w.heap.size 0 [.int .i64 view]) rfl (by kernel_rfl) (by rfl) (ex_put1 rfl rfl rfl hA9.th (by omega) iszI rfl rfl) rfl hS ?_
  refine hs_take (i := 4) (d := some 47) (v := ?_) rfl (by kernel_rfl) (by kernel_rfl) (by kernel_rfl) (by rfl) ?_ hS rfl ?_
  rotate_left
  · intro w' hw
    go_simp
    try with_reducible rfl
  simp only [Act.put, List.setIfInBounds_toArray, List.set_cons_zero, List.set_cons_succ]
  have k2 := k1.b b
  have hS : (fun W : World => W.rangeAt (w.heap.size + 1) 0 b.cells) ((w9.setCells w.heap.size 0 [.int .i64 view]).setCells w.heap.size 1 b.cells) := World.rangeAt_setCells_apart hS _ _ _ (.inl (by omega))
  refine hs_store (i := 5) (w' := (w9.setCells w.heap.size 0 [.int .i64 view]).setCells w.heap.size 1 b.cells) rfl (by kernel_rfl) (by rfl) (ex_put rfl rfl rfl (there_part1 k1.th (by simp)) hib (all_oneS b.one)) rfl hS ?_
  refine hs_take (i := 6) (d := some 48) (v := ?_) rfl (by kernel_rfl) (by kernel_rfl) (by kernel_rfl) (by rfl) ?_ hS rfl ?_
  rotate_left
  · intro w' hw
    go_simp
    try with_reducible rfl
  simp only [Act.put, List.setIfInBounds_toArray, List.set_cons_zero, List.set_cons_succ]
  have k3 := k2.is true
  have hS : (fun W : World => W.rangeAt (w.heap.size + 1) 0 b.cells) (((w9.setCells w.heap.size 0 [.int .i64 view]).setCells w.heap.size 1 b.cells).setCells w.heap.size 3 [.bool true]) := World.rangeAt_setCells_apart hS _ _ _ (.inl (by omega))
  refine hs_store (i := 7) (w' := ((w9.setCells w.heap.size 0 [.int .i64 view]).setCells w.heap.size 1 b.cells).setCells w.heap.size 3 [.bool true]) rfl (by kernel_rfl) (by rfl) (ex_put1 rfl rfl rfl k2.th (by omega) iszBo rfl rfl) rfl hS ?_
  refine hs_done (by kernel_rfl) ?_
  have hT : (((w9.setCells w.heap.size 0 [.int .i64 view]).setCells w.heap.size 1 b.cells).setCells w.heap.size 3 [.bool true]).there (w.heap.size + 1 + 1) 0 85 := World.there_setCells (World.there_setCells (World.there_setCells hT9 _ _ _) _ _ _) _ _ _
  have hB : Below w.heap.size w (((w9.setCells w.heap.size 0 [.int .i64 view]).setCells w.heap.size 1 b.cells).setCells w.heap.size 3 [.bool true]) := below_sets (Nat.le_refl _) _ _ _ (below_sets (Nat.le_refl _) _ _ _ (below_sets (Nat.le_refl _) _ _ _ hB'))
  have hr := k3.r
  generalize (((w9.setCells w.heap.size 0 [.int .i64 view]).setCells w.heap.size 1 b.cells).setCells w.heap.size 3 [.bool true]) = wz at *
  have h85' : (Sl.cells { s with vw := view, b := b, is := true }).length = 85 := Sl.len ⟨hv.h, hv.e⟩
  have h1s' := all_oneS (Sl.one { s with vw := view, b := b, is := true })
  obtain ⟨cs, hcs⟩ : ∃ cs, Hid (Sl.cells { s with vw := view, b := b, is := true } = cs) := ⟨_, hide rfl⟩
  rw [hcs.out] at hr h85' h1s'
  clear hS k1 k2 k3
  have hTs : wz.there (w.heap.size + 1 + 1) 0 cs.toArray.size := by rw [show cs.toArray.size = 85 by simpa using h85']; exact hT
  have hi85' : (Tryd.prog.info? 37).map (·.size) = some cs.length := by rw [h85']; exact iszTslot
  have hi85a' : (Tryd.prog.info? 37).map (·.size) = some cs.toArray.size := by rw [List.size_toArray, h85']; exact iszTslot
  go_wp2_with (first
      | (refine wpList_load_mid rfl 37 _ rfl _ _ rfl cs _ hr Tryd.underlying37 rfl hi85' ?_)
      | (refine wpList_store_mid rfl 37 _ _ rfl _ 0 (cs).toArray rfl rfl hTs hi85a' h1s' ?_))
  refine bodyPost_ret (results_ct rfl _ _ _ rfl (run_loadVar_mid (P := Tryd.prog) _ (w.heap.size + 1 + 1) 0 37 (cs) _ (World.rangeAt_setCells_same _ _ _ _ (by rw [h85']; exact hT)) Tryd.underlying37 rfl hi85')) rfl ?_
  exact ⟨by rw [← hcs.out]; rfl, below_sets (by omega) _ _ _ hB⟩
set_option maxRecDepth 100000 in
set_option maxHeartbeats 4000000 in
theorem acc_f (s : Sl) (view : Int) (b : Bat) (w : World) (hG : Glob w) (hs : s.ok w) (hb : b.at w) (hbl : b.lt) (h1 : ¬ view < 0) (his : s.is = false) : Calls Tryd.prog 8 #[.agg s.cells.toArray, .int .i64 view, .agg b.cells.toArray] w fun e w' => e = .returned (.tuple #[.agg (acceptP s view b).1.cells.toArray, .int .i64 (acceptP s view b).2]) ∧ Below w.heap.size w w' := by
  have e : acceptP s view b = ({ s with vw := view, b := b, is := true }, 0) := by unfold acceptP; rw [if_neg (by simp [his]; omega), if_neg (by simp [his])]
  simp only [e]
  clear e
  have hv := hs.vok
  have hi85 : (Tryd.prog.info? 37).map (·.size) = some s.cells.length := by rw [Sl.len hv]; exact iszTslot
  have h85 : s.cells.length = 85 := Sl.len hv
  have h1s := all_oneS s.one
  have hi85a : (Tryd.prog.info? 37).map (·.size) = some s.cells.toArray.size := by rw [List.size_toArray, h85]; exact iszTslot
  obtain ⟨z0, hz0⟩ : ∃ z, Hid (sl0.cells = z) := ⟨_, hide rfl⟩
  have z85 : z0.length = 85 := by rw [← hz0.out]; rfl
  have z85a : z0.toArray.size = 85 := by simpa using z85
  have h85a : s.cells.toArray.size = 85 := by simpa using h85
  have iz : (Tryd.prog.info? 37).map (·.size) = some z0.toArray.size := by rw [z85a]; exact iszTslot
  have z1 : z0.toArray.all (·.oneCell') = true := by rw [← hz0.out]; exact all_oneS sl0.one
  have hbz : ∀ w', (Instr.build 37 #[]).run Tryd.prog w' = .ok (.agg z0.toArray) w' := fun w' => by rw [← hz0.out]; exact build_Tslot0 w'
  have hzv : ∀ w', (zeroValue 37).run Tryd.prog w' = .ok (.agg z0.toArray) w' := fun w' => by rw [← hz0.out]; exact zero_Tslot w'
  have hib : (Tryd.prog.info? 24).map (·.size) = some b.cells.length := iszB
  have hisb : (Tryd.prog.info? 24).map (·.size) = some s.b.cells.length := iszB
  go_enter Tryd.func8, Tryd.ntmps8
  go_upto_region 1 with fail
  go_name_world w1 hw1
  obtain ⟨hB1, hr1, ht1, hr2, hT1, hsz⟩ := box3 hw1
  clear hw1
  have hT1 : w1.there (w.heap.size + 1 + 1) 0 85 := by first | exact hT1 | (rw [z85a] at hT1; exact hT1)
  clear hzv
  have hT1z : w1.there (w.heap.size + 1 + 1) 0 z0.toArray.size := by rw [z85a]; exact hT1
  rw [h85] at ht1
  have hA : SlAt w1 w.heap.size s := ⟨by omega, ht1, hr1⟩
  have P1 := hA.parts hv
  have c0 := P1.vw
  have c3 := P1.is
  rw [his] at c3
  go_upto_region 4 with fail
  obtain ⟨w8, hw8⟩ : ∃ w8, w1.drew = w8 := ⟨_, rfl⟩
  have hB8 : Below w1.heap.size w1 w8 := by rw [← hw8]; exact (Below.refl _ _).drew
  have hA8 := hA.below hB8
  have P8 := hA8.parts hv
  have hr8 := range_below hr2 hB8 (by omega)
  have hT8 := there_below hT1 hB8 (by omega)
  have hBB : Below w.heap.size w w8 := hB1.trans (hB8.mono hB1.size)
  have hz8 : w.heap.size + 3 ≤ w8.heap.size := by have := hB8.size; omega
  try simp only [Act.put]
  refine hs_begin (S := (Below w8.heap.size w8)) 10 rfl (by kernel_rfl) ?_
  rw [hw8]
  clear hw8
  have hS : (Below w8.heap.size w8) w8 := Below.refl _ _
  refine hs_take (i := 0) (d := some 30) (v := ?_) rfl (by kernel_rfl) (by kernel_rfl) (by kernel_rfl) (by rfl) ?_ hS rfl ?_
  rotate_left
  · intro w' hw
    go_simp
    try with_reducible rfl
  simp only [Act.put, List.setIfInBounds_toArray, List.set_cons_zero, List.set_cons_succ]
  refine hs_take (i := 1) (d := some 31) (v := ?_) rfl (by kernel_rfl) (by kernel_rfl) (by kernel_rfl) (by rfl) ?_ hS rfl ?_
  rotate_left
  · intro w' hw
    go_simp
    try with_reducible rfl
  simp only [Act.put, List.setIfInBounds_toArray, List.set_cons_zero, List.set_cons_succ]
  refine hs_skip (i := 2) (d := some 32) rfl (by kernel_rfl) (by kernel_rfl) (by kernel_rfl) (by rfl) hS rfl ?_
  simp only [Act.put, List.setIfInBounds_toArray, List.set_cons_zero, List.set_cons_succ]
  refine hs_skip (i := 3) (d := some 33) rfl (by kernel_rfl) (by kernel_rfl) (by kernel_rfl) (by rfl) hS rfl ?_
  simp only [Act.put, List.setIfInBounds_toArray, List.set_cons_zero, List.set_cons_succ]
  refine hs_skip (i := 4) (d := some 34) rfl (by kernel_rfl) (by kernel_rfl) (by kernel_rfl) (by rfl) hS rfl ?_
  simp only [Act.put, List.setIfInBounds_toArray, List.set_cons_zero, List.set_cons_succ]
  refine hs_skip (i := 5) (d := some 35) rfl (by kernel_rfl) (by kernel_rfl) (by kernel_rfl) (by rfl) hS rfl ?_
  simp only [Act.put, List.setIfInBounds_toArray, List.set_cons_zero, List.set_cons_succ]
  refine hs_skip (i := 6) (d := some 36) rfl (by kernel_rfl) (by kernel_rfl) (by kernel_rfl) (by rfl) hS rfl ?_
  simp only [Act.put, List.setIfInBounds_toArray, List.set_cons_zero, List.set_cons_succ]
  refine hs_skip (i := 7) (d := some 37) rfl (by kernel_rfl) (by kernel_rfl) (by kernel_rfl) (by rfl) hS rfl ?_
  simp only [Act.put, List.setIfInBounds_toArray, List.set_cons_zero, List.set_cons_succ]
  refine hs_take (i := 8) (d := some 38) (v := ?_) rfl (by kernel_rfl) (by kernel_rfl) (by kernel_rfl) (by rfl) ?_ hS rfl ?_
  rotate_left
  · intro w' hw
    go_simp
    try with_reducible rfl
  simp only [Act.put, List.setIfInBounds_toArray, List.set_cons_zero, List.set_cons_succ]
  refine hs_take (i := 9) (d := some 29) (v := ?_) rfl (by kernel_rfl) (by kernel_rfl) (by kernel_rfl) (by rfl) ?_ hS rfl ?_
  rotate_left
  · intro w' hw
    go_simp
    try with_reducible rfl
  simp only [Act.put, List.setIfInBounds_toArray, List.set_cons_zero, List.set_cons_succ]
  refine hs_done (by kernel_rfl) ?_
  go_upto_region 9 with fail
  obtain ⟨w9, hw9⟩ : ∃ w9, w8.drew = w9 := ⟨_, rfl⟩
  have hB9 : Below w8.heap.size w8 w9 := by rw [← hw9]; exact (Below.refl _ _).drew
  have hA9 := hA8.below hB9
  have hr9 := range_below hr8 hB9 (by omega)
  have hT9 := there_below hT8 hB9 (by omega)
  have hB' : Below w.heap.size w w9 := hBB.trans (hB9.mono hBB.size)
  clear P1 P8 c0 c3 hS
  try simp only [Act.put]
  refine hs_begin (S := fun W => W.rangeAt (w.heap.size + 1) 0 b.cells) 8 rfl (by kernel_rfl) ?_
  rw [hw9]
  clear hw9
  have hS : (fun W : World => W.rangeAt (w.heap.size + 1) 0 b.cells) w9 := hr9
  refine hs_take (i := 0) (d := some 44) (v := ?_) rfl (by kernel_rfl) (by kernel_rfl) (by kernel_rfl) (by rfl) ?_ hS rfl ?_
  rotate_left
  · intro w' hw
    go_simp
    try with_reducible rfl
  simp only [Act.put, List.setIfInBounds_toArray, List.set_cons_zero, List.set_cons_succ]
  refine hs_take (i := 1) (d := some 45) (v := .agg b.cells.toArray) rfl (by kernel_rfl) (by kernel_rfl) (by kernel_rfl) (by rfl) (fun w' hw => ex_mid rfl rfl hw Tryd.underlying24 rfl hib) hS rfl ?_
  simp only [Act.put, List.setIfInBounds_toArray, List.set_cons_zero, List.set_cons_succ]
  refine hs_take (i := 2) (d := some 46) (v := ?_) rfl (by kernel_rfl) (by kernel_rfl) (by kernel_rfl) (by rfl) ?_ hS rfl ?_
  rotate_left
  · intro w' hw
    go_simp
    try with_reducible rfl
  simp only [Act.put, List.setIfInBounds_toArray, List.set_cons_zero, List.set_cons_succ]
  have k1 := hA9.vw view
  have hS : (fun W : World => W.rangeAt (w.heap.size + 1) 0 b.cells) (w9.setCells w.heap.size 0 [.int .i64 view]) := World.rangeAt_setCells_apart hS _ _ _ (.inl (by omega))
  refine hs_store (i := 3) (w' := w9.setCells w.heap.size 0 [.int .i64 view]) rfl (by kernel_rfl) (by rfl) (ex_put1 rfl rfl rfl hA9.th (by omega) iszI rfl rfl) rfl hS ?_
  refine hs_take (i := 4) (d := some 47) (v := ?_) rfl (by kernel_rfl) (by kernel_rfl) (by kernel_rfl) (by rfl) ?_ hS rfl ?_
  rotate_left
  · intro w' hw
    go_simp
    try with_reducible rfl
  simp only [Act.put, List.setIfInBounds_toArray, List.set_cons_zero, List.set_cons_succ]
  have k2 := k1.b b
  have hS : (fun W : World => W.rangeAt (w.heap.size + 1) 0 b.cells) ((w9.setCells w.heap.size 0 [.int .i64 view]).setCells w.heap.size 1 b.cells) := World.rangeAt_setCells_apart hS _ _ _ (.inl (by omega))
  refine hs_store (i := 5) (w' := (w9.setCells w.heap.size 0 [.int .i64 view]).setCells w.heap.size 1 b.cells) rfl (by kernel_rfl) (by rfl) (ex_put rfl rfl rfl (there_part1 k1.th (by simp)) hib (all_oneS b.one)) rfl hS ?_
  refine hs_take (i := 6) (d := some 48) (v := ?_) rfl (by kernel_rfl) (by kernel_rfl) (by kernel_rfl) (by rfl) ?_ hS rfl ?_
  rotate_left
  · intro w' hw
    go_simp
    try with_reducible rfl
  simp only [Act.put, List.setIfInBounds_toArray, List.set_cons_zero, List.set_cons_succ]
  have k3 := k2.is true
  have hS : (fun W : World => W.rangeAt (w.heap.size + 1) 0 b.cells) (((w9.setCells w.heap.size 0 [.int .i64 view]).setCells w.heap.size 1 b.cells).setCells w.heap.size 3 [.bool true]) := World.rangeAt_setCells_apart hS _ _ _ (.inl (by omega))
  refine hs_store (i := 7) (w' := ((w9.setCells w.heap.size 0 [.int .i64 view]).setCells w.heap.size 1 b.cells).setCells w.heap.size 3 [.bool true]) rfl (by kernel_rfl) (by rfl) (ex_put1 rfl rfl rfl k2.th (by omega) iszBo rfl rfl) rfl hS ?_
  refine hs_done (by kernel_rfl) ?_
  have hT : (((w9.setCells w.heap.size 0 [.int .i64 view]).setCells w.heap.size 1 b.cells).setCells w.heap.size 3 [.bool true]).there (w.heap.size + 1 + 1) 0 85 := World.there_setCells (World.there_setCells (World.there_setCells hT9 _ _ _) _ _ _) _ _ _
  have hB : Below w.heap.size w (((w9.setCells w.heap.size 0 [.int .i64 view]).setCells w.heap.size 1 b.cells).setCells w.heap.size 3 [.bool true]) := below_sets (Nat.le_refl _) _ _ _ (below_sets (Nat.le_refl _) _ _ _ (below_sets (Nat.le_refl _) _ _ _ hB'))
  have hr := k3.r
  generalize (((w9.setCells w.heap.size 0 [.int .i64 view]).setCells w.heap.size 1 b.cells).setCells w.heap.size 3 [.bool true]) = wz at *
  have h85' : (Sl.cells { s with vw := view, b := b, is := true }).length = 85 := Sl.len ⟨hv.h, hv.e⟩
  have h1s' := all_oneS (Sl.one { s with vw := view, b := b, is := true })
  obtain ⟨cs, hcs⟩ : ∃ cs, Hid (Sl.cells { s with vw := view, b := b, is := true } = cs) := ⟨_, hide rfl⟩
  rw [hcs.out] at hr h85' h1s'
  clear hS k1 k2 k3
  have hTs : wz.there (w.heap.size + 1 + 1) 0 cs.toArray.size := by rw [show cs.toArray.size = 85 by simpa using h85']; exact hT
  have hi85' : (Tryd.prog.info? 37).map (·.size) = some cs.length := by rw [h85']; exact iszTslot
  have hi85a' : (Tryd.prog.info? 37).map (·.size) = some cs.toArray.size := by rw [List.size_toArray, h85']; exact iszTslot
  go_wp2_with (first
      | (refine wpList_load_mid rfl 37 _ rfl _ _ rfl cs _ hr Tryd.underlying37 rfl hi85' ?_)
      | (refine wpList_store_mid rfl 37 _ _ rfl _ 0 (cs).toArray rfl rfl hTs hi85a' h1s' ?_))
  refine bodyPost_ret (results_ct rfl _ _ _ rfl (run_loadVar_mid (P := Tryd.prog) _ (w.heap.size + 1 + 1) 0 37 (cs) _ (World.rangeAt_setCells_same _ _ _ _ (by rw [h85']; exact hT)) Tryd.underlying37 rfl hi85')) rfl ?_
  exact ⟨by rw [← hcs.out]; rfl, below_sets (by omega) _ _ _ hB⟩
set_option maxRecDepth 100000 in
set_option maxHeartbeats 4000000 in
theorem acc_any (s : Sl) (view : Int) (b : Bat) (w : World) (hG : Glob w) (hs : s.ok w) (hb : b.at w) (hbl : b.lt) : Calls Tryd.prog 8 #[.agg s.cells.toArray, .int .i64 view, .agg b.cells.toArray] w fun e w' => e = .returned (.tuple #[.agg (acceptP s view b).1.cells.toArray, .int .i64 (acceptP s view b).2]) ∧ Below w.heap.size w w' := by
  by_cases h1 : view < 0
  · exact acc_a s view b w hG hs hb hbl h1
  cases his : s.is with
  | false => exact acc_f s view b w hG hs hb hbl h1 his
  | true =>
    by_cases h2 : view < s.vw
    · exact acc_b s view b w hG hs hb hbl h1 his h2
    by_cases h3 : s.vw = view
    · by_cases h4 : s.b.dig = b.dig
      · exact acc_d s view b w hG hs hb hbl h1 his h3 h4
      · exact acc_c s view b w hG hs hb hbl h1 his h3 h4
    · exact acc_e s view b w hG hs hb hbl h1 his (by omega)
end Go.Proofs.YtogmkcabndgllaaDoor
