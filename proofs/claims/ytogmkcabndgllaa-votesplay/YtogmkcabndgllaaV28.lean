/- certs that are the same, compared -/
import Derived.Test.YtogmkcabndgllaaV27
namespace Go.Proofs.Ytogmkcabndgllaa
open Go.RowKit
def SX5 (b1 o1 b2 o2 : Nat) (c : List Value) (x : World) : Prop := x.rangeAt b1 o1 c ∧ x.rangeAt b2 o2 c
set_option maxRecDepth 100000 in
set_option maxHeartbeats 4000000 in
theorem xsame5_any (a1 a2 : Option Addr) (c1 c2 : Nat) (rs : List Sg) (hlen : rs.length ≤ 1000) (w : World) (h1 : SigsAt w a1 rs) (h2 : SigsAt w a2 rs) :
    Calls Try.prog 27 #[.slice a1 rs.length c1, .slice a2 rs.length c2] w fun e w' => e = .returned (.bool true) ∧ Below w.heap.size w w' := by
  go_enter Try.func27, Try.ntmps27
  go_wp2_with fail
  go_loopw [5] (fun iv wr => ∃ i : Nat, i ≤ rs.length ∧ iv = .int .i64 (i : Int) ∧ Hid (Below w.heap.size w wr)) (fun iv _ => rs.length - (intOf iv).toNat)
  case atStart => exact ⟨0, by omega, rfl, hide (Below.refl _ _)⟩
  case round =>
    obtain ⟨i, hi, rfl, HB⟩ := hrel
    have hB := HB.out
    clear HB
    by_cases hlt : i < rs.length
    · have hiI : (i : Int) < (rs.length : Int) := by omega
      obtain ⟨b1, o1, rfl, hb1, hr1⟩ := (h1.below hB).elem i hlt
      obtain ⟨b2, o2, rfl, hb2, hr2⟩ := (h2.below hB).elem i hlt
      have hok := h1.2.1 _ (List.getElem_mem hlt)
      have hnq := fun w' => neqS rs[i] rs[i] hok hok w'
      have ix : (Try.prog.info? 52).map (·.size) = some rs[i].cells.length := by rw [hok.length]; exact iszG
      obtain ⟨cx, hcx⟩ : ∃ cx, Hid (rs[i].cells = cx) := ⟨_, hide rfl⟩
      rw [hcx.out] at hr1 hr2 ix
      simp only [hcx.out, beq_self_eq_true, Bool.and_self, Bool.not_true] at hnq
      clear hcx hok
      obtain ⟨L, hL⟩ : ∃ L, Hid (rs.length = L) := ⟨_, hide rfl⟩
      obtain ⟨w8, hw8⟩ : ∃ w8, wr.drew = w8 := ⟨_, rfl⟩
      have hb8 : Below wr.heap.size wr w8 := by rw [← hw8]; exact (Below.refl _ _).drew
      have hS : SX5 b1 (o1 + i * 17) b2 (o2 + i * 17) cx w8 := ⟨range_below hr1 hb8 hb1, range_below hr2 hb8 hb2⟩
      have HB := hide (hB.trans (hb8.mono hB.size))
      clear hr1 hr2 hB hb8
      go_wp2_with fail
      refine hs_begin (S := SX5 b1 (o1 + i * 17) b2 (o2 + i * 17) cx) 9 rfl (by kernel_rfl) ?_
      rw [hw8]
      clear hw8
      refine hs_take (i := 0) (d := some 17) (v := ?_) rfl (by kernel_rfl) (by kernel_rfl) (by kernel_rfl) (by rfl) ?_ hS rfl ?_
      rotate_left
      · intro w' hw
        go_simp
        try with_reducible rfl
      simp only [Act.put, List.setIfInBounds_toArray, List.set_cons_zero, List.set_cons_succ]
      refine hs_take (i := 1) (d := some 18) (v := ?_) rfl (by kernel_rfl) (by kernel_rfl) (by kernel_rfl) (by rfl) ?_ hS rfl ?_
      rotate_left
      · intro w' hw
        go_simp
        try with_reducible rfl
      simp only [Act.put, List.setIfInBounds_toArray, List.set_cons_zero, List.set_cons_succ]
      refine hs_take (i := 2) (d := some 19) (v := ?_) rfl (by kernel_rfl) (by kernel_rfl) (by kernel_rfl) (by rfl) ?_ hS rfl ?_
      rotate_left
      · intro w' hw
        go_simp
        try with_reducible rfl
      simp only [Act.put, List.setIfInBounds_toArray, List.set_cons_zero, List.set_cons_succ]
      refine hs_take (i := 3) (d := some 20) (v := .agg cx.toArray) rfl (by kernel_rfl) (by kernel_rfl) (by kernel_rfl) (by rfl) (fun w' hw => exec_load rfl rfl (run_loadVar_mid (P := Try.prog) w' b1 (o1 + i * 17) 52 cx _ hw.1 Try.underlying52 rfl ix)) hS rfl ?_
      simp only [Act.put, List.setIfInBounds_toArray, List.set_cons_zero, List.set_cons_succ]
      refine hs_take (i := 4) (d := some 21) (v := ?_) rfl (by kernel_rfl) (by kernel_rfl) (by kernel_rfl) (by rfl) ?_ hS rfl ?_
      rotate_left
      · intro w' hw
        go_simp
        try with_reducible rfl
      simp only [Act.put, List.setIfInBounds_toArray, List.set_cons_zero, List.set_cons_succ]
      refine hs_take (i := 5) (d := some 22) (v := ?_) rfl (by kernel_rfl) (by kernel_rfl) (by kernel_rfl) (by rfl) ?_ hS rfl ?_
      rotate_left
      · intro w' hw
        go_simp
        try with_reducible rfl
      simp only [Act.put, List.setIfInBounds_toArray, List.set_cons_zero, List.set_cons_succ]
      refine hs_take (i := 6) (d := some 23) (v := ?_) rfl (by kernel_rfl) (by kernel_rfl) (by kernel_rfl) (by rfl) ?_ hS rfl ?_
      rotate_left
      · intro w' hw
        go_simp
        try with_reducible rfl
      simp only [Act.put, List.setIfInBounds_toArray, List.set_cons_zero, List.set_cons_succ]
      refine hs_take (i := 7) (d := some 24) (v := .agg cx.toArray) rfl (by kernel_rfl) (by kernel_rfl) (by kernel_rfl) (by rfl) (fun w' hw => exec_load rfl rfl (run_loadVar_mid (P := Try.prog) w' b2 (o2 + i * 17) 52 cx _ hw.2 Try.underlying52 rfl ix)) hS rfl ?_
      simp only [Act.put, List.setIfInBounds_toArray, List.set_cons_zero, List.set_cons_succ]
      refine hs_take (i := 8) (d := some 25) (v := .bool false) rfl (by kernel_rfl) (by kernel_rfl) (by kernel_rfl) (by rfl) (fun w' hw => by have := hnq w'; go_simp) hS rfl ?_
      simp only [Act.put, List.setIfInBounds_toArray, List.set_cons_zero, List.set_cons_succ]
      refine hs_done (by kernel_rfl) ?_
      go_wp2_with fail
      go_roundw
      case rel => exact ⟨i + 1, by omega, by go_num, HB⟩
      case measure => simp [intOf]; omega
    · obtain rfl : i = rs.length := by omega
      go_wp2_with fail
      go_ret
      exact ⟨rfl, hB⟩
set_option maxRecDepth 100000 in
set_option maxHeartbeats 4000000 in
theorem xsamecert_any (v : Vt) (hv : v.ok) (a1 a2 : Option Addr) (c1 c2 : Nat) (rs : List Sg) (hlen : rs.length ≤ 1000) (w : World) (h1 : SigsAt w a1 rs) (h2 : SigsAt w a2 rs) :
    Calls Try.prog 18 #[.agg (v.cells ++ [Value.slice a1 rs.length c1]).toArray, .agg (v.cells ++ [Value.slice a2 rs.length c2]).toArray] w fun e w' => e = .returned (.bool true) ∧ Below w.heap.size w w' := by
  have hb0 := two_box (w := w) (v.cells ++ [Value.slice a1 rs.length c1]) (v.cells ++ [Value.slice a2 rs.length c2]) 44 44
  have iu : (Try.prog.info? 31).map (·.size) = some v.cells.length := by rw [hv.len]; exact iszV
  have heq : ∀ w : World, (binOp .eql 31 (.agg v.cells.toArray) (.agg v.cells.toArray)).run Try.prog w = .ok (.bool true) w := fun w => by rw [eqV v v hv hv]; simp
  have hl := hv.len
  have p1 : (v.cells ++ [Value.slice a1 rs.length c1])[36]? = some (.slice a1 rs.length c1) := by rw [List.getElem?_append_right (by omega), hl]; rfl
  have p2 : (v.cells ++ [Value.slice a2 rs.length c2])[36]? = some (.slice a2 rs.length c2) := by rw [List.getElem?_append_right (by omega), hl]; rfl
  have pL : ∀ {w' : World} {b : Nat} {z : Value}, w'.rangeAt b 0 (v.cells ++ [z]) → w'.rangeAt b 0 v.cells := fun h => range_left h
  have c5 := fun w' h1 h2 => xsame5_any a1 a2 c1 c2 rs hlen w' h1 h2
  obtain ⟨u, hu⟩ : ∃ u, Hid (v.cells = u) := ⟨_, hide rfl⟩
  simp only [hu.out] at hb0 iu heq p1 p2 pL ⊢
  obtain ⟨x, hx⟩ : ∃ x, Hid (u ++ [Value.slice a1 rs.length c1] = x) := ⟨_, hide rfl⟩
  obtain ⟨y, hy⟩ : ∃ y, Hid (u ++ [Value.slice a2 rs.length c2] = y) := ⟨_, hide rfl⟩
  have pX : ∀ {w' : World} {b : Nat}, w'.rangeAt b 0 x → w'.rangeAt b 0 u := fun h => pL (z := Value.slice a1 rs.length c1) (by rw [hx.out]; exact h)
  have pY : ∀ {w' : World} {b : Nat}, w'.rangeAt b 0 y → w'.rangeAt b 0 u := fun h => pL (z := Value.slice a2 rs.length c2) (by rw [hy.out]; exact h)
  rw [hx.out] at p1
  rw [hy.out] at p2
  simp only [hx.out, hy.out] at hb0 ⊢
  clear pL hx hy hl hu
  go_enter Try.func18, Try.ntmps18
  go_upto_region 1 with fail
  go_name_world w1 hw1
  rw [hw1] at hb0
  clear hw1
  obtain ⟨hB1, hR1, hR2, hsz1⟩ := hb0
  have rx := pX hR1
  have ry := pY hR2
  have k1 := hR1 36 _ p1
  have k2 := hR2 36 _ p2
  rw [Nat.zero_add] at k1 k2
  have c51 := c5 w1 (h1.below hB1) (h2.below hB1)
  try simp only [Act.put]
  refine wp_region_list ?_
  refine wpList_step fun K hK => ?_
  go_simp
  refine hK _ _ ?_
  clear hK K
  refine wpList_load_mid rfl 31 _ rfl _ _ rfl u _ rx Try.underlying31 rfl iu ?_
  refine wpList_step fun K hK => ?_
  go_simp
  refine hK _ _ ?_
  clear hK K
  refine wpList_load_mid rfl 31 _ rfl _ _ rfl u _ ry Try.underlying31 rfl iu ?_
  refine wpList_step fun K hK => ?_
  go_simp
  try rw [heq]
  try go_simp
  refine hK _ _ ?_
  clear hK K
  go_wp2_with fail
  refine c51.mono ?_
  rintro _ w2 ⟨rfl, hB2⟩
  go_wp2_with fail
  go_ret
  exact ⟨rfl, hB1.trans (hB2.mono (by omega))⟩
end Go.Proofs.Ytogmkcabndgllaa
