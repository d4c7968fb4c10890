/- the document's Same of lists that are alike -/
import Derived.Test.YtbfcbjjhdadicaaDoorP16
namespace Go.Proofs.YtbfcbjjhdadicaaDoor
open Go.RowKit
open Sha Tal
set_option maxRecDepth 100000 in
set_option maxHeartbeats 2000000 in
theorem same7_any (a a' : Option Addr) (cap cap' : Nat) (rs : List Rq) (w : World) (h : ReqsAt w a rs) (h' : ReqsAt w a' rs) :
    Calls Tryd.prog 31 #[.agg #[.bool false, .slice a rs.length cap], .agg #[.bool false, .slice a' rs.length cap']] w fun e w' => e = .returned (.bool true) ∧ Below w.heap.size w w' := by
  obtain ⟨W1, hW1⟩ : ∃ W1, (w.alloc (.cells #[.bool false, .slice a rs.length cap] 54)).alloc (.cells #[.bool false, .slice a' rs.length cap'] 54) = W1 := ⟨_, rfl⟩
  have hB1 : Below w.heap.size w W1 := by rw [← hW1]; exact ((Below.refl _ _).alloc (Nat.le_refl _) _).alloc (by simp) _
  have ra := range_new w #[.bool false, .slice a rs.length cap] 54
  have rb : W1.rangeAt (w.heap.size + 1) 0 [.bool false, .slice a' rs.length cap'] := by
    rw [← hW1]
    have := range_new (w.alloc (.cells #[.bool false, .slice a rs.length cap] 54)) #[.bool false, .slice a' rs.length cap'] 54
    simpa using this
  have ra2 : W1.rangeAt w.heap.size 0 [.bool false, .slice a rs.length cap] := by
    rw [← hW1]
    exact range_at ra (Below.heap_alloc _ _ _ (by simp))
  have c0 := ra2 0 _ rfl
  have c1 := ra2 1 _ rfl
  have d0 := rb 0 _ rfl
  have d1 := rb 1 _ rfl
  have hs1 : w.heap.size + 1 < W1.heap.size := cell_lt d0
  rw [Nat.zero_add] at c0 c1 d0 d1
  have hrl := h.1
  unfold maxLen at hrl
  clear ra ra2 rb
  go_enter Tryd.func31, Tryd.ntmps31
  go_wp2_with fail
  go_loopw [5] (fun iv wr => ∃ k : Nat, k ≤ rs.length ∧ iv = .int .i64 (k : Int) ∧ Below W1.heap.size W1 wr) (fun iv _ => rs.length - (intOf iv).toNat)
  case atStart => exact ⟨0, by omega, rfl, Below.refl _ _⟩
  case round =>
    clear hW1
    obtain ⟨k, hk, rfl, hB⟩ := hrel
    have hx0 : w.heap.size < W1.heap.size := by omega
    have c1' := cell_at c1 (hB.block _ hx0)
    by_cases hlt : k < rs.length
    · have k0 : (k : Int) < (rs.length : Int) := by omega
      have hBr : Below w.heap.size w wr := hB1.trans (hB.mono hB1.size)
      obtain ⟨b1, o1, rfl, hb1, hre1⟩ := (h.below hBr).elem k hlt
      obtain ⟨b2, o2, rfl, hb2, hre2⟩ := (h'.below hBr).elem k hlt
      have hok := h.2.1 _ (List.getElem_mem hlt)
      have heq := fun w' => neq_self _ hok w'
      have hiu := hok.isz
      obtain ⟨u, hu⟩ : ∃ u, Hid (rs[k].cells = u) := ⟨_, hide rfl⟩
      rw [hu.out] at hre1 hre2 hiu
      simp only [hu.out] at heq
      clear hok hu
      go_upto_region 6 with fail
      obtain ⟨w8, hw8⟩ : ∃ w8, wr.drew = w8 := ⟨_, rfl⟩
      have hB8 : Below wr.heap.size wr w8 := by rw [← hw8]; exact (Below.refl _ _).drew
      have hB18 : Below W1.heap.size W1 w8 := hB.trans (hB8.mono hB.size)
      have q1 := range_below hre1 hB8 hb1
      have q2 := range_below hre2 hB8 hb2
      have l1 : b1 < w8.heap.size := Nat.lt_of_lt_of_le hb1 hB8.size
      have l2 : b2 < w8.heap.size := Nat.lt_of_lt_of_le hb2 hB8.size
      have k1 : ∀ w', Below w8.heap.size w8 w' → w'.rangeAt b1 (o1 + k * 19) u := fun w' hw' => range_below q1 hw' l1
      have k2 : ∀ w', Below w8.heap.size w8 w' → w'.rangeAt b2 (o2 + k * 19) u := fun w' hw' => range_below q2 hw' l2
      have x1 : ∀ w', Below w8.heap.size w8 w' → w'.cell? ⟨w.heap.size, 1, none⟩ = some (.slice (some ⟨b1, o1, none⟩) rs.length cap) := fun w' hw' => cell_at c1 ((hB18.trans (hw'.mono hB18.size)).block _ hx0)
      have y1 : ∀ w', Below w8.heap.size w8 w' → w'.cell? ⟨w.heap.size + 1, 1, none⟩ = some (.slice (some ⟨b2, o2, none⟩) rs.length cap') := fun w' hw' => cell_at d1 ((hB18.trans (hw'.mono hB18.size)).block _ hs1)
      refine hs_begin (S := (Below w8.heap.size w8)) 11 rfl (by kernel_rfl) ?_
      rw [hw8]
      clear hw8
      have hS : (Below w8.heap.size w8) w8 := Below.refl _ _
      refine hs_take (i := 0) (d := some 27) (v := ?_) rfl (by kernel_rfl) (by kernel_rfl) (by kernel_rfl) (by rfl) ?_ hS rfl ?_
      rotate_left
      · intro w' hw
        go_simp
        try with_reducible rfl
      simp only [Act.put, List.setIfInBounds_toArray, List.set_cons_zero, List.set_cons_succ]
      refine hs_take (i := 1) (d := some 28) (v := ?_) rfl (by kernel_rfl) (by kernel_rfl) (by kernel_rfl) (by rfl) ?_ hS rfl ?_
      rotate_left
      · intro w' hw
        have hc := x1 w' hw
        go_simp
        try with_reducible rfl
      simp only [Act.put, List.setIfInBounds_toArray, List.set_cons_zero, List.set_cons_succ]
      refine hs_take (i := 2) (d := some 29) (v := ?_) rfl (by kernel_rfl) (by kernel_rfl) (by kernel_rfl) (by rfl) ?_ hS rfl ?_
      rotate_left
      · intro w' hw
        go_simp
        try with_reducible rfl
      simp only [Act.put, List.setIfInBounds_toArray, List.set_cons_zero, List.set_cons_succ]
      refine hs_take (i := 3) (d := some 30) (v := ?_) rfl (by kernel_rfl) (by kernel_rfl) (by kernel_rfl) (by rfl) ?_ hS rfl ?_
      rotate_left
      · intro w' hw
        go_simp
        try with_reducible rfl
      simp only [Act.put, List.setIfInBounds_toArray, List.set_cons_zero, List.set_cons_succ]
      refine hs_take (i := 5) (d := some 32) (v := ?_) rfl (by kernel_rfl) (by kernel_rfl) (by kernel_rfl) (by rfl) ?_ hS rfl ?_
      rotate_left
      · intro w' hw
        go_simp
        try with_reducible rfl
      simp only [Act.put, List.setIfInBounds_toArray, List.set_cons_zero, List.set_cons_succ]
      refine hs_take (i := 6) (d := some 33) (v := ?_) rfl (by kernel_rfl) (by kernel_rfl) (by kernel_rfl) (by rfl) ?_ hS rfl ?_
      rotate_left
      · intro w' hw
        have hc := y1 w' hw
        go_simp
        try with_reducible rfl
      simp only [Act.put, List.setIfInBounds_toArray, List.set_cons_zero, List.set_cons_succ]
      refine hs_take (i := 7) (d := some 34) (v := ?_) rfl (by kernel_rfl) (by kernel_rfl) (by kernel_rfl) (by rfl) ?_ hS rfl ?_
      rotate_left
      · intro w' hw
        go_simp
        try with_reducible rfl
      simp only [Act.put, List.setIfInBounds_toArray, List.set_cons_zero, List.set_cons_succ]
      refine hs_take (i := 8) (d := some 35) (v := ?_) rfl (by kernel_rfl) (by kernel_rfl) (by kernel_rfl) (by rfl) ?_ hS rfl ?_
      rotate_left
      · intro w' hw
        go_simp
        try with_reducible rfl
      simp only [Act.put, List.setIfInBounds_toArray, List.set_cons_zero, List.set_cons_succ]
      refine hs_take (i := 4) (d := some 31) (v := .agg u.toArray) rfl (by kernel_rfl) (by kernel_rfl) (by kernel_rfl) (by rfl) (fun w' hw => exec_load rfl rfl (run_loadVar_mid (P := Tryd.prog) w' b1 (o1 + k * 19) 35 u _ (k1 w' hw) Tryd.underlying35 rfl hiu)) hS rfl ?_
      simp only [Act.put, List.setIfInBounds_toArray, List.set_cons_zero, List.set_cons_succ]
      refine hs_take (i := 9) (d := some 36) (v := .agg u.toArray) rfl (by kernel_rfl) (by kernel_rfl) (by kernel_rfl) (by rfl) (fun w' hw => exec_load rfl rfl (run_loadVar_mid (P := Tryd.prog) w' b2 (o2 + k * 19) 35 u _ (k2 w' hw) Tryd.underlying35 rfl hiu)) hS rfl ?_
      simp only [Act.put, List.setIfInBounds_toArray, List.set_cons_zero, List.set_cons_succ]
      refine hs_take (i := 10) (d := some 37) (v := .bool false) rfl (by kernel_rfl) (by kernel_rfl) (by kernel_rfl) (by rfl) (fun w' hw => by have hq := heq w'; go_simp) hS rfl ?_
      simp only [Act.put, List.setIfInBounds_toArray, List.set_cons_zero, List.set_cons_succ]
      refine hs_done (by kernel_rfl) ?_
      go_wp2_with fail
      go_roundw
      case rel => exact ⟨k + 1, by omega, by go_num, hB18⟩
      case measure => simp [intOf]; omega
    · have k0 : ¬ (k : Int) < (rs.length : Int) := by omega
      go_wp2_with fail
      go_ret
      exact ⟨rfl, hB1.trans (hB.mono hB1.size)⟩
set_option maxRecDepth 100000 in
set_option maxHeartbeats 2000000 in
theorem sameR_any (a a' : Option Addr) (cap cap' : Nat) (rs : List Rq) (w : World) (h : ReqsAt w a rs) (h' : ReqsAt w a' rs) :
    Calls Tryd.prog 16 #[.slice a rs.length cap, .slice a' rs.length cap'] w fun e w' => e = .returned (.bool true) ∧ Below w.heap.size w w' := by
  have c7 := same7_any a a' cap cap' rs w h h'
  go_enter Tryd.func16, Tryd.ntmps16
  go_wp2_with fail
  refine c7.mono ?_
  rintro e w1 ⟨rfl, hb⟩
  clear c7
  go_wp2_with fail
  go_ret
  exact ⟨rfl, hb⟩
end Go.Proofs.YtbfcbjjhdadicaaDoor
