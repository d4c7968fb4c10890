/- Count -/
import Derived.Test.YtogmkcabndgllaaV10
namespace Go.Proofs.Ytogmkcabndgllaa
open Go.RowKit
theorem cnt_count (st : List On) (v : Vt) : cntP st (fun x => decide (x.v.k = v.k)) v = countL st v := by
  unfold cntP countL
  congr 1
  apply List.filter_congr
  intro x _
  by_cases h : x.v = v
  · simp [h]
  · simp [h]
theorem one_box {w : World} (q : List Value) (t : TypeId) : Below w.heap.size w (w.alloc (.cells q.toArray t)) ∧ (w.alloc (.cells q.toArray t)).rangeAt w.heap.size 0 q ∧ w.heap.size + 1 ≤ (w.alloc (.cells q.toArray t)).heap.size :=
  ⟨(Below.refl _ _).alloc (Nat.le_refl _) _, by simpa using range_new w q.toArray t, by simp⟩
set_option maxHeartbeats 400000 in
theorem count_no (v : Value) (x : Vt) (w : World) (h : NoBook w v) : Calls Try.prog 12 #[v, .agg x.cells.toArray] w fun e w' => e = .returned (.int .i64 0) ∧ Below w.heap.size w w' := by
  have hb0 := one_box (w := w) x.cells 31
  generalize x.cells = q at *
  go_enter Try.func12, Try.ntmps12
  go_upto_region 1 with fail
  go_name_world w1 hw1
  rw [hw1] at hb0
  clear hw1
  have cM := isMade_no v w1 (h.below hb0.1)
  go_wp2_with fail
  refine cM.mono ?_
  rintro _ wx ⟨rfl, hxx⟩
  obtain rfl := hxx.symm
  clear hxx cM
  go_wp2_with fail
  go_ret
  exact ⟨rfl, hb0.1⟩
set_option maxRecDepth 100000 in
set_option maxHeartbeats 2000000 in
theorem count_any (B b : Nat) (N : Int) (st : List On) (v : Vt) (hv : v.ok) (w : World) (h : BookAt w B b N st) (hlen : st.length < 1000000) :
    Calls Try.prog 12 #[.pointer (some ⟨B, 0, none⟩), .agg v.cells.toArray] w fun e w' => e = .returned (.int .i64 (countL st v)) ∧ Below w.heap.size w w' := by
  have hb0 := one_box (w := w) v.cells 31
  have hiV : (Try.prog.info? 31).map (·.size) = some v.cells.length := by rw [hv.len]; exact iszV
  rw [← cnt_count]
  obtain ⟨k, ep, vw, sl, d⟩ := v
  obtain ⟨u, hu⟩ : ∃ u, Hid ((Vt.mk k ep vw sl d).cells = u) := ⟨_, hide rfl⟩
  have c0k : (u)[0]? = some (.int .i64 k) := by rw [← hu.out]; rfl
  rw [hu.out] at hb0 hiV ⊢
  simp only
  go_enter Try.func12, Try.ntmps12
  go_upto_region 1 with fail
  go_name_world w1 hw1
  rw [hw1] at hb0
  clear hw1
  obtain ⟨hB1, hR1, hsz1⟩ := hb0
  have h1 := h.below hB1
  have cM := isMade_yes B b N st w1 h1
  go_wp2_with fail
  refine cM.mono ?_
  rintro _ wx ⟨rfl, hxx⟩
  obtain rfl := hxx.symm
  clear hxx cM
  obtain ⟨w8, hw8⟩ : ∃ w8, w1.drew = w8 := ⟨_, rfl⟩
  have hb8 : Below w1.heap.size w1 w8 := by rw [← hw8]; exact (Below.refl _ _).drew
  have h8 := h1.below hb8
  have cC := counts_any B b N st k w8 h8 hlen
  have hs8 := hb8.size
  have hR8 : ∀ w', Below w8.heap.size w8 w' → w'.rangeAt w.heap.size 0 u := fun w' hw => range_below (range_below hR1 hb8 (by omega)) hw (by omega)
  have hk8 : ∀ w', Below w8.heap.size w8 w' → w'.cell? ⟨w.heap.size, 0, none⟩ = some (.int .i64 k) := fun w' hw => by
    have := hR8 w' hw 0 _ c0k
    simpa using this
  have hbw8 : Below w.heap.size w w8 := hB1.trans (hb8.mono (by omega))
  clear h1 h8 hb8 hB1 hR1
  go_wp2_with fail
  refine hs_begin (S := (Below w8.heap.size w8)) 7 rfl (by kernel_rfl) ?_
  rw [hw8]
  clear hw8
  have hS : (Below w8.heap.size w8) w8 := Below.refl _ _
  refine hs_take (i := 0) (d := some 8) (v := ?_) rfl (by kernel_rfl) (by kernel_rfl) (by kernel_rfl) (by rfl) ?_ hS rfl ?_
  rotate_left
  · intro w' hw
    go_simp
    try with_reducible rfl
  simp only [Act.put, List.setIfInBounds_toArray, List.set_cons_zero, List.set_cons_succ]
  refine hs_take (i := 1) (d := some 9) (v := ?_) rfl (by kernel_rfl) (by kernel_rfl) (by kernel_rfl) (by rfl) ?_ hS rfl ?_
  rotate_left
  · intro w' hw
    go_simp
    try with_reducible rfl
  simp only [Act.put, List.setIfInBounds_toArray, List.set_cons_zero, List.set_cons_succ]
  refine hs_take (i := 2) (d := some 10) (v := ?_) rfl (by kernel_rfl) (by kernel_rfl) (by kernel_rfl) (by rfl) ?_ hS rfl ?_
  rotate_left
  · intro w' hw
    have := hk8 w' hw
    go_simp
    try with_reducible rfl
  simp only [Act.put, List.setIfInBounds_toArray, List.set_cons_zero, List.set_cons_succ]
  refine hs_take (i := 4) (d := some 12) (v := .agg u.toArray) rfl (by kernel_rfl) (by kernel_rfl) (by kernel_rfl) (by rfl) (fun w' hw => exec_load rfl rfl (run_loadVar_mid (P := Try.prog) w' w.heap.size 0 31 u _ (hR8 w' hw) Try.underlying31 rfl hiV)) hS rfl ?_
  simp only [Act.put, List.setIfInBounds_toArray, List.set_cons_zero, List.set_cons_succ]
  refine hs_call (i := 3) (d := some 11) rfl (by kernel_rfl) (by rfl) (by go_simp; first | done | exact ⟨rfl, rfl⟩ | with_reducible rfl) rfl ?_
  refine cC.mono ?_
  rintro e' wn ⟨M, n, rfl, hM, hn, hmc, hbn⟩
  have hS : Below w8.heap.size w8 wn := hbn
  refine ⟨_, rfl, hS, ?_⟩
  have hlk := hmc.look ⟨k, ep, vw, sl, d⟩ hv
  rw [hu.out] at hlk
  simp only [Act.put, List.setIfInBounds_toArray, List.set_cons_zero, List.set_cons_succ]
  refine hs_run (i := 5) (d := some 13) (v := .int .i64 (cntP st (fun x => decide (x.v.k = k)) ⟨k, ep, vw, sl, d⟩)) (w' := wn) rfl (by kernel_rfl) (by rfl) (ex_lookup rfl rfl rfl hlk) rfl hS ?_
  simp only [Act.put, List.setIfInBounds_toArray, List.set_cons_zero, List.set_cons_succ]
  refine hs_take (i := 6) (d := some 4) (v := ?_) rfl (by kernel_rfl) (by kernel_rfl) (by kernel_rfl) (by rfl) ?_ hS rfl ?_
  rotate_left
  · intro w' hw
    go_simp
    try with_reducible rfl
  simp only [Act.put, List.setIfInBounds_toArray, List.set_cons_zero, List.set_cons_succ]
  refine hs_done (by kernel_rfl) ?_
  go_wp2_with fail
  go_ret
  exact ⟨rfl, hbw8.trans (hbn.mono (by omega))⟩
end Go.Proofs.Ytogmkcabndgllaa
