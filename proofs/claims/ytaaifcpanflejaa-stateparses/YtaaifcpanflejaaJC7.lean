/- First of the example; the example; the document's reading: what lies in a box -/
import Derived.Test.YtaaifcpanflejaaJC6
import Derived.Test.YtaaifcpanflejaaJC5
namespace Go.Proofs.Ytaaifcpanflejaa
open Go.RowKit
open Sha Tal
set_option linter.unusedVariables false
set_option linter.unusedSimpArgs false
def sp0 : Sp := ⟨1, 1, 0, zeros32, [⟨1, 0⟩, ⟨1, 0⟩], [0, 0, 0, 0]⟩
def zs4 : List Value := [.int .i64 0, .int .i64 0, .int .i64 0, .int .i64 0]
theorem build_f (a b : Nat) (w : World) : (Instr.build 30 #[(0, .int .i64 1), (1, .int .i64 1), (4, .slice (some ⟨a, 0, none⟩) 2 2), (5, .slice (some ⟨b, 0, none⟩) 4 4)]).run Try.prog w = .ok (.agg (Stt.cells ⟨1, 1, 0, zeros32, ⟨some ⟨a, 0, none⟩, 2, [⟨1, 0⟩, ⟨1, 0⟩]⟩, ⟨some ⟨b, 0, none⟩, 4, [0, 0, 0, 0]⟩⟩).toArray) w := by kernel_rfl
theorem good_c0 : Ld.errC cfg0 = 0 := by decide
theorem x0_ok (a b : Nat) : Stt.ok ⟨1, 1, 0, zeros32, ⟨some ⟨a, 0, none⟩, 2, [⟨1, 0⟩, ⟨1, 0⟩]⟩, ⟨some ⟨b, 0, none⟩, 4, [0, 0, 0, 0]⟩⟩ := ⟨by simp, by simp, by simp, by simp, by simp, by simp, Stt.zero_ok.dl, Stt.zero_ok.db⟩
theorem x0_at {a b : Nat} {w : World} (ha : a < w.heap.size) (hb : b < w.heap.size) (h1 : w.rangeAt a 0 (w0L ++ w0L)) (h2 : w.rangeAt b 0 zs4) : Stt.At ⟨1, 1, 0, zeros32, ⟨some ⟨a, 0, none⟩, 2, [⟨1, 0⟩, ⟨1, 0⟩]⟩, ⟨some ⟨b, 0, none⟩, 4, [0, 0, 0, 0]⟩⟩ w := by
  refine ⟨⟨by simp [maxLen], fun y hy => ?_, .inr ⟨a, 0, rfl, ha, h1⟩⟩, ⟨by simp [maxLen], fun y hy => ?_, .inr ⟨b, 0, rfl, hb, h2⟩⟩⟩
  · simp only [List.mem_cons, List.not_mem_nil, or_false, or_self] at hy
    subst hy
    exact ⟨by simp, by simp, by simp⟩
  · simp only [List.mem_cons, List.not_mem_nil, or_false, or_self] at hy
    subst hy
    exact ⟨by simp, by simp⟩
def FirstA (w : World) (en : Ending) (w' : World) : Prop := ∃ x : Stt, en = .returned (.agg x.cells.toArray) ∧ x.sp = sp0 ∧ x.ok ∧ x.At w' ∧ Below w.heap.size w w'
set_option maxRecDepth 100000 in
set_option maxHeartbeats 2000000 in
theorem first_val (w : World) : Calls Try.prog 13 #[.agg (cfgL cfg0).toArray] w fun e w' => FirstA w e w' := by
  obtain ⟨zc, hzl, hzr⟩ : ∃ z : List Value, z.length = 37 ∧ (∀ w : World, (zeroValue 30).run Try.prog w = .ok (.agg z.toArray) w) := ⟨_, Stt.len Stt.zero_ok, zeroS0⟩
  have iu := iszCf cfg0
  have cg : ∀ w0, Calls Try.prog 26 #[.agg (cfgL cfg0).toArray] w0 fun e w' => e = .returned (.int .i64 0) ∧ Below w0.heap.size w0 w' := fun w0 => by
    have := Ld.lgood_any cfg0 w0
    rw [good_c0] at this
    exact this
  have hu0 : (cfgL cfg0)[0]? = some (.int .i64 4) := rfl
  have hu1 : (cfgL cfg0)[1]? = some (.int .i64 2) := rfl
  obtain ⟨hB0, hr0, hs0⟩ := boxed_new w (cfgL cfg0) 23
  generalize cfgL cfg0 = u at *
  go_enter Try.func13, Try.ntmps13
  go_upto_region 0 with fail
  try simp only [Act.put]
  refine pl_begin ?_
  refine pl_run (d := some 1) (v := .pointer (some ⟨w.heap.size, 0, none⟩)) (w' := w.alloc (.cells u.toArray 23)) (by rfl) (ex_boxR rfl rfl) rfl ?_
  simp only [Act.put, List.setIfInBounds_toArray, List.set_cons_zero, List.set_cons_succ]
  obtain ⟨W0, hW0⟩ : ∃ W, w.alloc (.cells u.toArray 23) = W := ⟨_, rfl⟩
  rw [hW0] at hB0 hr0 hs0 ⊢
  clear hW0
  obtain ⟨hB1, -, hs1⟩ := boxed_new W0 zc 30
  have ht1 := there_newN W0 zc.toArray 30 (n := 37) (by simp [hzl])
  refine pl_run (d := some 2) (v := .pointer (some ⟨W0.heap.size, 0, none⟩)) (w' := W0.alloc (.cells zc.toArray 30)) (by rfl) (ex_alloc rfl (hzr _)) rfl ?_
  simp only [Act.put, List.setIfInBounds_toArray, List.set_cons_zero, List.set_cons_succ]
  refine pl_nil ?_
  obtain ⟨W1, hW1⟩ : ∃ W, W0.alloc (.cells zc.toArray 30) = W := ⟨_, rfl⟩
  rw [hW1] at hB1 hs1 ht1 ⊢
  clear hW1
  have hr1 := range_below hr0 hB1 hs0
  have hB := hB0.trans (hB1.mono (by omega))
  obtain ⟨A, hA⟩ : ∃ X, W0.heap.size = X := ⟨_, rfl⟩
  obtain ⟨C, hC⟩ : ∃ X, w.heap.size = X := ⟨_, rfl⟩
  rw [hA] at hs1 ht1 hs0
  rw [hC] at hs0 hr1
  simp only [hA, hC]
  clear hr0 hB0 hB1 hA hzr
  go_upto_region 1 with fail
  try simp only [Act.put]
  refine pl_begin ?_
  refine pl_take (d := some 3) (v := .agg u.toArray) (by rfl) (ex_mid rfl rfl hr1 Try.underlying23 rfl iu) rfl ?_
  simp only [Act.put, List.setIfInBounds_toArray, List.set_cons_zero, List.set_cons_succ]
  refine pl_call (d := some 4) (by rfl) (by go_simp; first | done | exact ⟨rfl, rfl⟩ | with_reducible rfl) rfl ?_
  refine (cg W1).mono ?_
  rintro _ W2 ⟨rfl, hb2⟩
  refine ⟨_, rfl, ?_⟩
  simp only [Act.put, List.setIfInBounds_toArray, List.set_cons_zero, List.set_cons_succ]
  refine pl_take (d := some 5) (v := .bool false) (by rfl) (by go_simp) rfl ?_
  simp only [Act.put, List.setIfInBounds_toArray, List.set_cons_zero, List.set_cons_succ]
  refine pl_nil ?_
  have hr2 := range_below hr1 hb2 (by omega)
  have ht2 := there_below ht1 hb2 hs1
  have hB2 := hB.trans (hb2.mono hB.size)
  have hs2 := Nat.lt_of_lt_of_le hs1 hb2.size
  clear hr1 ht1 hB hs1 hb2 cg
  go_upto_region 3 with fail
  have r8 : W2.drew.rangeAt C 0 u := (World.rangeAt_drew _ _ _ _).2 hr2
  have tA8 : W2.drew.there A 0 37 := ht2
  have hB8 : Below w.heap.size w W2.drew := hB2.drew
  have sA8 : A < W2.drew.heap.size := hs2
  refine hs_begin (S := (Below A W2.drew)) 10 rfl (by kernel_rfl) ?_
  obtain ⟨w8, hw8⟩ : ∃ W, W2.drew = W := ⟨_, rfl⟩
  rw [hw8] at r8 tA8 hB8 sA8 ⊢
  clear hw8 hr2 ht2 hB2 hs2
  have hS : (Below A w8) w8 := Below.refl _ _
  have k0 : w8.cell? ⟨C, 0, none⟩ = some (.int .i64 4) := by simpa using r8 0 _ hu0
  have k1 : w8.cell? ⟨C, 1, none⟩ = some (.int .i64 2) := by simpa using r8 1 _ hu1
  clear r8 hu0 hu1
  refine hs_take (i := 2) (d := some 9) (v := ?_) rfl (by kernel_rfl) (by kernel_rfl) (by kernel_rfl) (by rfl) ?_ hS rfl ?_
  rotate_left
  · intro w' hw
    go_simp
    try with_reducible rfl
  simp only [Act.put, List.setIfInBounds_toArray, List.set_cons_zero, List.set_cons_succ]
  refine hs_take (i := 3) (d := some 10) (v := .int .i64 2) rfl (by kernel_rfl) (by kernel_rfl) (by kernel_rfl) (by rfl) (fun w' hw => pl_one rfl rfl ((hw.cell (p := ⟨C, 1, none⟩) hs0).trans k1) Try.underlying3 rfl) hS rfl ?_
  simp only [Act.put, List.setIfInBounds_toArray, List.set_cons_zero, List.set_cons_succ]
  refine hs_take (i := 5) (d := some 12) (v := ?_) rfl (by kernel_rfl) (by kernel_rfl) (by kernel_rfl) (by rfl) ?_ hS rfl ?_
  rotate_left
  · intro w' hw
    go_simp
    try with_reducible rfl
  simp only [Act.put, List.setIfInBounds_toArray, List.set_cons_zero, List.set_cons_succ]
  refine hs_take (i := 6) (d := some 13) (v := .int .i64 4) rfl (by kernel_rfl) (by kernel_rfl) (by kernel_rfl) (by rfl) (fun w' hw => pl_one rfl rfl ((hw.cell (p := ⟨C, 0, none⟩) hs0).trans k0) Try.underlying3 rfl) hS rfl ?_
  simp only [Act.put, List.setIfInBounds_toArray, List.set_cons_zero, List.set_cons_succ]
  refine hs_forkL (l := [0, 7]) (by kernel_rfl) (by simp) ?_
  intro ii hii
  simp only [List.mem_cons, List.not_mem_nil, or_false] at hii
  rcases hii with rfl | rfl
  · refine st_call (i := 0) (d := some 7) rfl (by rfl) (by go_simp; first | done | exact ⟨rfl, rfl⟩ | with_reducible rfl) rfl ?_
    refine (wnew_val w8).mono ?_
    rintro _ wa ⟨rfl, hb_wa⟩
    have hz := hb_wa.size
    have hS : (Below A w8) wa := hS.trans (hb_wa.mono (by have := hS.size; omega))
    refine ⟨_, rfl, hS, ?_⟩
    simp only [Act.put, List.setIfInBounds_toArray, List.set_cons_zero, List.set_cons_succ]
    refine hs_forkL (l := [1, 7]) (by kernel_rfl) (by simp) ?_
    intro ii hii
    simp only [List.mem_cons, List.not_mem_nil, or_false] at hii
    rcases hii with rfl | rfl
    · have hb_wb : Below wa.heap.size wa (wa.alloc (.cells (w0L).toArray 57)) := (Below.refl _ _).alloc (Nat.le_refl _) _
      have q1n := (boxed_new wa (w0L) 57).2.1
      have l1n := (boxed_new wa (w0L) 57).2.2
      have hS' : (Below A w8) (wa.alloc (.cells (w0L).toArray 57)) := hS.trans (hb_wb.mono (by have := hS.size; omega))
      refine st_run (i := 1) (d := some 8) (v := .slice (some ⟨wa.heap.size, 0, none⟩) 1 1) (w' := wa.alloc (.cells (w0L).toArray 57)) rfl (by rfl) (ex_bsi rfl rfl (run_bsw ⟨1, 0⟩ wa)) rfl hS' ?_
      simp only [Act.put, List.setIfInBounds_toArray, List.set_cons_zero, List.set_cons_succ]
      obtain ⟨wb, h_wb⟩ : ∃ W, wa.alloc (.cells (w0L).toArray 57) = W := ⟨_, rfl⟩
      rw [h_wb] at hb_wb q1n l1n hS' ⊢
      clear h_wb
      have hS : (Below A w8) wb := hS'
      clear hS'
      obtain ⟨q1b, q1e⟩ : ∃ x, wa.heap.size = x := ⟨_, rfl⟩
      rw [q1e] at q1n l1n
      simp only [q1e]
      have q1A : A < q1b := by have := hS.size; omega
      have q1 := q1n
      have l1 := l1n
      clear q1n l1n
      refine hs_forkL (l := [4, 7]) (by kernel_rfl) (by simp) ?_
      intro ii hii
      simp only [List.mem_cons, List.not_mem_nil, or_false] at hii
      rcases hii with rfl | rfl
      · refine st_call (i := 4) (d := some 11) rfl (by rfl) (by go_simp; first | done | exact ⟨rfl, rfl⟩ | with_reducible rfl) rfl ?_
        refine (repeat_val q1b 1 wb q1 l1).mono ?_
        rintro _ wc ⟨q4b, rfl, q4g, l4, q4, hb_wc⟩
        have q4A : A < q4b := by have := hS.size; omega
        have hz := hb_wc.size
        have hS : (Below A w8) wc := hS.trans (hb_wc.mono (by have := hS.size; omega))
        refine ⟨_, rfl, hS, ?_⟩
        simp only [Act.put, List.setIfInBounds_toArray, List.set_cons_zero, List.set_cons_succ]
        have q1 := range_below q1 hb_wc l1
        have l1 := Nat.lt_of_lt_of_le l1 hb_wc.size
        have hb_wd : Below wc.heap.size wc (wc.alloc (.cells (zs4).toArray 3)) := (Below.refl _ _).alloc (Nat.le_refl _) _
        have q7n := (boxed_new wc (zs4) 3).2.1
        have l7n := (boxed_new wc (zs4) 3).2.2
        have hS' : (Below A w8) (wc.alloc (.cells (zs4).toArray 3)) := hS.trans (hb_wd.mono (by have := hS.size; omega))
        refine hs_run (i := 7) (d := some 14) (v := .slice (some ⟨wc.heap.size, 0, none⟩) 4 4) (w' := wc.alloc (.cells (zs4).toArray 3)) rfl (by kernel_rfl) (by rfl) (ex_mkS rfl rfl rfl (mk4i wc)) rfl hS' ?_
        simp only [Act.put, List.setIfInBounds_toArray, List.set_cons_zero, List.set_cons_succ]
        obtain ⟨wd, h_wd⟩ : ∃ W, wc.alloc (.cells (zs4).toArray 3) = W := ⟨_, rfl⟩
        rw [h_wd] at hb_wd q7n l7n hS' ⊢
        clear h_wd
        have hS : (Below A w8) wd := hS'
        clear hS'
        have q1 := range_below q1 hb_wd l1
        have l1 := Nat.lt_of_lt_of_le l1 hb_wd.size
        have q4 := range_below q4 hb_wd l4
        have l4 := Nat.lt_of_lt_of_le l4 hb_wd.size
        obtain ⟨q7b, q7e⟩ : ∃ x, wc.heap.size = x := ⟨_, rfl⟩
        rw [q7e] at q7n l7n
        simp only [q7e]
        have q7A : A < q7b := by have := hS.size; omega
        have q7 := q7n
        have l7 := l7n
        clear q7n l7n
        have hBB : Below w8.heap.size w8 wd := (((hb_wa.trans (hb_wb.mono (by have := hb_wa.size; omega))).trans (hb_wc.mono (by have := (hb_wa.trans (hb_wb.mono (by have := hb_wa.size; omega))).size; omega))).trans (hb_wd.mono (by have := ((hb_wa.trans (hb_wb.mono (by have := hb_wa.size; omega))).trans (hb_wc.mono (by have := (hb_wa.trans (hb_wb.mono (by have := hb_wa.size; omega))).size; omega))).size; omega)))
        have xo := x0_ok q4b q7b
        have xa := x0_at l4 l7 q4 q7
        have hbf := build_f q4b q7b
        have xl : Stt.Lo ⟨1, 1, 0, zeros32, ⟨some ⟨q4b, 0, none⟩, 2, [⟨1, 0⟩, ⟨1, 0⟩]⟩, ⟨some ⟨q7b, 0, none⟩, 4, [0, 0, 0, 0]⟩⟩ (A + 1) := ⟨fun b hb => by cases hb; exact q4A, fun b hb => by cases hb; exact q7A⟩
        have xs : Stt.sp ⟨1, 1, 0, zeros32, ⟨some ⟨q4b, 0, none⟩, 2, [⟨1, 0⟩, ⟨1, 0⟩]⟩, ⟨some ⟨q7b, 0, none⟩, 4, [0, 0, 0, 0]⟩⟩ = sp0 := rfl
        generalize (⟨1, 1, 0, zeros32, ⟨some ⟨q4b, 0, none⟩, 2, [⟨1, 0⟩, ⟨1, 0⟩]⟩, ⟨some ⟨q7b, 0, none⟩, 4, [0, 0, 0, 0]⟩⟩ : Stt) = x at xo xa hbf xl xs
        have hql : x.cells.length = 37 := Stt.len xo
        have hq1 := Stt.one x
        have hiq : (Try.prog.info? 30).map (·.size) = some x.cells.length := by rw [hql]; exact iszSt
        obtain ⟨q, hq⟩ : ∃ q, Hid (x.cells = q) := ⟨_, hide rfl⟩
        rw [hq.out] at hql hq1 hiq
        simp only [hq.out] at hbf
        refine hs_take (i := 8) (d := some 15) (v := .agg q.toArray) rfl (by kernel_rfl) (by kernel_rfl) (by kernel_rfl) (by rfl) (fun w' hw => ex_build (parts := [(0, .const (.int .i64 1)), (1, .const (.int .i64 1)), (4, .tmp 11), (5, .tmp 14)]) rfl rfl (hbf _)) hS rfl ?_
        simp only [Act.put, List.setIfInBounds_toArray, List.set_cons_zero, List.set_cons_succ]
        have hth : wd.there A 0 q.length := by rw [hql]; exact there_blk tA8 (hBB.block A sA8)
        have hS2 : (Below A w8) (wd.setCells A 0 q) := below_sets (Nat.le_refl _) q 0 _ hS
        refine hs_store (i := 9) (w' := wd.setCells A 0 q) rfl (by kernel_rfl) (by rfl) (ex_put (cs := q.toArray) rfl rfl rfl (by simpa using hth) (by simpa using hiq) (all_one hq1)) rfl hS2 ?_
        refine hs_done (by kernel_rfl) ?_
        have hrs := run_loadVar_mid (P := Try.prog) (wd.setCells A 0 q) A 0 30 q _ (World.rangeAt_setCells_same wd A 0 q hth) Try.underlying30 rfl hiq
        have HF : Hid (FirstA w (.returned (.agg q.toArray)) (wd.setCells A 0 q)) := hide ⟨x, by rw [hq.out], xs, xo, xa.put xl (by omega), hB8.trans (hS2.mono (by omega))⟩
        clear xl xs xa xo hq hbf hiq hq1 hS hS2 hth q1 q4 q7 hBB
        go_wp2_with fail
        refine bodyPost_ret (results_cell rfl _ _ _ rfl hrs) rfl ?_
        exact HF.out
      · have hb_wc : Below wb.heap.size wb (wb.alloc (.cells (zs4).toArray 3)) := (Below.refl _ _).alloc (Nat.le_refl _) _
        have q7n := (boxed_new wb (zs4) 3).2.1
        have l7n := (boxed_new wb (zs4) 3).2.2
        have hS' : (Below A w8) (wb.alloc (.cells (zs4).toArray 3)) := hS.trans (hb_wc.mono (by have := hS.size; omega))
        refine st_run (i := 7) (d := some 14) (v := .slice (some ⟨wb.heap.size, 0, none⟩) 4 4) (w' := wb.alloc (.cells (zs4).toArray 3)) rfl (by rfl) (ex_mkS rfl rfl rfl (mk4i wb)) rfl hS' ?_
        simp only [Act.put, List.setIfInBounds_toArray, List.set_cons_zero, List.set_cons_succ]
        obtain ⟨wc, h_wc⟩ : ∃ W, wb.alloc (.cells (zs4).toArray 3) = W := ⟨_, rfl⟩
        rw [h_wc] at hb_wc q7n l7n hS' ⊢
        clear h_wc
        have hS : (Below A w8) wc := hS'
        clear hS'
        have q1 := range_below q1 hb_wc l1
        have l1 := Nat.lt_of_lt_of_le l1 hb_wc.size
        obtain ⟨q7b, q7e⟩ : ∃ x, wb.heap.size = x := ⟨_, rfl⟩
        rw [q7e] at q7n l7n
        simp only [q7e]
        have q7A : A < q7b := by have := hS.size; omega
        have q7 := q7n
        have l7 := l7n
        clear q7n l7n
        refine hs_call (i := 4) (d := some 11) rfl (by kernel_rfl) (by rfl) (by go_simp; first | done | exact ⟨rfl, rfl⟩ | with_reducible rfl) rfl ?_
        refine (repeat_val q1b 1 wc q1 l1).mono ?_
        rintro _ wd ⟨q4b, rfl, q4g, l4, q4, hb_wd⟩
        have q4A : A < q4b := by have := hS.size; omega
        have hz := hb_wd.size
        have hS : (Below A w8) wd := hS.trans (hb_wd.mono (by have := hS.size; omega))
        refine ⟨_, rfl, hS, ?_⟩
        simp only [Act.put, List.setIfInBounds_toArray, List.set_cons_zero, List.set_cons_succ]
        have q1 := range_below q1 hb_wd l1
        have l1 := Nat.lt_of_lt_of_le l1 hb_wd.size
        have q7 := range_below q7 hb_wd l7
        have l7 := Nat.lt_of_lt_of_le l7 hb_wd.size
        have hBB : Below w8.heap.size w8 wd := (((hb_wa.trans (hb_wb.mono (by have := hb_wa.size; omega))).trans (hb_wc.mono (by have := (hb_wa.trans (hb_wb.mono (by have := hb_wa.size; omega))).size; omega))).trans (hb_wd.mono (by have := ((hb_wa.trans (hb_wb.mono (by have := hb_wa.size; omega))).trans (hb_wc.mono (by have := (hb_wa.trans (hb_wb.mono (by have := hb_wa.size; omega))).size; omega))).size; omega)))
        have xo := x0_ok q4b q7b
        have xa := x0_at l4 l7 q4 q7
        have hbf := build_f q4b q7b
        have xl : Stt.Lo ⟨1, 1, 0, zeros32, ⟨some ⟨q4b, 0, none⟩, 2, [⟨1, 0⟩, ⟨1, 0⟩]⟩, ⟨some ⟨q7b, 0, none⟩, 4, [0, 0, 0, 0]⟩⟩ (A + 1) := ⟨fun b hb => by cases hb; exact q4A, fun b hb => by cases hb; exact q7A⟩
        have xs : Stt.sp ⟨1, 1, 0, zeros32, ⟨some ⟨q4b, 0, none⟩, 2, [⟨1, 0⟩, ⟨1, 0⟩]⟩, ⟨some ⟨q7b, 0, none⟩, 4, [0, 0, 0, 0]⟩⟩ = sp0 := rfl
        generalize (⟨1, 1, 0, zeros32, ⟨some ⟨q4b, 0, none⟩, 2, [⟨1, 0⟩, ⟨1, 0⟩]⟩, ⟨some ⟨q7b, 0, none⟩, 4, [0, 0, 0, 0]⟩⟩ : Stt) = x at xo xa hbf xl xs
        have hql : x.cells.length = 37 := Stt.len xo
        have hq1 := Stt.one x
        have hiq : (Try.prog.info? 30).map (·.size) = some x.cells.length := by rw [hql]; exact iszSt
        obtain ⟨q, hq⟩ : ∃ q, Hid (x.cells = q) := ⟨_, hide rfl⟩
        rw [hq.out] at hql hq1 hiq
        simp only [hq.out] at hbf
        refine hs_take (i := 8) (d := some 15) (v := .agg q.toArray) rfl (by kernel_rfl) (by kernel_rfl) (by kernel_rfl) (by rfl) (fun w' hw => ex_build (parts := [(0, .const (.int .i64 1)), (1, .const (.int .i64 1)), (4, .tmp 11), (5, .tmp 14)]) rfl rfl (hbf _)) hS rfl ?_
        simp only [Act.put, List.setIfInBounds_toArray, List.set_cons_zero, List.set_cons_succ]
        have hth : wd.there A 0 q.length := by rw [hql]; exact there_blk tA8 (hBB.block A sA8)
        have hS2 : (Below A w8) (wd.setCells A 0 q) := below_sets (Nat.le_refl _) q 0 _ hS
        refine hs_store (i := 9) (w' := wd.setCells A 0 q) rfl (by kernel_rfl) (by rfl) (ex_put (cs := q.toArray) rfl rfl rfl (by simpa using hth) (by simpa using hiq) (all_one hq1)) rfl hS2 ?_
        refine hs_done (by kernel_rfl) ?_
        have hrs := run_loadVar_mid (P := Try.prog) (wd.setCells A 0 q) A 0 30 q _ (World.rangeAt_setCells_same wd A 0 q hth) Try.underlying30 rfl hiq
        have HF : Hid (FirstA w (.returned (.agg q.toArray)) (wd.setCells A 0 q)) := hide ⟨x, by rw [hq.out], xs, xo, xa.put xl (by omega), hB8.trans (hS2.mono (by omega))⟩
        clear xl xs xa xo hq hbf hiq hq1 hS hS2 hth q1 q4 q7 hBB
        go_wp2_with fail
        refine bodyPost_ret (results_cell rfl _ _ _ rfl hrs) rfl ?_
        exact HF.out
    · have hb_wb : Below wa.heap.size wa (wa.alloc (.cells (zs4).toArray 3)) := (Below.refl _ _).alloc (Nat.le_refl _) _
      have q7n := (boxed_new wa (zs4) 3).2.1
      have l7n := (boxed_new wa (zs4) 3).2.2
      have hS' : (Below A w8) (wa.alloc (.cells (zs4).toArray 3)) := hS.trans (hb_wb.mono (by have := hS.size; omega))
      refine st_run (i := 7) (d := some 14) (v := .slice (some ⟨wa.heap.size, 0, none⟩) 4 4) (w' := wa.alloc (.cells (zs4).toArray 3)) rfl (by rfl) (ex_mkS rfl rfl rfl (mk4i wa)) rfl hS' ?_
      simp only [Act.put, List.setIfInBounds_toArray, List.set_cons_zero, List.set_cons_succ]
      obtain ⟨wb, h_wb⟩ : ∃ W, wa.alloc (.cells (zs4).toArray 3) = W := ⟨_, rfl⟩
      rw [h_wb] at hb_wb q7n l7n hS' ⊢
      clear h_wb
      have hS : (Below A w8) wb := hS'
      clear hS'
      obtain ⟨q7b, q7e⟩ : ∃ x, wa.heap.size = x := ⟨_, rfl⟩
      rw [q7e] at q7n l7n
      simp only [q7e]
      have q7A : A < q7b := by have := hS.size; omega
      have q7 := q7n
      have l7 := l7n
      clear q7n l7n
      have hb_wc : Below wb.heap.size wb (wb.alloc (.cells (w0L).toArray 57)) := (Below.refl _ _).alloc (Nat.le_refl _) _
      have q1n := (boxed_new wb (w0L) 57).2.1
      have l1n := (boxed_new wb (w0L) 57).2.2
      have hS' : (Below A w8) (wb.alloc (.cells (w0L).toArray 57)) := hS.trans (hb_wc.mono (by have := hS.size; omega))
      refine hs_run (i := 1) (d := some 8) (v := .slice (some ⟨wb.heap.size, 0, none⟩) 1 1) (w' := wb.alloc (.cells (w0L).toArray 57)) rfl (by kernel_rfl) (by rfl) (ex_bsi rfl rfl (run_bsw ⟨1, 0⟩ wb)) rfl hS' ?_
      simp only [Act.put, List.setIfInBounds_toArray, List.set_cons_zero, List.set_cons_succ]
      obtain ⟨wc, h_wc⟩ : ∃ W, wb.alloc (.cells (w0L).toArray 57) = W := ⟨_, rfl⟩
      rw [h_wc] at hb_wc q1n l1n hS' ⊢
      clear h_wc
      have hS : (Below A w8) wc := hS'
      clear hS'
      have q7 := range_below q7 hb_wc l7
      have l7 := Nat.lt_of_lt_of_le l7 hb_wc.size
      obtain ⟨q1b, q1e⟩ : ∃ x, wb.heap.size = x := ⟨_, rfl⟩
      rw [q1e] at q1n l1n
      simp only [q1e]
      have q1A : A < q1b := by have := hS.size; omega
      have q1 := q1n
      have l1 := l1n
      clear q1n l1n
      refine hs_call (i := 4) (d := some 11) rfl (by kernel_rfl) (by rfl) (by go_simp; first | done | exact ⟨rfl, rfl⟩ | with_reducible rfl) rfl ?_
      refine (repeat_val q1b 1 wc q1 l1).mono ?_
      rintro _ wd ⟨q4b, rfl, q4g, l4, q4, hb_wd⟩
      have q4A : A < q4b := by have := hS.size; omega
      have hz := hb_wd.size
      have hS : (Below A w8) wd := hS.trans (hb_wd.mono (by have := hS.size; omega))
      refine ⟨_, rfl, hS, ?_⟩
      simp only [Act.put, List.setIfInBounds_toArray, List.set_cons_zero, List.set_cons_succ]
      have q7 := range_below q7 hb_wd l7
      have l7 := Nat.lt_of_lt_of_le l7 hb_wd.size
      have q1 := range_below q1 hb_wd l1
      have l1 := Nat.lt_of_lt_of_le l1 hb_wd.size
      have hBB : Below w8.heap.size w8 wd := (((hb_wa.trans (hb_wb.mono (by have := hb_wa.size; omega))).trans (hb_wc.mono (by have := (hb_wa.trans (hb_wb.mono (by have := hb_wa.size; omega))).size; omega))).trans (hb_wd.mono (by have := ((hb_wa.trans (hb_wb.mono (by have := hb_wa.size; omega))).trans (hb_wc.mono (by have := (hb_wa.trans (hb_wb.mono (by have := hb_wa.size; omega))).size; omega))).size; omega)))
      have xo := x0_ok q4b q7b
      have xa := x0_at l4 l7 q4 q7
      have hbf := build_f q4b q7b
      have xl : Stt.Lo ⟨1, 1, 0, zeros32, ⟨some ⟨q4b, 0, none⟩, 2, [⟨1, 0⟩, ⟨1, 0⟩]⟩, ⟨some ⟨q7b, 0, none⟩, 4, [0, 0, 0, 0]⟩⟩ (A + 1) := ⟨fun b hb => by cases hb; exact q4A, fun b hb => by cases hb; exact q7A⟩
      have xs : Stt.sp ⟨1, 1, 0, zeros32, ⟨some ⟨q4b, 0, none⟩, 2, [⟨1, 0⟩, ⟨1, 0⟩]⟩, ⟨some ⟨q7b, 0, none⟩, 4, [0, 0, 0, 0]⟩⟩ = sp0 := rfl
      generalize (⟨1, 1, 0, zeros32, ⟨some ⟨q4b, 0, none⟩, 2, [⟨1, 0⟩, ⟨1, 0⟩]⟩, ⟨some ⟨q7b, 0, none⟩, 4, [0, 0, 0, 0]⟩⟩ : Stt) = x at xo xa hbf xl xs
      have hql : x.cells.length = 37 := Stt.len xo
      have hq1 := Stt.one x
      have hiq : (Try.prog.info? 30).map (·.size) = some x.cells.length := by rw [hql]; exact iszSt
      obtain ⟨q, hq⟩ : ∃ q, Hid (x.cells = q) := ⟨_, hide rfl⟩
      rw [hq.out] at hql hq1 hiq
      simp only [hq.out] at hbf
      refine hs_take (i := 8) (d := some 15) (v := .agg q.toArray) rfl (by kernel_rfl) (by kernel_rfl) (by kernel_rfl) (by rfl) (fun w' hw => ex_build (parts := [(0, .const (.int .i64 1)), (1, .const (.int .i64 1)), (4, .tmp 11), (5, .tmp 14)]) rfl rfl (hbf _)) hS rfl ?_
      simp only [Act.put, List.setIfInBounds_toArray, List.set_cons_zero, List.set_cons_succ]
      have hth : wd.there A 0 q.length := by rw [hql]; exact there_blk tA8 (hBB.block A sA8)
      have hS2 : (Below A w8) (wd.setCells A 0 q) := below_sets (Nat.le_refl _) q 0 _ hS
      refine hs_store (i := 9) (w' := wd.setCells A 0 q) rfl (by kernel_rfl) (by rfl) (ex_put (cs := q.toArray) rfl rfl rfl (by simpa using hth) (by simpa using hiq) (all_one hq1)) rfl hS2 ?_
      refine hs_done (by kernel_rfl) ?_
      have hrs := run_loadVar_mid (P := Try.prog) (wd.setCells A 0 q) A 0 30 q _ (World.rangeAt_setCells_same wd A 0 q hth) Try.underlying30 rfl hiq
      have HF : Hid (FirstA w (.returned (.agg q.toArray)) (wd.setCells A 0 q)) := hide ⟨x, by rw [hq.out], xs, xo, xa.put xl (by omega), hB8.trans (hS2.mono (by omega))⟩
      clear xl xs xa xo hq hbf hiq hq1 hS hS2 hth q1 q4 q7 hBB
      go_wp2_with fail
      refine bodyPost_ret (results_cell rfl _ _ _ rfl hrs) rfl ?_
      exact HF.out
  · have hb_wa : Below w8.heap.size w8 (w8.alloc (.cells (zs4).toArray 3)) := (Below.refl _ _).alloc (Nat.le_refl _) _
    have q7n := (boxed_new w8 (zs4) 3).2.1
    have l7n := (boxed_new w8 (zs4) 3).2.2
    have hS' : (Below A w8) (w8.alloc (.cells (zs4).toArray 3)) := hS.trans (hb_wa.mono (by have := hS.size; omega))
    refine st_run (i := 7) (d := some 14) (v := .slice (some ⟨w8.heap.size, 0, none⟩) 4 4) (w' := w8.alloc (.cells (zs4).toArray 3)) rfl (by rfl) (ex_mkS rfl rfl rfl (mk4i w8)) rfl hS' ?_
    simp only [Act.put, List.setIfInBounds_toArray, List.set_cons_zero, List.set_cons_succ]
    obtain ⟨wa, h_wa⟩ : ∃ W, w8.alloc (.cells (zs4).toArray 3) = W := ⟨_, rfl⟩
    rw [h_wa] at hb_wa q7n l7n hS' ⊢
    clear h_wa
    have hS : (Below A w8) wa := hS'
    clear hS'
    obtain ⟨q7b, q7e⟩ : ∃ x, w8.heap.size = x := ⟨_, rfl⟩
    rw [q7e] at q7n l7n
    simp only [q7e]
    have q7A : A < q7b := by have := hS.size; omega
    have q7 := q7n
    have l7 := l7n
    clear q7n l7n
    refine hs_call (i := 0) (d := some 7) rfl (by kernel_rfl) (by rfl) (by go_simp; first | done | exact ⟨rfl, rfl⟩ | with_reducible rfl) rfl ?_
    refine (wnew_val wa).mono ?_
    rintro _ wb ⟨rfl, hb_wb⟩
    have hz := hb_wb.size
    have hS : (Below A w8) wb := hS.trans (hb_wb.mono (by have := hS.size; omega))
    refine ⟨_, rfl, hS, ?_⟩
    simp only [Act.put, List.setIfInBounds_toArray, List.set_cons_zero, List.set_cons_succ]
    have q7 := range_below q7 hb_wb l7
    have l7 := Nat.lt_of_lt_of_le l7 hb_wb.size
    have hb_wc : Below wb.heap.size wb (wb.alloc (.cells (w0L).toArray 57)) := (Below.refl _ _).alloc (Nat.le_refl _) _
    have q1n := (boxed_new wb (w0L) 57).2.1
    have l1n := (boxed_new wb (w0L) 57).2.2
    have hS' : (Below A w8) (wb.alloc (.cells (w0L).toArray 57)) := hS.trans (hb_wc.mono (by have := hS.size; omega))
    refine hs_run (i := 1) (d := some 8) (v := .slice (some ⟨wb.heap.size, 0, none⟩) 1 1) (w' := wb.alloc (.cells (w0L).toArray 57)) rfl (by kernel_rfl) (by rfl) (ex_bsi rfl rfl (run_bsw ⟨1, 0⟩ wb)) rfl hS' ?_
    simp only [Act.put, List.setIfInBounds_toArray, List.set_cons_zero, List.set_cons_succ]
    obtain ⟨wc, h_wc⟩ : ∃ W, wb.alloc (.cells (w0L).toArray 57) = W := ⟨_, rfl⟩
    rw [h_wc] at hb_wc q1n l1n hS' ⊢
    clear h_wc
    have hS : (Below A w8) wc := hS'
    clear hS'
    have q7 := range_below q7 hb_wc l7
    have l7 := Nat.lt_of_lt_of_le l7 hb_wc.size
    obtain ⟨q1b, q1e⟩ : ∃ x, wb.heap.size = x := ⟨_, rfl⟩
    rw [q1e] at q1n l1n
    simp only [q1e]
    have q1A : A < q1b := by have := hS.size; omega
    have q1 := q1n
    have l1 := l1n
    clear q1n l1n
    refine hs_call (i := 4) (d := some 11) rfl (by kernel_rfl) (by rfl) (by go_simp; first | done | exact ⟨rfl, rfl⟩ | with_reducible rfl) rfl ?_
    refine (repeat_val q1b 1 wc q1 l1).mono ?_
    rintro _ wd ⟨q4b, rfl, q4g, l4, q4, hb_wd⟩
    have q4A : A < q4b := by have := hS.size; omega
    have hz := hb_wd.size
    have hS : (Below A w8) wd := hS.trans (hb_wd.mono (by have := hS.size; omega))
    refine ⟨_, rfl, hS, ?_⟩
    simp only [Act.put, List.setIfInBounds_toArray, List.set_cons_zero, List.set_cons_succ]
    have q7 := range_below q7 hb_wd l7
    have l7 := Nat.lt_of_lt_of_le l7 hb_wd.size
    have q1 := range_below q1 hb_wd l1
    have l1 := Nat.lt_of_lt_of_le l1 hb_wd.size
    have hBB : Below w8.heap.size w8 wd := (((hb_wa.trans (hb_wb.mono (by have := hb_wa.size; omega))).trans (hb_wc.mono (by have := (hb_wa.trans (hb_wb.mono (by have := hb_wa.size; omega))).size; omega))).trans (hb_wd.mono (by have := ((hb_wa.trans (hb_wb.mono (by have := hb_wa.size; omega))).trans (hb_wc.mono (by have := (hb_wa.trans (hb_wb.mono (by have := hb_wa.size; omega))).size; omega))).size; omega)))
    have xo := x0_ok q4b q7b
    have xa := x0_at l4 l7 q4 q7
    have hbf := build_f q4b q7b
    have xl : Stt.Lo ⟨1, 1, 0, zeros32, ⟨some ⟨q4b, 0, none⟩, 2, [⟨1, 0⟩, ⟨1, 0⟩]⟩, ⟨some ⟨q7b, 0, none⟩, 4, [0, 0, 0, 0]⟩⟩ (A + 1) := ⟨fun b hb => by cases hb; exact q4A, fun b hb => by cases hb; exact q7A⟩
    have xs : Stt.sp ⟨1, 1, 0, zeros32, ⟨some ⟨q4b, 0, none⟩, 2, [⟨1, 0⟩, ⟨1, 0⟩]⟩, ⟨some ⟨q7b, 0, none⟩, 4, [0, 0, 0, 0]⟩⟩ = sp0 := rfl
    generalize (⟨1, 1, 0, zeros32, ⟨some ⟨q4b, 0, none⟩, 2, [⟨1, 0⟩, ⟨1, 0⟩]⟩, ⟨some ⟨q7b, 0, none⟩, 4, [0, 0, 0, 0]⟩⟩ : Stt) = x at xo xa hbf xl xs
    have hql : x.cells.length = 37 := Stt.len xo
    have hq1 := Stt.one x
    have hiq : (Try.prog.info? 30).map (·.size) = some x.cells.length := by rw [hql]; exact iszSt
    obtain ⟨q, hq⟩ : ∃ q, Hid (x.cells = q) := ⟨_, hide rfl⟩
    rw [hq.out] at hql hq1 hiq
    simp only [hq.out] at hbf
    refine hs_take (i := 8) (d := some 15) (v := .agg q.toArray) rfl (by kernel_rfl) (by kernel_rfl) (by kernel_rfl) (by rfl) (fun w' hw => ex_build (parts := [(0, .const (.int .i64 1)), (1, .const (.int .i64 1)), (4, .tmp 11), (5, .tmp 14)]) rfl rfl (hbf _)) hS rfl ?_
    simp only [Act.put, List.setIfInBounds_toArray, List.set_cons_zero, List.set_cons_succ]
    have hth : wd.there A 0 q.length := by rw [hql]; exact there_blk tA8 (hBB.block A sA8)
    have hS2 : (Below A w8) (wd.setCells A 0 q) := below_sets (Nat.le_refl _) q 0 _ hS
    refine hs_store (i := 9) (w' := wd.setCells A 0 q) rfl (by kernel_rfl) (by rfl) (ex_put (cs := q.toArray) rfl rfl rfl (by simpa using hth) (by simpa using hiq) (all_one hq1)) rfl hS2 ?_
    refine hs_done (by kernel_rfl) ?_
    have hrs := run_loadVar_mid (P := Try.prog) (wd.setCells A 0 q) A 0 30 q _ (World.rangeAt_setCells_same wd A 0 q hth) Try.underlying30 rfl hiq
    have HF : Hid (FirstA w (.returned (.agg q.toArray)) (wd.setCells A 0 q)) := hide ⟨x, by rw [hq.out], xs, xo, xa.put xl (by omega), hB8.trans (hS2.mono (by omega))⟩
    clear xl xs xa xo hq hbf hiq hq1 hS hS2 hth q1 q4 q7 hBB
    go_wp2_with fail
    refine bodyPost_ret (results_cell rfl _ _ _ rfl hrs) rfl ?_
    exact HF.out
end Go.Proofs.Ytaaifcpanflejaa
namespace Go.Proofs.Ytaaifcpanflejaa
open Go.RowKit
open Sha Tal
set_option linter.unusedVariables false
set_option linter.unusedSimpArgs false
theorem strL_strOf {zs : List Int} (h : ∀ z ∈ zs, 0 ≤ z ∧ z < 256) : strL (strOf zs) = zs := strOf_inj (strL_byte _) h (by rw [strOf_strL])
theorem flat_byte {α : Type} {f : α → List Int} {xs : List α} (h : ∀ x ∈ xs, ∀ z ∈ f x, 0 ≤ z ∧ z < 256) : ∀ z ∈ xs.flatMap f, 0 ≤ z ∧ z < 256 := fun z hz => by
  obtain ⟨x, hx, hz⟩ := List.mem_flatMap.1 hz
  exact h x hx z hz
theorem wd_byte {x : Wd} (h : x.ok) : ∀ z ∈ x.bytes, 0 ≤ z ∧ z < 256 := fun z hz => by
  unfold Wd.bytes Wn.winL at hz
  have hm := h.ml
  have hh := h.hi
  rcases List.mem_append.1 hz with hz | hz
  · rcases List.mem_append.1 hz with hz | hz
    · exact putL_byte _ (by omega) z hz
    · exact putL_byte _ (by omega) z hz
  · exact putL_byte _ (by omega) z hz
theorem Stt.byte {s : Stt} (h : s.ok) (hw : ∀ y ∈ s.ws.xs, y.ok) (hp : ∀ z ∈ s.ps.xs, PnOk z) (l1 : s.ws.xs.length ≤ 100) (l2 : s.ps.xs.length ≤ 200) : ∀ z ∈ s.bytes, 0 ≤ z ∧ z < 256 := fun z hz => by
  rw [Stt.bytes_sp] at hz
  unfold Sp.bytes Stt.sp at hz
  simp only [List.mem_append] at hz
  have h1 := h.e1
  have h2 := h.n1
  have h3 := h.c1
  rcases hz with hz | hz | hz | hz | hz | hz | hz | hz
  · exact putL_byte _ (by omega) z hz
  · exact putL_byte _ (by omega) z hz
  · exact putL_byte _ (by omega) z hz
  · exact h.db z hz
  · exact putL_byte _ (by omega) z hz
  · exact flat_byte (fun y hy => wd_byte (hw y hy)) z hz
  · exact putL_byte _ (by omega) z hz
  · exact flat_byte (fun y hy z hz => putL_byte _ (by have := (hp y hy).hi; omega) z hz) z hz
theorem parse_back {c : Ld.Cfg} {p : Sp} (h : p.fit) (hg : p.good c = true) : parseS c p.bytes = (p, 0) := by
  unfold parseS
  rw [read_back p h]
  simp only
  rw [if_neg (by unfold doneE; decide), if_pos hg]
theorem sp0_fit : sp0.fit := ⟨by decide, by decide, by decide, by decide, by decide, by decide, Stt.zero_ok.dl, by decide, by decide, fun x hx => by
  simp only [sp0, List.mem_cons, List.not_mem_nil, or_false, or_self] at hx
  subst hx
  exact ⟨⟨by simp, by simp, by simp⟩, by decide⟩, fun z hz => by
  simp only [sp0, List.mem_cons, List.not_mem_nil, or_false, or_self] at hz
  omega⟩
theorem sp0_good : sp0.good cfg0 = true := by decide
def b0S : ByteArray := strOf sp0.bytes
theorem b0_size : b0S.size ≤ 40000 := by decide +kernel
theorem b0_back : parseS cfg0 (strL b0S) = (sp0, 0) := by
  unfold b0S
  rw [strL_strOf (by decide +kernel)]
  exact parse_back sp0_fit sp0_good
theorem ex_strsl {o : Oper} {a : Act} {w : World} {x : Operand} (ho : o.op = .slice 9 x none (some (.const (.int .i64 5))) none) (hx : a.eval x = .string b0S) : (execOp a.eval o).run Try.prog w = .ok (.value (.string ⟨#[1, 1, 1, 1, 0]⟩)) w := by
  unfold execOp
  simp only [ho, hx]
  kernel_rfl
set_option maxRecDepth 100000 in
set_option maxHeartbeats 4000000 in
theorem lives22_any (w : World) : Calls Try.prog 5 #[] w fun e w' => e = .returned (.bool true) ∧ Below w.heap.size w w' := by
  obtain ⟨zc, hzl, hzr⟩ : ∃ z : List Value, z.length = 37 ∧ (∀ w : World, (zeroValue 30).run Try.prog w = .ok (.agg z.toArray) w) := ⟨_, Stt.len Stt.zero_ok, zeroS0⟩
  have hsl := fun {o : Oper} {a : Act} {x : Operand} (w0 : World) (ho : o.op = .slice 9 x none (some (.const (.int .i64 5))) none) (hx : a.eval x = .string b0S) => ex_strsl (w := w0) ho hx
  have iu := iszCf cfg0
  have cp := fun w0 => plain_val w0
  have cf := fun w0 => first_val w0
  have cP := fun w0 => sparse_any cfg0 b0S w0 b0_size
  unfold ParsA at cP
  rw [b0_back] at cP
  simp only at cP
  have cg0 : ∀ (x : Stt) w0 (h0 : x.ok) (h1 : x.At w0), Calls Try.prog 10 #[.agg (cfgL cfg0).toArray, .agg x.cells.toArray] w0 fun e w' => e = .returned (.bool (x.good cfg0)) ∧ Below w0.heap.size w0 w' := fun x w0 h0 h1 => sgood_any cfg0 x w0 h0 h1
  have hlu : (cfgL cfg0).length = 10 := rfl
  have hu1 : ∀ v ∈ cfgL cfg0, v.oneCell' = true := by decide
  obtain ⟨zu, hzul, hzur⟩ : ∃ z : List Value, z.length = 10 ∧ (∀ w : World, (zeroValue 23).run Try.prog w = .ok (.agg z.toArray) w) := ⟨_, rfl, zeroCf⟩
  generalize cfgL cfg0 = u at *
  go_enter Try.func5, Try.ntmps5
  go_upto_region 1 with fail
  try simp only [Act.put]
  refine pl_begin ?_
  refine pl_call (d := some 5) (by rfl) (by go_simp; first | done | exact ⟨rfl, rfl⟩ | with_reducible rfl) rfl ?_
  refine (cp w).mono ?_
  rintro _ w1 ⟨rfl, hb1⟩
  refine ⟨_, rfl, ?_⟩
  simp only [Act.put, List.setIfInBounds_toArray, List.set_cons_zero, List.set_cons_succ]
  refine pl_run (d := some 1) (v := .pointer (some ⟨w1.heap.size, 0, none⟩)) (w' := w1.alloc (.cells zu.toArray 23)) (by rfl) (ex_alloc rfl (hzur _)) rfl ?_
  simp only [Act.put, List.setIfInBounds_toArray, List.set_cons_zero, List.set_cons_succ]
  refine pl_store (w' := (w1.alloc (.cells zu.toArray 23)).setCells w1.heap.size 0 u) (by rfl) (ex_put (cs := u.toArray) rfl rfl rfl (there_newN _ _ _ (by simp [hzul, hlu])) (by simpa using iu) (all_one hu1)) rfl ?_
  refine pl_nil ?_
  obtain ⟨r2, hF2, hF3, -⟩ := fresh_store w1 zu.toArray 23 u (by simp [hzul, hlu])
  have B2 := hb1.trans (hF2.mono hb1.size)
  obtain ⟨C, hC⟩ : ∃ X, w1.heap.size = X := ⟨_, rfl⟩
  rw [hC] at r2 hF3
  simp only [hC]
  obtain ⟨w2, hw2⟩ : ∃ W, (w1.alloc (.cells zu.toArray 23)).setCells C 0 u = W := ⟨_, rfl⟩
  simp only [hC, hw2] at r2 hF3 B2 ⊢
  have s2 : C < w2.heap.size := by omega
  clear hF2 hb1 hzur hzul hw2 hC hF3 cp
  go_upto_region 2 with fail
  try simp only [Act.put]
  refine pl_begin ?_
  refine pl_take (d := some 6) (v := .agg u.toArray) (by rfl) (ex_mid rfl rfl r2 Try.underlying23 rfl iu) rfl ?_
  simp only [Act.put, List.setIfInBounds_toArray, List.set_cons_zero, List.set_cons_succ]
  refine pl_call (d := some 7) (by rfl) (by go_simp; first | done | exact ⟨rfl, rfl⟩ | with_reducible rfl) rfl ?_
  refine (cf w2).mono ?_
  rintro _ w3 ⟨x, rfl, xs, xo, xa, hb3⟩
  refine ⟨_, rfl, ?_⟩
  simp only [Act.put, List.setIfInBounds_toArray, List.set_cons_zero, List.set_cons_succ]
  have hxl : x.cells.length = 37 := Stt.len xo
  have hx1 := Stt.one x
  have hix : (Try.prog.info? 30).map (·.size) = some x.cells.length := by rw [hxl]; exact iszSt
  have kx1 : x.cells[1]? = some (.int .i64 1) := by
    have e : x.n = 1 := congrArg Sp.n xs
    rw [← e]
    rfl
  have cG : ∀ w0 (h1 : x.At w0), Calls Try.prog 10 #[.agg u.toArray, .agg x.cells.toArray] w0 fun e w' => e = .returned (.bool true) ∧ Below w0.heap.size w0 w' := fun w0 h1 => by
    have := cg0 x w0 xo h1
    rwa [Stt.good_sp, xs, sp0_good] at this
  have xll : x.ws.xs.length ≤ 100 ∧ x.ps.xs.length ≤ 200 := by
    have e1 : x.ws.xs = sp0.ws := congrArg Sp.ws xs
    have e2 : x.ps.xs = sp0.ps := congrArg Sp.ps xs
    rw [e1, e2]
    decide
  have cB2 : ∀ w0 (h1 : x.At w0), Calls Try.prog 11 #[.agg x.cells.toArray] w0 fun e w' => e = .returned (.string b0S) ∧ Below w0.heap.size w0 w' := fun w0 h1 => by
    have := sbytes_any x w0 xo h1 xll.1 xll.2
    rwa [Stt.bytes_sp, xs] at this
  have cS0 : ∀ (y : Stt) w0 (h0 : y.ok) (hy : y.sp = sp0) (h1 : x.At w0) (h2 : y.At w0), Calls Try.prog 14 #[.agg x.cells.toArray, .agg y.cells.toArray] w0 fun e w' => e = .returned (.bool true) ∧ Below w0.heap.size w0 w' := fun y w0 h0 hy h1 h2 => by
    have := ssame_any x y w0 xo h0 h1 h2
    rwa [show x.B y = true from Stt.B_sp.2 (by rw [xs, hy])] at this
  refine pl_run (d := some 2) (v := .pointer (some ⟨w3.heap.size, 0, none⟩)) (w' := w3.alloc (.cells zc.toArray 30)) (by rfl) (ex_alloc rfl (hzr _)) rfl ?_
  simp only [Act.put, List.setIfInBounds_toArray, List.set_cons_zero, List.set_cons_succ]
  refine pl_store (w' := (w3.alloc (.cells zc.toArray 30)).setCells w3.heap.size 0 x.cells) (by rfl) (ex_put (cs := x.cells.toArray) rfl rfl rfl (there_newN _ _ _ (by simp [hzl, hxl])) (by simpa using hix) (all_one hx1)) rfl ?_
  refine pl_nil ?_
  obtain ⟨r4, hF2, hF3, -⟩ := fresh_store w3 zc.toArray 30 x.cells (by simp [hzl, hxl])
  have B4 := (B2.trans (hb3.mono B2.size)).trans (hF2.mono (Nat.le_trans B2.size hb3.size))
  have rc4 := range_below (range_below r2 hb3 s2) hF2 (Nat.lt_of_lt_of_le s2 hb3.size)
  have xa4 := xa.below hF2
  have s4 := Nat.lt_of_lt_of_le s2 (Nat.le_trans hb3.size hF2.size)
  obtain ⟨D, hD⟩ : ∃ X, w3.heap.size = X := ⟨_, rfl⟩
  obtain ⟨qx, hqx⟩ : ∃ q, Hid (x.cells = q) := ⟨_, hide rfl⟩
  simp only [hqx.out] at *
  simp only [hD] at r4 hF3 xa4 rc4 B4 s4 ⊢
  obtain ⟨w4, hw4⟩ : ∃ W, (w3.alloc (.cells zc.toArray 30)).setCells D 0 qx = W := ⟨_, rfl⟩
  simp only [hw4] at r4 hF3 xa4 rc4 B4 s4 ⊢
  have s4x : D < w4.heap.size := by omega
  clear hF2 hF3 hw4 hD hb3 r2 B2 s2 xa cg0 cf
  go_upto_region 3 with fail
  have r8c : w4.drew.rangeAt C 0 u := (World.rangeAt_drew _ _ _ _).2 rc4
  have r8x : w4.drew.rangeAt D 0 qx := (World.rangeAt_drew _ _ _ _).2 r4
  have xa8 : x.At w4.drew := xa4.below ((Below.refl _ _).drew)
  have B8 : Below w.heap.size w w4.drew := B4.drew
  have s8c : C < w4.drew.heap.size := s4
  have s8x : D < w4.drew.heap.size := s4x
  refine hs_begin (S := (Below w4.drew.heap.size w4.drew)) 10 rfl (by kernel_rfl) ?_
  obtain ⟨w8, hw8⟩ : ∃ W, w4.drew = W := ⟨_, rfl⟩
  rw [hw8] at r8c r8x xa8 B8 s8c s8x ⊢
  clear hw8 rc4 r4 xa4 B4 s4 s4x
  have hS : (Below w8.heap.size w8) w8 := Below.refl _ _
  have cB : ∀ w0, Below w8.heap.size w8 w0 → Calls Try.prog 11 #[.agg qx.toArray] w0 fun e w' => e = .returned (.string b0S) ∧ Below w0.heap.size w0 w' := fun w0 hb => cB2 w0 (xa8.below hb)
  refine hs_take (i := 0) (d := some 9) (v := .agg u.toArray) rfl (by kernel_rfl) (by kernel_rfl) (by kernel_rfl) (by rfl) (fun w' hw => ex_mid rfl rfl (range_below r8c hw s8c) Try.underlying23 rfl iu) hS rfl ?_
  simp only [Act.put, List.setIfInBounds_toArray, List.set_cons_zero, List.set_cons_succ]
  refine hs_take (i := 1) (d := some 10) (v := .agg qx.toArray) rfl (by kernel_rfl) (by kernel_rfl) (by kernel_rfl) (by rfl) (fun w' hw => ex_mid rfl rfl (range_below r8x hw s8x) Try.underlying30 rfl hix) hS rfl ?_
  simp only [Act.put, List.setIfInBounds_toArray, List.set_cons_zero, List.set_cons_succ]
  refine hs_forkL (l := [2, 7]) (by kernel_rfl) (by simp) ?_
  intro ii hii
  simp only [List.mem_cons, List.not_mem_nil, or_false] at hii
  rcases hii with rfl | rfl
  · refine st_call (i := 2) (d := some 11) rfl (by rfl) (by go_simp; first | done | exact ⟨rfl, rfl⟩ | with_reducible rfl) rfl ?_
    refine (cB w8 hS).mono ?_
    rintro _ wa ⟨rfl, hb_wa⟩
    have hS : (Below w8.heap.size w8) wa := hS.trans (hb_wa.mono hS.size)
    refine ⟨_, rfl, hS, ?_⟩
    simp only [Act.put, List.setIfInBounds_toArray, List.set_cons_zero, List.set_cons_succ]
    refine hs_forkL (l := [3, 7]) (by kernel_rfl) (by simp) ?_
    intro ii hii
    simp only [List.mem_cons, List.not_mem_nil, or_false] at hii
    rcases hii with rfl | rfl
    · refine st_call (i := 3) (d := some 12) rfl (by rfl) (by go_simp; first | done | exact ⟨rfl, rfl⟩ | with_reducible rfl) rfl ?_
      refine (cP wa).mono ?_
      rintro _ wb ⟨y, rfl, ys, yo, ya, yl, hb_wb⟩
      have hS : (Below w8.heap.size w8) wb := hS.trans (hb_wb.mono hS.size)
      refine ⟨_, rfl, hS, ?_⟩
      simp only [Act.put, List.setIfInBounds_toArray, List.set_cons_zero, List.set_cons_succ]
      refine hs_take (i := 4) (d := some 8) (v := ?_) rfl (by kernel_rfl) (by kernel_rfl) (by kernel_rfl) (by rfl) ?_ hS rfl ?_
      rotate_left
      · intro w' hw
        go_simp
        try with_reducible rfl
      simp only [Act.put, List.setIfInBounds_toArray, List.set_cons_zero, List.set_cons_succ]
      refine hs_take (i := 5) (d := some 13) (v := ?_) rfl (by kernel_rfl) (by kernel_rfl) (by kernel_rfl) (by rfl) ?_ hS rfl ?_
      rotate_left
      · intro w' hw
        go_simp
        try with_reducible rfl
      simp only [Act.put, List.setIfInBounds_toArray, List.set_cons_zero, List.set_cons_succ]
      refine hs_take (i := 6) (d := some 14) (v := ?_) rfl (by kernel_rfl) (by kernel_rfl) (by kernel_rfl) (by rfl) ?_ hS rfl ?_
      rotate_left
      · intro w' hw
        go_simp
        try with_reducible rfl
      simp only [Act.put, List.setIfInBounds_toArray, List.set_cons_zero, List.set_cons_succ]
      obtain ⟨X, HX⟩ : ∃ x, Hid (wb.heap.size = x) := ⟨_, hide rfl⟩
      have hXw : w8.heap.size ≤ X := by have := hS.size; have := HX.out; omega
      have hb_wc : Below wb.heap.size wb (wb.alloc (.cells zc.toArray 30)) := (Below.refl _ _).alloc (Nat.le_refl _) _
      have tn : (wb.alloc (.cells zc.toArray 30)).there X 0 37 := by rw [← HX.out]; exact there_newN wb zc.toArray 30 (n := 37) (by simp [hzl])
      have ln : X < (wb.alloc (.cells zc.toArray 30)).heap.size := by rw [← HX.out]; exact (boxed_new wb zc 30).2.2
      have hS' : (Below w8.heap.size w8) (wb.alloc (.cells zc.toArray 30)) := hS.trans (hb_wc.mono hS.size)
      refine hs_run (i := 7) (d := some 3) (v := .pointer (some ⟨X, 0, none⟩)) (w' := wb.alloc (.cells zc.toArray 30)) rfl (by kernel_rfl) (by rfl) (by rw [← HX.out]; exact ex_alloc rfl (hzr _)) rfl hS' ?_
      simp only [Act.put, List.setIfInBounds_toArray, List.set_cons_zero, List.set_cons_succ]
      obtain ⟨wc, h_wc⟩ : ∃ W, wb.alloc (.cells zc.toArray 30) = W := ⟨_, rfl⟩
      rw [h_wc] at hb_wc tn ln hS' ⊢
      clear h_wc
      have hS : (Below w8.heap.size w8) wc := hS'
      clear hS'
      have yaF : ∀ q, y.At (wc.setCells X 0 q) := fun q => ya.below (below_sets (by have := HX.out; omega) q 0 _ hb_wc)
      have hyl : y.cells.length = 37 := Stt.len yo
      have hy1 := Stt.one y
      have hiy : (Try.prog.info? 30).map (·.size) = some y.cells.length := by rw [hyl]; exact iszSt
      obtain ⟨qy, hqy⟩ : ∃ q, Hid (y.cells = q) := ⟨_, hide rfl⟩
      rw [hqy.out] at hyl hy1 hiy
      simp only [hqy.out]
      have hS2 : (Below w8.heap.size w8) (wc.setCells X 0 qy) := below_sets hXw qy 0 _ hS
      have ryX : (wc.setCells X 0 qy).rangeAt X 0 qy := World.rangeAt_setCells_same wc X 0 qy (by rw [hyl]; exact tn)
      have yaF := yaF qy
      refine hs_store (i := 8) (w' := wc.setCells X 0 qy) rfl (by kernel_rfl) (by rfl) (ex_put (cs := qy.toArray) rfl rfl rfl (by simpa [hyl] using tn) (by simpa using hiy) (all_one hy1)) rfl hS2 ?_
      obtain ⟨w9, hw9⟩ : ∃ W, wc.setCells X 0 qy = W := ⟨_, rfl⟩
      have sX9 : X < w9.heap.size := by rw [← hw9, size_sets]; exact ln
      rw [hw9] at hS2 ryX yaF ⊢
      have hS : (Below w8.heap.size w8) w9 := hS2
      refine hs_take (i := 9) (d := some 4) (v := ?_) rfl (by kernel_rfl) (by kernel_rfl) (by kernel_rfl) (by rfl) ?_ hS rfl ?_
      rotate_left
      · intro w' hw
        go_simp
        try with_reducible rfl
      simp only [Act.put, List.setIfInBounds_toArray, List.set_cons_zero, List.set_cons_succ]
      refine hs_done (by kernel_rfl) ?_
      have xa9 := xa8.below hS
      have rc9 := range_below r8c hS s8c
      have rx9 := range_below r8x hS s8x
      have B9 := B8.trans (hS.mono B8.size)
      have s9c := Nat.lt_of_lt_of_le s8c hS.size
      have s9x := Nat.lt_of_lt_of_le s8x hS.size
      have cS := fun w0 h1 h2 => cS0 y w0 yo ys h1 h2
      simp only [hqy.out] at cS
      clear cS0
      clear hS2 hS hXw tn ln r8c r8x xa8 B8 s8c s8x yl ya cB cP hw9
      go_upto_region 4 with fail
      try simp only [Act.put]
      refine pl_begin ?_
      refine pl_take (d := some 15) (v := .agg u.toArray) (by rfl) (ex_mid rfl rfl rc9 Try.underlying23 rfl iu) rfl ?_
      simp only [Act.put, List.setIfInBounds_toArray, List.set_cons_zero, List.set_cons_succ]
      refine pl_take (d := some 16) (v := .agg qx.toArray) (by rfl) (ex_mid rfl rfl rx9 Try.underlying30 rfl hix) rfl ?_
      simp only [Act.put, List.setIfInBounds_toArray, List.set_cons_zero, List.set_cons_succ]
      refine pl_call (d := some 17) (by rfl) (by go_simp; first | done | exact ⟨rfl, rfl⟩ | with_reducible rfl) rfl ?_
      refine (cG w9 xa9).mono ?_
      rintro _ v1 ⟨rfl, hb1⟩
      refine ⟨_, rfl, ?_⟩
      simp only [Act.put, List.setIfInBounds_toArray, List.set_cons_zero, List.set_cons_succ]
      have kx := (range_below rx9 hb1 s9x) 1 _ kx1
      have xa1 := xa9.below hb1
      have ya1 := yaF.below hb1
      have rx1 := range_below rx9 hb1 s9x
      have ry1 := range_below ryX hb1 sX9
      have s1x := Nat.lt_of_lt_of_le s9x hb1.size
      have B1 := B9.trans (hb1.mono B9.size)
      refine pl_take (d := some 18) (v := ?_) (by rfl) ?_ rfl ?_
      rotate_left
      · go_simp
        try with_reducible rfl
      simp only [Act.put, List.setIfInBounds_toArray, List.set_cons_zero, List.set_cons_succ]
      refine pl_take (d := some 19) (v := ?_) (by rfl) ?_ rfl ?_
      rotate_left
      · go_simp
        try with_reducible rfl
      simp only [Act.put, List.setIfInBounds_toArray, List.set_cons_zero, List.set_cons_succ]
      refine pl_take (d := some 20) (v := .int .i64 1) (by rfl) (pl_one rfl rfl kx Try.underlying3 rfl) rfl ?_
      simp only [Act.put, List.setIfInBounds_toArray, List.set_cons_zero, List.set_cons_succ]
      refine pl_take (d := some 21) (v := .bool true) (by rfl) (by go_simp) rfl ?_
      simp only [Act.put, List.setIfInBounds_toArray, List.set_cons_zero, List.set_cons_succ]
      refine pl_take (d := some 22) (v := ?_) (by rfl) ?_ rfl ?_
      rotate_left
      · go_simp
        try with_reducible rfl
      simp only [Act.put, List.setIfInBounds_toArray, List.set_cons_zero, List.set_cons_succ]
      refine pl_take (d := some 23) (v := ?_) (by rfl) ?_ rfl ?_
      rotate_left
      · go_simp
        try with_reducible rfl
      simp only [Act.put, List.setIfInBounds_toArray, List.set_cons_zero, List.set_cons_succ]
      refine pl_take (d := some 24) (v := ?_) (by rfl) ?_ rfl ?_
      rotate_left
      · go_simp
        try with_reducible rfl
      simp only [Act.put, List.setIfInBounds_toArray, List.set_cons_zero, List.set_cons_succ]
      refine pl_take (d := some 25) (v := .bool true) (by rfl) (by go_simp) rfl ?_
      simp only [Act.put, List.setIfInBounds_toArray, List.set_cons_zero, List.set_cons_succ]
      refine pl_take (d := some 26) (v := ?_) (by rfl) ?_ rfl ?_
      rotate_left
      · go_simp
        try with_reducible rfl
      simp only [Act.put, List.setIfInBounds_toArray, List.set_cons_zero, List.set_cons_succ]
      refine pl_take (d := some 27) (v := ?_) (by rfl) ?_ rfl ?_
      rotate_left
      · go_simp
        try with_reducible rfl
      simp only [Act.put, List.setIfInBounds_toArray, List.set_cons_zero, List.set_cons_succ]
      refine pl_take (d := some 28) (v := .agg qx.toArray) (by rfl) (ex_mid rfl rfl rx1 Try.underlying30 rfl hix) rfl ?_
      simp only [Act.put, List.setIfInBounds_toArray, List.set_cons_zero, List.set_cons_succ]
      refine pl_take (d := some 29) (v := .agg qy.toArray) (by rfl) (ex_mid rfl rfl ry1 Try.underlying30 rfl hiy) rfl ?_
      simp only [Act.put, List.setIfInBounds_toArray, List.set_cons_zero, List.set_cons_succ]
      refine pl_call (d := some 30) (by rfl) (by go_simp; first | done | exact ⟨rfl, rfl⟩ | with_reducible rfl) rfl ?_
      refine (cS v1 xa1 ya1).mono ?_
      rintro _ v2 ⟨rfl, hb2⟩
      refine ⟨_, rfl, ?_⟩
      simp only [Act.put, List.setIfInBounds_toArray, List.set_cons_zero, List.set_cons_succ]
      have xa2 := xa1.below hb2
      have rx2 := range_below rx1 hb2 s1x
      have B2 := B1.trans (hb2.mono B1.size)
      refine pl_take (d := some 31) (v := ?_) (by rfl) ?_ rfl ?_
      rotate_left
      · go_simp
        try with_reducible rfl
      simp only [Act.put, List.setIfInBounds_toArray, List.set_cons_zero, List.set_cons_succ]
      refine pl_take (d := some 32) (v := ?_) (by rfl) ?_ rfl ?_
      rotate_left
      · go_simp
        try with_reducible rfl
      simp only [Act.put, List.setIfInBounds_toArray, List.set_cons_zero, List.set_cons_succ]
      refine pl_take (d := some 33) (v := .agg qx.toArray) (by rfl) (ex_mid rfl rfl rx2 Try.underlying30 rfl hix) rfl ?_
      simp only [Act.put, List.setIfInBounds_toArray, List.set_cons_zero, List.set_cons_succ]
      refine pl_call (d := some 34) (by rfl) (by go_simp; first | done | exact ⟨rfl, rfl⟩ | with_reducible rfl) rfl ?_
      refine (cB2 v2 xa2).mono ?_
      rintro _ v3 ⟨rfl, hb3⟩
      refine ⟨_, rfl, ?_⟩
      simp only [Act.put, List.setIfInBounds_toArray, List.set_cons_zero, List.set_cons_succ]
      have HB3 := hide (B2.trans (hb3.mono B2.size))
      refine pl_take (d := some 35) (v := .string ⟨#[1, 1, 1, 1, 0]⟩) (by rfl) (hsl _ rfl rfl) rfl ?_
      simp only [Act.put, List.setIfInBounds_toArray, List.set_cons_zero, List.set_cons_succ]
      refine pl_take (d := some 36) (v := .bool true) (by rfl) (by go_simp) rfl ?_
      simp only [Act.put, List.setIfInBounds_toArray, List.set_cons_zero, List.set_cons_succ]
      refine pl_take (d := some 37) (v := ?_) (by rfl) ?_ rfl ?_
      rotate_left
      · go_simp
        try with_reducible rfl
      simp only [Act.put, List.setIfInBounds_toArray, List.set_cons_zero, List.set_cons_succ]
      refine pl_take (d := some 0) (v := ?_) (by rfl) ?_ rfl ?_
      rotate_left
      · go_simp
        try with_reducible rfl
      simp only [Act.put, List.setIfInBounds_toArray, List.set_cons_zero, List.set_cons_succ]
      refine pl_nil ?_
      clear B2 rx2 xa2 hb2 hb3 xa1 ya1 rx1 ry1 s1x B1 kx hb1 cG cS cB2 xa9 rc9 rx9 B9 s9c s9x ryX yaF
      go_wp2_with fail
      go_ret
      exact ⟨rfl, HB3.out⟩
    · obtain ⟨X, HX⟩ : ∃ x, Hid (wa.heap.size = x) := ⟨_, hide rfl⟩
      have hXw : w8.heap.size ≤ X := by have := hS.size; have := HX.out; omega
      have hb_wb : Below wa.heap.size wa (wa.alloc (.cells zc.toArray 30)) := (Below.refl _ _).alloc (Nat.le_refl _) _
      have tn : (wa.alloc (.cells zc.toArray 30)).there X 0 37 := by rw [← HX.out]; exact there_newN wa zc.toArray 30 (n := 37) (by simp [hzl])
      have ln : X < (wa.alloc (.cells zc.toArray 30)).heap.size := by rw [← HX.out]; exact (boxed_new wa zc 30).2.2
      have hS' : (Below w8.heap.size w8) (wa.alloc (.cells zc.toArray 30)) := hS.trans (hb_wb.mono hS.size)
      refine st_run (i := 7) (d := some 3) (v := .pointer (some ⟨X, 0, none⟩)) (w' := wa.alloc (.cells zc.toArray 30)) rfl (by rfl) (by rw [← HX.out]; exact ex_alloc rfl (hzr _)) rfl hS' ?_
      simp only [Act.put, List.setIfInBounds_toArray, List.set_cons_zero, List.set_cons_succ]
      obtain ⟨wb, h_wb⟩ : ∃ W, wa.alloc (.cells zc.toArray 30) = W := ⟨_, rfl⟩
      rw [h_wb] at hb_wb tn ln hS' ⊢
      clear h_wb
      have hS : (Below w8.heap.size w8) wb := hS'
      clear hS'
      have ln0 := ln
      refine hs_call (i := 3) (d := some 12) rfl (by kernel_rfl) (by rfl) (by go_simp; first | done | exact ⟨rfl, rfl⟩ | with_reducible rfl) rfl ?_
      refine (cP wb).mono ?_
      rintro _ wc ⟨y, rfl, ys, yo, ya, yl, hb_wc⟩
      have hS : (Below w8.heap.size w8) wc := hS.trans (hb_wc.mono hS.size)
      refine ⟨_, rfl, hS, ?_⟩
      simp only [Act.put, List.setIfInBounds_toArray, List.set_cons_zero, List.set_cons_succ]
      have tn := there_below tn hb_wc ln
      have ln := Nat.lt_of_lt_of_le ln hb_wc.size
      refine hs_take (i := 4) (d := some 8) (v := ?_) rfl (by kernel_rfl) (by kernel_rfl) (by kernel_rfl) (by rfl) ?_ hS rfl ?_
      rotate_left
      · intro w' hw
        go_simp
        try with_reducible rfl
      simp only [Act.put, List.setIfInBounds_toArray, List.set_cons_zero, List.set_cons_succ]
      refine hs_take (i := 5) (d := some 13) (v := ?_) rfl (by kernel_rfl) (by kernel_rfl) (by kernel_rfl) (by rfl) ?_ hS rfl ?_
      rotate_left
      · intro w' hw
        go_simp
        try with_reducible rfl
      simp only [Act.put, List.setIfInBounds_toArray, List.set_cons_zero, List.set_cons_succ]
      refine hs_take (i := 6) (d := some 14) (v := ?_) rfl (by kernel_rfl) (by kernel_rfl) (by kernel_rfl) (by rfl) ?_ hS rfl ?_
      rotate_left
      · intro w' hw
        go_simp
        try with_reducible rfl
      simp only [Act.put, List.setIfInBounds_toArray, List.set_cons_zero, List.set_cons_succ]
      have yaF : ∀ q, y.At (wc.setCells X 0 q) := fun q => ya.put yl ln0
      have hyl : y.cells.length = 37 := Stt.len yo
      have hy1 := Stt.one y
      have hiy : (Try.prog.info? 30).map (·.size) = some y.cells.length := by rw [hyl]; exact iszSt
      obtain ⟨qy, hqy⟩ : ∃ q, Hid (y.cells = q) := ⟨_, hide rfl⟩
      rw [hqy.out] at hyl hy1 hiy
      simp only [hqy.out]
      have hS2 : (Below w8.heap.size w8) (wc.setCells X 0 qy) := below_sets hXw qy 0 _ hS
      have ryX : (wc.setCells X 0 qy).rangeAt X 0 qy := World.rangeAt_setCells_same wc X 0 qy (by rw [hyl]; exact tn)
      have yaF := yaF qy
      refine hs_store (i := 8) (w' := wc.setCells X 0 qy) rfl (by kernel_rfl) (by rfl) (ex_put (cs := qy.toArray) rfl rfl rfl (by simpa [hyl] using tn) (by simpa using hiy) (all_one hy1)) rfl hS2 ?_
      obtain ⟨w9, hw9⟩ : ∃ W, wc.setCells X 0 qy = W := ⟨_, rfl⟩
      have sX9 : X < w9.heap.size := by rw [← hw9, size_sets]; exact ln
      rw [hw9] at hS2 ryX yaF ⊢
      have hS : (Below w8.heap.size w8) w9 := hS2
      refine hs_take (i := 9) (d := some 4) (v := ?_) rfl (by kernel_rfl) (by kernel_rfl) (by kernel_rfl) (by rfl) ?_ hS rfl ?_
      rotate_left
      · intro w' hw
        go_simp
        try with_reducible rfl
      simp only [Act.put, List.setIfInBounds_toArray, List.set_cons_zero, List.set_cons_succ]
      refine hs_done (by kernel_rfl) ?_
      have xa9 := xa8.below hS
      have rc9 := range_below r8c hS s8c
      have rx9 := range_below r8x hS s8x
      have B9 := B8.trans (hS.mono B8.size)
      have s9c := Nat.lt_of_lt_of_le s8c hS.size
      have s9x := Nat.lt_of_lt_of_le s8x hS.size
      have cS := fun w0 h1 h2 => cS0 y w0 yo ys h1 h2
      simp only [hqy.out] at cS
      clear cS0
      clear hS2 hS hXw tn ln r8c r8x xa8 B8 s8c s8x yl ya cB cP hw9
      go_upto_region 4 with fail
      try simp only [Act.put]
      refine pl_begin ?_
      refine pl_take (d := some 15) (v := .agg u.toArray) (by rfl) (ex_mid rfl rfl rc9 Try.underlying23 rfl iu) rfl ?_
      simp only [Act.put, List.setIfInBounds_toArray, List.set_cons_zero, List.set_cons_succ]
      refine pl_take (d := some 16) (v := .agg qx.toArray) (by rfl) (ex_mid rfl rfl rx9 Try.underlying30 rfl hix) rfl ?_
      simp only [Act.put, List.setIfInBounds_toArray, List.set_cons_zero, List.set_cons_succ]
      refine pl_call (d := some 17) (by rfl) (by go_simp; first | done | exact ⟨rfl, rfl⟩ | with_reducible rfl) rfl ?_
      refine (cG w9 xa9).mono ?_
      rintro _ v1 ⟨rfl, hb1⟩
      refine ⟨_, rfl, ?_⟩
      simp only [Act.put, List.setIfInBounds_toArray, List.set_cons_zero, List.set_cons_succ]
      have kx := (range_below rx9 hb1 s9x) 1 _ kx1
      have xa1 := xa9.below hb1
      have ya1 := yaF.below hb1
      have rx1 := range_below rx9 hb1 s9x
      have ry1 := range_below ryX hb1 sX9
      have s1x := Nat.lt_of_lt_of_le s9x hb1.size
      have B1 := B9.trans (hb1.mono B9.size)
      refine pl_take (d := some 18) (v := ?_) (by rfl) ?_ rfl ?_
      rotate_left
      · go_simp
        try with_reducible rfl
      simp only [Act.put, List.setIfInBounds_toArray, List.set_cons_zero, List.set_cons_succ]
      refine pl_take (d := some 19) (v := ?_) (by rfl) ?_ rfl ?_
      rotate_left
      · go_simp
        try with_reducible rfl
      simp only [Act.put, List.setIfInBounds_toArray, List.set_cons_zero, List.set_cons_succ]
      refine pl_take (d := some 20) (v := .int .i64 1) (by rfl) (pl_one rfl rfl kx Try.underlying3 rfl) rfl ?_
      simp only [Act.put, List.setIfInBounds_toArray, List.set_cons_zero, List.set_cons_succ]
      refine pl_take (d := some 21) (v := .bool true) (by rfl) (by go_simp) rfl ?_
      simp only [Act.put, List.setIfInBounds_toArray, List.set_cons_zero, List.set_cons_succ]
      refine pl_take (d := some 22) (v := ?_) (by rfl) ?_ rfl ?_
      rotate_left
      · go_simp
        try with_reducible rfl
      simp only [Act.put, List.setIfInBounds_toArray, List.set_cons_zero, List.set_cons_succ]
      refine pl_take (d := some 23) (v := ?_) (by rfl) ?_ rfl ?_
      rotate_left
      · go_simp
        try with_reducible rfl
      simp only [Act.put, List.setIfInBounds_toArray, List.set_cons_zero, List.set_cons_succ]
      refine pl_take (d := some 24) (v := ?_) (by rfl) ?_ rfl ?_
      rotate_left
      · go_simp
        try with_reducible rfl
      simp only [Act.put, List.setIfInBounds_toArray, List.set_cons_zero, List.set_cons_succ]
      refine pl_take (d := some 25) (v := .bool true) (by rfl) (by go_simp) rfl ?_
      simp only [Act.put, List.setIfInBounds_toArray, List.set_cons_zero, List.set_cons_succ]
      refine pl_take (d := some 26) (v := ?_) (by rfl) ?_ rfl ?_
      rotate_left
      · go_simp
        try with_reducible rfl
      simp only [Act.put, List.setIfInBounds_toArray, List.set_cons_zero, List.set_cons_succ]
      refine pl_take (d := some 27) (v := ?_) (by rfl) ?_ rfl ?_
      rotate_left
      · go_simp
        try with_reducible rfl
      simp only [Act.put, List.setIfInBounds_toArray, List.set_cons_zero, List.set_cons_succ]
      refine pl_take (d := some 28) (v := .agg qx.toArray) (by rfl) (ex_mid rfl rfl rx1 Try.underlying30 rfl hix) rfl ?_
      simp only [Act.put, List.setIfInBounds_toArray, List.set_cons_zero, List.set_cons_succ]
      refine pl_take (d := some 29) (v := .agg qy.toArray) (by rfl) (ex_mid rfl rfl ry1 Try.underlying30 rfl hiy) rfl ?_
      simp only [Act.put, List.setIfInBounds_toArray, List.set_cons_zero, List.set_cons_succ]
      refine pl_call (d := some 30) (by rfl) (by go_simp; first | done | exact ⟨rfl, rfl⟩ | with_reducible rfl) rfl ?_
      refine (cS v1 xa1 ya1).mono ?_
      rintro _ v2 ⟨rfl, hb2⟩
      refine ⟨_, rfl, ?_⟩
      simp only [Act.put, List.setIfInBounds_toArray, List.set_cons_zero, List.set_cons_succ]
      have xa2 := xa1.below hb2
      have rx2 := range_below rx1 hb2 s1x
      have B2 := B1.trans (hb2.mono B1.size)
      refine pl_take (d := some 31) (v := ?_) (by rfl) ?_ rfl ?_
      rotate_left
      · go_simp
        try with_reducible rfl
      simp only [Act.put, List.setIfInBounds_toArray, List.set_cons_zero, List.set_cons_succ]
      refine pl_take (d := some 32) (v := ?_) (by rfl) ?_ rfl ?_
      rotate_left
      · go_simp
        try with_reducible rfl
      simp only [Act.put, List.setIfInBounds_toArray, List.set_cons_zero, List.set_cons_succ]
      refine pl_take (d := some 33) (v := .agg qx.toArray) (by rfl) (ex_mid rfl rfl rx2 Try.underlying30 rfl hix) rfl ?_
      simp only [Act.put, List.setIfInBounds_toArray, List.set_cons_zero, List.set_cons_succ]
      refine pl_call (d := some 34) (by rfl) (by go_simp; first | done | exact ⟨rfl, rfl⟩ | with_reducible rfl) rfl ?_
      refine (cB2 v2 xa2).mono ?_
      rintro _ v3 ⟨rfl, hb3⟩
      refine ⟨_, rfl, ?_⟩
      simp only [Act.put, List.setIfInBounds_toArray, List.set_cons_zero, List.set_cons_succ]
      have HB3 := hide (B2.trans (hb3.mono B2.size))
      refine pl_take (d := some 35) (v := .string ⟨#[1, 1, 1, 1, 0]⟩) (by rfl) (hsl _ rfl rfl) rfl ?_
      simp only [Act.put, List.setIfInBounds_toArray, List.set_cons_zero, List.set_cons_succ]
      refine pl_take (d := some 36) (v := .bool true) (by rfl) (by go_simp) rfl ?_
      simp only [Act.put, List.setIfInBounds_toArray, List.set_cons_zero, List.set_cons_succ]
      refine pl_take (d := some 37) (v := ?_) (by rfl) ?_ rfl ?_
      rotate_left
      · go_simp
        try with_reducible rfl
      simp only [Act.put, List.setIfInBounds_toArray, List.set_cons_zero, List.set_cons_succ]
      refine pl_take (d := some 0) (v := ?_) (by rfl) ?_ rfl ?_
      rotate_left
      · go_simp
        try with_reducible rfl
      simp only [Act.put, List.setIfInBounds_toArray, List.set_cons_zero, List.set_cons_succ]
      refine pl_nil ?_
      clear B2 rx2 xa2 hb2 hb3 xa1 ya1 rx1 ry1 s1x B1 kx hb1 cG cS cB2 xa9 rc9 rx9 B9 s9c s9x ryX yaF
      go_wp2_with fail
      go_ret
      exact ⟨rfl, HB3.out⟩
  · obtain ⟨X, HX⟩ : ∃ x, Hid (w8.heap.size = x) := ⟨_, hide rfl⟩
    have hXw : w8.heap.size ≤ X := by have := hS.size; have := HX.out; omega
    have hb_wa : Below w8.heap.size w8 (w8.alloc (.cells zc.toArray 30)) := (Below.refl _ _).alloc (Nat.le_refl _) _
    have tn : (w8.alloc (.cells zc.toArray 30)).there X 0 37 := by rw [← HX.out]; exact there_newN w8 zc.toArray 30 (n := 37) (by simp [hzl])
    have ln : X < (w8.alloc (.cells zc.toArray 30)).heap.size := by rw [← HX.out]; exact (boxed_new w8 zc 30).2.2
    have hS' : (Below w8.heap.size w8) (w8.alloc (.cells zc.toArray 30)) := hS.trans (hb_wa.mono hS.size)
    refine st_run (i := 7) (d := some 3) (v := .pointer (some ⟨X, 0, none⟩)) (w' := w8.alloc (.cells zc.toArray 30)) rfl (by rfl) (by rw [← HX.out]; exact ex_alloc rfl (hzr _)) rfl hS' ?_
    simp only [Act.put, List.setIfInBounds_toArray, List.set_cons_zero, List.set_cons_succ]
    obtain ⟨wa, h_wa⟩ : ∃ W, w8.alloc (.cells zc.toArray 30) = W := ⟨_, rfl⟩
    rw [h_wa] at hb_wa tn ln hS' ⊢
    clear h_wa
    have hS : (Below w8.heap.size w8) wa := hS'
    clear hS'
    refine hs_call (i := 2) (d := some 11) rfl (by kernel_rfl) (by rfl) (by go_simp; first | done | exact ⟨rfl, rfl⟩ | with_reducible rfl) rfl ?_
    refine (cB wa hS).mono ?_
    rintro _ wb ⟨rfl, hb_wb⟩
    have hS : (Below w8.heap.size w8) wb := hS.trans (hb_wb.mono hS.size)
    refine ⟨_, rfl, hS, ?_⟩
    simp only [Act.put, List.setIfInBounds_toArray, List.set_cons_zero, List.set_cons_succ]
    have tn := there_below tn hb_wb ln
    have ln := Nat.lt_of_lt_of_le ln hb_wb.size
    have ln0 := ln
    refine hs_call (i := 3) (d := some 12) rfl (by kernel_rfl) (by rfl) (by go_simp; first | done | exact ⟨rfl, rfl⟩ | with_reducible rfl) rfl ?_
    refine (cP wb).mono ?_
    rintro _ wc ⟨y, rfl, ys, yo, ya, yl, hb_wc⟩
    have hS : (Below w8.heap.size w8) wc := hS.trans (hb_wc.mono hS.size)
    refine ⟨_, rfl, hS, ?_⟩
    simp only [Act.put, List.setIfInBounds_toArray, List.set_cons_zero, List.set_cons_succ]
    have tn := there_below tn hb_wc ln
    have ln := Nat.lt_of_lt_of_le ln hb_wc.size
    refine hs_take (i := 4) (d := some 8) (v := ?_) rfl (by kernel_rfl) (by kernel_rfl) (by kernel_rfl) (by rfl) ?_ hS rfl ?_
    rotate_left
    · intro w' hw
      go_simp
      try with_reducible rfl
    simp only [Act.put, List.setIfInBounds_toArray, List.set_cons_zero, List.set_cons_succ]
    refine hs_take (i := 5) (d := some 13) (v := ?_) rfl (by kernel_rfl) (by kernel_rfl) (by kernel_rfl) (by rfl) ?_ hS rfl ?_
    rotate_left
    · intro w' hw
      go_simp
      try with_reducible rfl
    simp only [Act.put, List.setIfInBounds_toArray, List.set_cons_zero, List.set_cons_succ]
    refine hs_take (i := 6) (d := some 14) (v := ?_) rfl (by kernel_rfl) (by kernel_rfl) (by kernel_rfl) (by rfl) ?_ hS rfl ?_
    rotate_left
    · intro w' hw
      go_simp
      try with_reducible rfl
    simp only [Act.put, List.setIfInBounds_toArray, List.set_cons_zero, List.set_cons_succ]
    have yaF : ∀ q, y.At (wc.setCells X 0 q) := fun q => ya.put yl ln0
    have hyl : y.cells.length = 37 := Stt.len yo
    have hy1 := Stt.one y
    have hiy : (Try.prog.info? 30).map (·.size) = some y.cells.length := by rw [hyl]; exact iszSt
    obtain ⟨qy, hqy⟩ : ∃ q, Hid (y.cells = q) := ⟨_, hide rfl⟩
    rw [hqy.out] at hyl hy1 hiy
    simp only [hqy.out]
    have hS2 : (Below w8.heap.size w8) (wc.setCells X 0 qy) := below_sets hXw qy 0 _ hS
    have ryX : (wc.setCells X 0 qy).rangeAt X 0 qy := World.rangeAt_setCells_same wc X 0 qy (by rw [hyl]; exact tn)
    have yaF := yaF qy
    refine hs_store (i := 8) (w' := wc.setCells X 0 qy) rfl (by kernel_rfl) (by rfl) (ex_put (cs := qy.toArray) rfl rfl rfl (by simpa [hyl] using tn) (by simpa using hiy) (all_one hy1)) rfl hS2 ?_
    obtain ⟨w9, hw9⟩ : ∃ W, wc.setCells X 0 qy = W := ⟨_, rfl⟩
    have sX9 : X < w9.heap.size := by rw [← hw9, size_sets]; exact ln
    rw [hw9] at hS2 ryX yaF ⊢
    have hS : (Below w8.heap.size w8) w9 := hS2
    refine hs_take (i := 9) (d := some 4) (v := ?_) rfl (by kernel_rfl) (by kernel_rfl) (by kernel_rfl) (by rfl) ?_ hS rfl ?_
    rotate_left
    · intro w' hw
      go_simp
      try with_reducible rfl
    simp only [Act.put, List.setIfInBounds_toArray, List.set_cons_zero, List.set_cons_succ]
    refine hs_done (by kernel_rfl) ?_
    have xa9 := xa8.below hS
    have rc9 := range_below r8c hS s8c
    have rx9 := range_below r8x hS s8x
    have B9 := B8.trans (hS.mono B8.size)
    have s9c := Nat.lt_of_lt_of_le s8c hS.size
    have s9x := Nat.lt_of_lt_of_le s8x hS.size
    have cS := fun w0 h1 h2 => cS0 y w0 yo ys h1 h2
    simp only [hqy.out] at cS
    clear cS0
    clear hS2 hS hXw tn ln r8c r8x xa8 B8 s8c s8x yl ya cB cP hw9
    go_upto_region 4 with fail
    try simp only [Act.put]
    refine pl_begin ?_
    refine pl_take (d := some 15) (v := .agg u.toArray) (by rfl) (ex_mid rfl rfl rc9 Try.underlying23 rfl iu) rfl ?_
    simp only [Act.put, List.setIfInBounds_toArray, List.set_cons_zero, List.set_cons_succ]
    refine pl_take (d := some 16) (v := .agg qx.toArray) (by rfl) (ex_mid rfl rfl rx9 Try.underlying30 rfl hix) rfl ?_
    simp only [Act.put, List.setIfInBounds_toArray, List.set_cons_zero, List.set_cons_succ]
    refine pl_call (d := some 17) (by rfl) (by go_simp; first | done | exact ⟨rfl, rfl⟩ | with_reducible rfl) rfl ?_
    refine (cG w9 xa9).mono ?_
    rintro _ v1 ⟨rfl, hb1⟩
    refine ⟨_, rfl, ?_⟩
    simp only [Act.put, List.setIfInBounds_toArray, List.set_cons_zero, List.set_cons_succ]
    have kx := (range_below rx9 hb1 s9x) 1 _ kx1
    have xa1 := xa9.below hb1
    have ya1 := yaF.below hb1
    have rx1 := range_below rx9 hb1 s9x
    have ry1 := range_below ryX hb1 sX9
    have s1x := Nat.lt_of_lt_of_le s9x hb1.size
    have B1 := B9.trans (hb1.mono B9.size)
    refine pl_take (d := some 18) (v := ?_) (by rfl) ?_ rfl ?_
    rotate_left
    · go_simp
      try with_reducible rfl
    simp only [Act.put, List.setIfInBounds_toArray, List.set_cons_zero, List.set_cons_succ]
    refine pl_take (d := some 19) (v := ?_) (by rfl) ?_ rfl ?_
    rotate_left
    · go_simp
      try with_reducible rfl
    simp only [Act.put, List.setIfInBounds_toArray, List.set_cons_zero, List.set_cons_succ]
    refine pl_take (d := some 20) (v := .int .i64 1) (by rfl) (pl_one rfl rfl kx Try.underlying3 rfl) rfl ?_
    simp only [Act.put, List.setIfInBounds_toArray, List.set_cons_zero, List.set_cons_succ]
    refine pl_take (d := some 21) (v := .bool true) (by rfl) (by go_simp) rfl ?_
    simp only [Act.put, List.setIfInBounds_toArray, List.set_cons_zero, List.set_cons_succ]
    refine pl_take (d := some 22) (v := ?_) (by rfl) ?_ rfl ?_
    rotate_left
    · go_simp
      try with_reducible rfl
    simp only [Act.put, List.setIfInBounds_toArray, List.set_cons_zero, List.set_cons_succ]
    refine pl_take (d := some 23) (v := ?_) (by rfl) ?_ rfl ?_
    rotate_left
    · go_simp
      try with_reducible rfl
    simp only [Act.put, List.setIfInBounds_toArray, List.set_cons_zero, List.set_cons_succ]
    refine pl_take (d := some 24) (v := ?_) (by rfl) ?_ rfl ?_
    rotate_left
    · go_simp
      try with_reducible rfl
    simp only [Act.put, List.setIfInBounds_toArray, List.set_cons_zero, List.set_cons_succ]
    refine pl_take (d := some 25) (v := .bool true) (by rfl) (by go_simp) rfl ?_
    simp only [Act.put, List.setIfInBounds_toArray, List.set_cons_zero, List.set_cons_succ]
    refine pl_take (d := some 26) (v := ?_) (by rfl) ?_ rfl ?_
    rotate_left
    · go_simp
      try with_reducible rfl
    simp only [Act.put, List.setIfInBounds_toArray, List.set_cons_zero, List.set_cons_succ]
    refine pl_take (d := some 27) (v := ?_) (by rfl) ?_ rfl ?_
    rotate_left
    · go_simp
      try with_reducible rfl
    simp only [Act.put, List.setIfInBounds_toArray, List.set_cons_zero, List.set_cons_succ]
    refine pl_take (d := some 28) (v := .agg qx.toArray) (by rfl) (ex_mid rfl rfl rx1 Try.underlying30 rfl hix) rfl ?_
    simp only [Act.put, List.setIfInBounds_toArray, List.set_cons_zero, List.set_cons_succ]
    refine pl_take (d := some 29) (v := .agg qy.toArray) (by rfl) (ex_mid rfl rfl ry1 Try.underlying30 rfl hiy) rfl ?_
    simp only [Act.put, List.setIfInBounds_toArray, List.set_cons_zero, List.set_cons_succ]
    refine pl_call (d := some 30) (by rfl) (by go_simp; first | done | exact ⟨rfl, rfl⟩ | with_reducible rfl) rfl ?_
    refine (cS v1 xa1 ya1).mono ?_
    rintro _ v2 ⟨rfl, hb2⟩
    refine ⟨_, rfl, ?_⟩
    simp only [Act.put, List.setIfInBounds_toArray, List.set_cons_zero, List.set_cons_succ]
    have xa2 := xa1.below hb2
    have rx2 := range_below rx1 hb2 s1x
    have B2 := B1.trans (hb2.mono B1.size)
    refine pl_take (d := some 31) (v := ?_) (by rfl) ?_ rfl ?_
    rotate_left
    · go_simp
      try with_reducible rfl
    simp only [Act.put, List.setIfInBounds_toArray, List.set_cons_zero, List.set_cons_succ]
    refine pl_take (d := some 32) (v := ?_) (by rfl) ?_ rfl ?_
    rotate_left
    · go_simp
      try with_reducible rfl
    simp only [Act.put, List.setIfInBounds_toArray, List.set_cons_zero, List.set_cons_succ]
    refine pl_take (d := some 33) (v := .agg qx.toArray) (by rfl) (ex_mid rfl rfl rx2 Try.underlying30 rfl hix) rfl ?_
    simp only [Act.put, List.setIfInBounds_toArray, List.set_cons_zero, List.set_cons_succ]
    refine pl_call (d := some 34) (by rfl) (by go_simp; first | done | exact ⟨rfl, rfl⟩ | with_reducible rfl) rfl ?_
    refine (cB2 v2 xa2).mono ?_
    rintro _ v3 ⟨rfl, hb3⟩
    refine ⟨_, rfl, ?_⟩
    simp only [Act.put, List.setIfInBounds_toArray, List.set_cons_zero, List.set_cons_succ]
    have HB3 := hide (B2.trans (hb3.mono B2.size))
    refine pl_take (d := some 35) (v := .string ⟨#[1, 1, 1, 1, 0]⟩) (by rfl) (hsl _ rfl rfl) rfl ?_
    simp only [Act.put, List.setIfInBounds_toArray, List.set_cons_zero, List.set_cons_succ]
    refine pl_take (d := some 36) (v := .bool true) (by rfl) (by go_simp) rfl ?_
    simp only [Act.put, List.setIfInBounds_toArray, List.set_cons_zero, List.set_cons_succ]
    refine pl_take (d := some 37) (v := ?_) (by rfl) ?_ rfl ?_
    rotate_left
    · go_simp
      try with_reducible rfl
    simp only [Act.put, List.setIfInBounds_toArray, List.set_cons_zero, List.set_cons_succ]
    refine pl_take (d := some 0) (v := ?_) (by rfl) ?_ rfl ?_
    rotate_left
    · go_simp
      try with_reducible rfl
    simp only [Act.put, List.setIfInBounds_toArray, List.set_cons_zero, List.set_cons_succ]
    refine pl_nil ?_
    clear B2 rx2 xa2 hb2 hb3 xa1 ya1 rx1 ry1 s1x B1 kx hb1 cG cS cB2 xa9 rc9 rx9 B9 s9c s9x ryX yaF
    go_wp2_with fail
    go_ret
    exact ⟨rfl, HB3.out⟩
end Go.Proofs.Ytaaifcpanflejaa
namespace Go.Proofs.Ytaaifcpanflejaa
open Go.RowKit
open Sha Tal
set_option linter.unusedVariables false
set_option linter.unusedSimpArgs false
theorem RSt.belowN {D n : Nat} {w w' : World} {X : Nat} {rest : List Int} {e : Int} (h : RSt D w X rest e) (hb : Below n w w') (hn : X < n) : RSt D w' X rest e := by
  obtain ⟨zs, p, ⟨hX, ⟨a, cap, c0, hc, hm, hr, hbb⟩, c1, c2, f0, f1, f2, hp, hl⟩, hd⟩ := h
  have k := hb.block X hn
  refine ⟨zs, p, ⟨Nat.lt_of_lt_of_le hX hb.size, ⟨a, cap, (cell_block k).1.trans c0, hc, hm, ⟨hr.1, hr.2.1, ?_⟩, hbb⟩, (cell_block k).1.trans c1, (cell_block k).1.trans c2, (cell_block k).2.trans f0, (cell_block k).2.trans f1, (cell_block k).2.trans f2, hp, hl⟩, hd⟩
  rcases hr.2.2 with q | ⟨b, off, e, h1, h2⟩
  · exact .inl q
  · have := (hbb _ e).2
    simp only at this
    exact .inr ⟨b, off, e, Nat.lt_of_lt_of_le h1 hb.size, range_blk h2 (hb.block b (by omega))⟩
theorem RowAt.put {w : World} {a : Option Addr} {zs : List Int} {B o : Nat} {vs : List Value} (h : RowAt w a zs) (hne : ∀ x, a = some x → x.block ≠ B) : RowAt (w.setCells B o vs) a zs := by
  refine ⟨h.1, h.2.1, ?_⟩
  rcases h.2.2 with q | ⟨b, off, e, h1, h2⟩
  · exact .inl q
  · exact .inr ⟨b, off, e, by rw [size_sets]; exact h1, range_blk h2 (blk_sets (hne _ e))⟩
/-- what is read lies in the block B -/
structure Xb (D : Nat) (w : World) (R B : Nat) (q : Rq0) (s : Rs) (W : World) : Prop where
  row : W.rangeAt B 0 q.cells
  box : W.there B 0 37
  gr : w.grownBy W (some R)
  st : RSt D W R s.1 s.2
  lb : B < W.heap.size
  ab : w.heap.size ≤ B
  lx : R < w.heap.size
  dl : q.d.length = 32
  db : ∀ z ∈ q.d, 0 ≤ z ∧ z < 256
  wo : W.ownsRow (B + 1) 57 2 q.wv q.ws.length (q.ws.flatMap WdE.f)
  po : W.ownsRow (B + 1) 3 1 q.pv q.ps.length (q.ps.flatMap PnE.f)
  ne : ∀ g, q.wv.ownBlock = some g → q.pv.ownBlock ≠ some g
  wk : ∀ y ∈ q.ws, Wd.ok y
  pk : ∀ z ∈ q.ps, PnOk z
theorem Xb.on {w W W' : World} {D R B : Nat} {q : Rq0} {s s' : Rs} (h : Xb D w R B q s W) (g : W.grownBy W' (some R)) (hs : RSt D W' R s'.1 s'.2) : Xb D w R B q s' W' := by
  obtain ⟨h1, h2, h4, h5, h6, h7, h8, h9, h10, h11, h12, h13, h14, h15⟩ := h
  exact ⟨range_gbR h1 g h6 (by omega), there_gbR h2 g h6 (by omega), gb_trans h4 g, hs, Nat.lt_of_lt_of_le h6 g.size, h7, h8, h9, h10, own_gb h11 g (by omega), own_gb h12 g (by omega), h13, h14, h15⟩
theorem Xb.below {w W W' : World} {D R B : Nat} {q : Rq0} {s : Rs} (h : Xb D w R B q s W) (hb : Below W.heap.size W W') : Xb D w R B q s W' := by
  obtain ⟨h1, h2, h4, h5, h6, h7, h8, h9, h10, h11, h12, h13, h14, h15⟩ := h
  exact ⟨range_below h1 hb h6, there_below h2 hb h6, gb_onR h4 hb h4.size, h5.below hb, Nat.lt_of_lt_of_le h6 hb.size, h7, h8, h9, h10, own_belowR h11 hb (Nat.le_refl _), own_belowR h12 hb (Nat.le_refl _), h13, h14, h15⟩
theorem Xb.put {w W : World} {D R B : Nat} {q q' : Rq0} {s : Rs} (h : Xb D w R B q s W) (hd : q'.d.length = 32) (hd2 : ∀ z ∈ q'.d, 0 ≤ z ∧ z < 256) (ew : q'.wv = q.wv) (ep : q'.pv = q.pv) (es : q'.ws = q.ws) (et : q'.ps = q.ps) (pre mid vs post : List Value) (e1 : q.cells = pre ++ (mid ++ post)) (e2 : q'.cells = pre ++ (vs ++ post)) (o : Nat) (ho : pre.length = o) (hl : vs.length = mid.length) (hn : o + vs.length ≤ 37) : Xb D w R B q' s (W.setCells B o vs) := by
  obtain ⟨h1, h2, h4, h5, h6, h7, h8, h9, h10, h11, h12, h13, h14, h15⟩ := h
  have hb : Below B W (W.setCells B o vs) := below_sets (Nat.le_refl _) vs o _ (Below.refl _ _)
  exact ⟨by rw [e2]; exact range_put (by rw [← e1]; exact h1) o ho (there_part1 h2 hn) hl, World.there_setCells h2 _ _ _, gb_onR h4 hb (by omega), h5.belowN hb (by omega), by rw [size_sets]; exact h6, h7, h8, hd, hd2, by rw [ew, es]; exact own_gb h11 (gb_setsR W B vs o) (by omega), by rw [ep, et]; exact own_gb h12 (gb_setsR W B vs o) (by omega), by rw [ew, ep]; exact h13, by rw [es]; exact h14, by rw [et]; exact h15⟩
theorem Xb.setE {w W : World} {D R B : Nat} {q : Rq0} {s : Rs} (h : Xb D w R B q s W) (x : Int) : Xb D w R B { q with e := x } s (W.setCells B 0 [.int .i64 x]) :=
  h.put (q' := { q with e := x }) h.dl h.db rfl rfl rfl rfl [] [.int .i64 q.e] [.int .i64 x] _ rfl rfl 0 rfl rfl (by simp)
theorem Xb.setN {w W : World} {D R B : Nat} {q : Rq0} {s : Rs} (h : Xb D w R B q s W) (x : Int) : Xb D w R B { q with n := x } s (W.setCells B 1 [.int .i64 x]) :=
  h.put (q' := { q with n := x }) h.dl h.db rfl rfl rfl rfl [.int .i64 q.e] [.int .i64 q.n] [.int .i64 x] _ rfl rfl 1 rfl rfl (by simp)
theorem Xb.setC {w W : World} {D R B : Nat} {q : Rq0} {s : Rs} (h : Xb D w R B q s W) (x : Int) : Xb D w R B { q with c := x } s (W.setCells B 2 [.int .i64 x]) :=
  h.put (q' := { q with c := x }) h.dl h.db rfl rfl rfl rfl [.int .i64 q.e, .int .i64 q.n] [.int .i64 q.c] [.int .i64 x] _ rfl rfl 2 rfl rfl (by simp)
theorem Xb.setD {w W : World} {D R B : Nat} {q : Rq0} {s : Rs} (h : Xb D w R B q s W) (x : List Int) (hl : x.length = 32) (hx : ∀ z ∈ x, 0 ≤ z ∧ z < 256) : Xb D w R B { q with d := x } s (W.setCells B 3 (v8 x)) :=
  h.put (q' := { q with d := x }) hl hx rfl rfl rfl rfl [.int .i64 q.e, .int .i64 q.n, .int .i64 q.c] (v8 q.d) (v8 x) _ rfl rfl 3 rfl (by rw [v8_length, v8_length, hl, h.dl]) (by rw [v8_length, hl]; decide)
/-- an appended row goes into its cell -/
theorem Xb.appW {w W W9 : World} {D R B : Nat} {q : Rq0} {s : Rs} {v9 : Value} {x : Wd} (h : Xb D w R B q s W) (hx : x.ok) (g9 : W.grownBy W9 q.wv.ownBlock) (o9 : W9.ownsRow (B + 1) 57 2 v9 (q.ws.length + 1) (q.ws.flatMap WdE.f ++ WdE.f x)) (gb : ∀ g, v9.ownBlock = some g → q.wv.ownBlock = some g ∨ W.heap.size ≤ g) : W9.there B 0 37 ∧ Xb D w R B { q with wv := v9, ws := q.ws ++ [x] } s (W9.setCells B 35 [v9]) := by
  obtain ⟨h1, h2, h4, h5, h6, h7, h8, h9, h10, h11, h12, h13, h14, h15⟩ := h
  have hb : Below (B + 1) W W9 := own_low (Below.refl _ _) (by omega) h11 g9
  have hb2 : Below B W9 (W9.setCells B 35 [v9]) := below_sets (Nat.le_refl _) [v9] 35 _ (Below.refl _ _)
  have nb : ∀ g, q.wv.ownBlock = some g → g ≠ B := fun g hg => by have := (h11.lt g hg).1; omega
  have blk : W9.heap[B]? = W.heap[B]? := hb.block B (by omega)
  have hz := hb.size
  have hpre : ([.int .i64 q.e, .int .i64 q.n, .int .i64 q.c] ++ v8 q.d : List Value).length = 35 := by rw [List.length_append, v8_length, h9]; rfl
  have e1 : q.cells = ([.int .i64 q.e, .int .i64 q.n, .int .i64 q.c] ++ v8 q.d) ++ ([q.wv] ++ [q.pv]) := by unfold Rq0.cells; simp
  have e2 : Rq0.cells { q with wv := v9, ws := q.ws ++ [x] } = ([.int .i64 q.e, .int .i64 q.n, .int .i64 q.c] ++ v8 q.d) ++ ([v9] ++ [q.pv]) := by unfold Rq0.cells; simp
  refine ⟨there_blk h2 blk, ?_, World.there_setCells (there_blk h2 blk) _ _ _, gb_onR (gb_onR h4 hb (by omega)) hb2 (by omega), (h5.belowN hb (by omega)).belowN hb2 (by omega), by rw [size_sets]; omega, h7, h8, h9, h10, ?_, ?_, ?_, ?_, h15⟩
  · rw [e2]
    exact range_put (mid := [q.wv]) (by rw [← e1]; exact range_blk h1 blk) 35 hpre (there_part1 (there_blk h2 blk) (by simp)) rfl
  · have : W9.ownsRow (B + 1) 57 2 v9 (q.ws ++ [x]).length ((q.ws ++ [x]).flatMap WdE.f) := by rw [List.flatMap_append, List.length_append]; simpa using o9
    exact own_gb this (gb_setsR W9 B [v9] 35) (by omega)
  · refine own_gb (h12.kept g9 ?_) (gb_setsR W9 B [v9] 35) (by omega)
    cases hv : q.pv.ownBlock with
    | none => exact .inl rfl
    | some g => exact .inr (fun e => h13 g e.symm hv)
  · intro g hg hp
    rcases gb g hg with e | e
    · exact h13 g e hp
    · have := (h12.lt g hp).2; omega
  · intro y hy
    rcases List.mem_append.1 hy with g | g
    · exact h14 y g
    · rw [List.mem_singleton.1 g]; exact hx
theorem Xb.appP {w W W9 : World} {D R B : Nat} {q : Rq0} {s : Rs} {v9 : Value} {x : Int} (h : Xb D w R B q s W) (hx : PnOk x) (g9 : W.grownBy W9 q.pv.ownBlock) (o9 : W9.ownsRow (B + 1) 3 1 v9 (q.ps.length + 1) (q.ps.flatMap PnE.f ++ PnE.f x)) (gb : ∀ g, v9.ownBlock = some g → q.pv.ownBlock = some g ∨ W.heap.size ≤ g) : W9.there B 0 37 ∧ Xb D w R B { q with pv := v9, ps := q.ps ++ [x] } s (W9.setCells B 36 [v9]) := by
  obtain ⟨h1, h2, h4, h5, h6, h7, h8, h9, h10, h11, h12, h13, h14, h15⟩ := h
  have hb : Below (B + 1) W W9 := own_low (Below.refl _ _) (by omega) h12 g9
  have hb2 : Below B W9 (W9.setCells B 36 [v9]) := below_sets (Nat.le_refl _) [v9] 36 _ (Below.refl _ _)
  have blk : W9.heap[B]? = W.heap[B]? := hb.block B (by omega)
  have hz := hb.size
  have hpre : ([.int .i64 q.e, .int .i64 q.n, .int .i64 q.c] ++ (v8 q.d ++ [q.wv]) : List Value).length = 36 := by rw [List.length_append, List.length_append, v8_length, h9]; rfl
  have e1 : q.cells = ([.int .i64 q.e, .int .i64 q.n, .int .i64 q.c] ++ (v8 q.d ++ [q.wv])) ++ ([q.pv] ++ []) := by unfold Rq0.cells; simp
  have e2 : Rq0.cells { q with pv := v9, ps := q.ps ++ [x] } = ([.int .i64 q.e, .int .i64 q.n, .int .i64 q.c] ++ (v8 q.d ++ [q.wv])) ++ ([v9] ++ []) := by unfold Rq0.cells; simp
  refine ⟨there_blk h2 blk, ?_, World.there_setCells (there_blk h2 blk) _ _ _, gb_onR (gb_onR h4 hb (by omega)) hb2 (by omega), (h5.belowN hb (by omega)).belowN hb2 (by omega), by rw [size_sets]; omega, h7, h8, h9, h10, ?_, ?_, ?_, h14, ?_⟩
  · rw [e2]
    exact range_put (mid := [q.pv]) (by rw [← e1]; exact range_blk h1 blk) 36 hpre (there_part1 (there_blk h2 blk) (by simp)) rfl
  · refine own_gb (h11.kept g9 ?_) (gb_setsR W9 B [v9] 36) (by omega)
    cases hv : q.wv.ownBlock with
    | none => exact .inl rfl
    | some g => exact .inr (fun e => h13 g hv e.symm)
  · have : W9.ownsRow (B + 1) 3 1 v9 (q.ps ++ [x]).length ((q.ps ++ [x]).flatMap PnE.f) := by rw [List.flatMap_append, List.length_append]; simpa using o9
    exact own_gb this (gb_setsR W9 B [v9] 36) (by omega)
  · intro g hg hp
    rcases gb g hp with e | e
    · exact h13 g hg e
    · have := (h11.lt g hg).2; omega
  · intro y hy
    rcases List.mem_append.1 hy with g | g
    · exact h15 y g
    · rw [List.mem_singleton.1 g]; exact hx
theorem Xb.cw {w W : World} {D R B : Nat} {q : Rq0} {s : Rs} (h : Xb D w R B q s W) : W.cell? ⟨B, 35, none⟩ = some q.wv := by
  have h1 := h.row
  unfold Rq0.cells at h1
  have h2 := range_right (range_right h1)
  rw [v8_length, h.dl] at h2
  exact h2 0 _ rfl
theorem Xb.cp {w W : World} {D R B : Nat} {q : Rq0} {s : Rs} (h : Xb D w R B q s W) : W.cell? ⟨B, 36, none⟩ = some q.pv := by
  have h1 := h.row
  unfold Rq0.cells at h1
  have h2 := range_right (range_right h1)
  rw [v8_length, h.dl] at h2
  exact h2 1 _ rfl
/-- the chain so far -/
def padk (d : List Int) (k : Nat) : List Int := d.take k ++ List.replicate (32 - k) 0
theorem padk_len {d : List Int} {k : Nat} (hk : k ≤ 32) (hd : k ≤ d.length) : (padk d k).length = 32 := by
  unfold padk
  rw [List.length_append, List.length_take, List.length_replicate]
  omega
theorem Xb.byte {w W : World} {D R B : Nat} {e n c : Int} {d : List Int} {wv pv : Value} {ws : List Wd} {ps : List Int} {s : Rs} {k : Nat} (h : Xb D w R B ⟨e, n, c, padk d k, wv, pv, ws, ps⟩ s W) (hk : k < 32) (hd : k < d.length) (hz : 0 ≤ d[k] ∧ d[k] < 256) : Xb D w R B ⟨e, n, c, padk d (k + 1), wv, pv, ws, ps⟩ s (W.setCells B (3 + k) [.int .u8 d[k]]) := by
  have e1 : padk d k = d.take k ++ (0 :: List.replicate (32 - (k + 1)) 0) := by
    unfold padk
    rw [show 32 - k = (32 - (k + 1)) + 1 by omega, List.replicate_succ]
  have e2 : padk d (k + 1) = d.take k ++ (d[k] :: List.replicate (32 - (k + 1)) 0) := by
    unfold padk
    rw [List.take_succ_eq_append_getElem hd, List.append_assoc]
    rfl
  have ht : (d.take k).length = k := by rw [List.length_take]; omega
  have hb := h.db
  refine h.put (q' := ⟨e, n, c, padk d (k + 1), wv, pv, ws, ps⟩) (padk_len (by omega) (by omega)) ?_ rfl rfl rfl rfl ([.int .i64 e, .int .i64 n, .int .i64 c] ++ v8 (d.take k)) [.int .u8 0] [.int .u8 d[k]] (v8 (List.replicate (32 - (k + 1)) 0) ++ [wv, pv]) ?_ ?_ (3 + k) ?_ rfl (by simp; omega)
  · show ∀ z ∈ padk d (k + 1), _
    rw [e2]
    simp only at hb
    rw [e1] at hb
    intro z hz'
    rcases List.mem_append.1 hz' with g | g
    · exact hb z (List.mem_append.2 (.inl g))
    · rcases List.mem_cons.1 g with g | g
      · rw [g]; exact hz
      · exact hb z (List.mem_append.2 (.inr (List.mem_cons_of_mem _ g)))
  · unfold Rq0.cells
    simp only [e1, v8, List.map_append, List.map_cons]
    simp
  · unfold Rq0.cells
    simp only [e2, v8, List.map_append, List.map_cons]
    simp
  · rw [List.length_append, v8_length, ht]
    rfl
theorem padk_zero (d : List Int) : padk d 0 = zeros32 := by unfold padk; simp [zeros32]
theorem padk_all {d : List Int} (h : d.length = 32 ∨ d = []) : padk d d.length = pad32 d := by
  unfold padk pad32
  rcases h with h | rfl
  · rw [if_pos h, List.take_length, h]; simp
  · rw [if_neg (by simp)]; simp
/-- what is there at the end: a state in its place -/
theorem Xb.done {w W : World} {D R B : Nat} {q : Rq0} {s : Rs} (h : Xb D w R B q s W) (he : -9223372036854775808 ≤ q.e ∧ q.e ≤ 9223372036854775807) (hn : -9223372036854775808 ≤ q.n ∧ q.n ≤ 9223372036854775807) (hc : -9223372036854775808 ≤ q.c ∧ q.c ≤ 9223372036854775807) (hw : q.ws.length ≤ 1000) (hp : q.ps.length ≤ 1000) :
    ∃ x : Stt, x.cells = q.cells ∧ x.sp = ⟨q.e, q.n, q.c, q.d, q.ws, q.ps⟩ ∧ x.ok ∧ x.At W ∧ x.Lo (w.heap.size + 1) := by
  obtain ⟨h1, h2, h4, h5, h6, h7, h8, h9, h10, h11, h12, h13, h14, h15⟩ := h
  obtain ⟨a, ea, xa, ha, la⟩ := own_rows (E := WdE) (ys := q.ws) h11 h14 (by unfold maxLen; omega)
  obtain ⟨b, eb, xb, hb, lb⟩ := own_rows (E := PnE) (ys := q.ps) h12 h15 (by unfold maxLen; omega)
  exact ⟨⟨q.e, q.n, q.c, q.d, a, b⟩, by unfold Stt.cells Rq0.cells; rw [ea, eb], by unfold Stt.sp; rw [xa, xb], ⟨he.1, he.2, hn.1, hn.2, hc.1, hc.2, h9, h10⟩, ⟨ha, hb⟩, ⟨fun g hg => by have := (la g hg).1; omega, fun g hg => by have := (lb g hg).1; omega⟩⟩
theorem xb_new (D R : Nat) (s : Rs) (w : World) (h : RSt D w R s.1 s.2) (zc : List Value) (hz : zc = Rq0.cells ⟨0, 0, 0, zeros32, .slice none 0 0, .slice none 0 0, [], []⟩) : Xb D w R w.heap.size ⟨0, 0, 0, zeros32, .slice none 0 0, .slice none 0 0, [], []⟩ s (w.alloc (.cells zc.toArray 30)) := by
  have hzl : zc.length = 37 := by rw [hz]; decide
  obtain ⟨hB1, hr1, hs1⟩ := boxed_new w zc 30
  have ht1 := there_newN w zc.toArray 30 (n := 37) (by simp [hzl])
  exact ⟨by rw [← hz]; exact hr1, ht1, gb_below hB1 _, h.below hB1, hs1, Nat.le_refl _, Wn.RSt.lt h, by decide, by decide, World.ownsRow_nil _ _ _ _, World.ownsRow_nil _ _ _ _, by simp [Value.ownBlock], by simp, by simp⟩
/-- with an error nothing goes on -/
theorem nuR_err {most : Int} {s : Rs} (h : s.2 ≠ 0) : nuR most s = (0, s) := by
  unfold nuR numS
  rw [if_neg h]
theorem wiR_err {s : Rs} (h : s.2 ≠ 0) : (wiR s).2 = s := by
  have e : ∀ m, numS s.1 s.2 m = (0, s.1, s.2) := fun m => by unfold numS; rw [if_neg h]
  unfold wiR Wn.getR
  simp only [e]
theorem itR_err {α : Type} {one : Rs → α × Rs} (ho : ∀ s : Rs, s.2 ≠ 0 → (one s).2 = s) (s : Rs) (k : Nat) (h : (itR one s k).2.2 ≠ 0) : ∀ m, (itR one s (k + m)).2 = (itR one s k).2 := by
  intro m
  induction m with
  | zero => rfl
  | succ m ih =>
    show (one (itR one s (k + m)).2).2 = _
    rw [ho _ (by rw [ih]; exact h), ih]
theorem itR_stop {α : Type} {one : Rs → α × Rs} (ho : ∀ s : Rs, s.2 ≠ 0 → (one s).2 = s) (s : Rs) {k N : Nat} (hk : k ≤ N) (h : (itR one s k).2.2 ≠ 0) : (itR one s N).2 = (itR one s k).2 := by
  have := itR_err ho s k h (N - k)
  rwa [show k + (N - k) = N by omega] at this
theorem xnumR (D X : Nat) (most : Int) (s : Rs) (w : World) (h : RSt D w X s.1 s.2) : Calls Try.prog 19 #[.pointer (some ⟨X, 0, none⟩), .int .i64 most] w fun en w' => en = .returned (.int .i64 (nuR most s).1) ∧ RSt D w' X (nuR most s).2.1 (nuR most s).2.2 ∧ w.grownBy w' (some X) := refNum_any X s.1 s.2 most w h
theorem xwinR (D X : Nat) (s : Rs) (w : World) (h : RSt D w X s.1 s.2) : Calls Try.prog 21 #[.pointer (some ⟨X, 0, none⟩)] w fun en w' => en = .returned (.agg (wiR s).1.cells.toArray) ∧ RSt D w' X (wiR s).2.1 (wiR s).2.2 ∧ w.grownBy w' (some X) := Wn.refWGet_any D X s.1 s.2 w h
set_option maxRecDepth 100000 in
set_option maxHeartbeats 1000000 in
theorem xdoneS (D X : Nat) (s : Rs) (w : World) (h : RSt D w X s.1 s.2) : Calls Try.prog 22 #[.pointer (some ⟨X, 0, none⟩)] w fun en w' => en = .returned (.int .i64 (doneE s.1 s.2)) ∧ Below w.heap.size w w' := by
  obtain ⟨rest, e⟩ := s
  have c2 := Wn.RSt.cell2 h
  simp only at c2 ⊢
  unfold doneE
  by_cases he : e = 0
  · subst he
    obtain ⟨zs, p, ⟨hX, ⟨a, cap, c0, hc, hm, hr, hb⟩, c1, c2', f0, f1, f2, hp, hl⟩, hd⟩ := h
    have hd : List.drop p zs = rest := hd rfl
    have hlen : rest.length = zs.length - p := by rw [← hd, List.length_drop]
    rw [if_pos rfl]
    clear hr c2'
    by_cases hz : rest.length = 0
    · rw [if_pos hz]
      have hlt : ¬ ((p : Int) < (zs.length : Int)) := by omega
      go_enter Try.func22, Try.ntmps22
      go_upto_region 3 with fail
      have d0 : w.drew.cell? ⟨X, 0, none⟩ = _ := c0
      have d1 : w.drew.cell? ⟨X, 1, none⟩ = _ := c1
      have hB8 : Below w.heap.size w w.drew := (Below.refl _ _).drew
      refine hs_begin (S := (Below w.drew.heap.size w.drew)) 10 rfl (by kernel_rfl) ?_
      have hS : (Below w.drew.heap.size w.drew) w.drew := Below.refl _ _
      have k0 : ∀ w', Below w.drew.heap.size w.drew w' → w'.cell? ⟨X, 0, none⟩ = some (.slice a zs.length cap) := fun w' hw => (cell_block (hw.block X hX)).1.trans c0
      have k1 : ∀ w', Below w.drew.heap.size w.drew w' → w'.cell? ⟨X, 1, none⟩ = some (.int .i64 (p : Int)) := fun w' hw => (cell_block (hw.block X hX)).1.trans c1
      refine hs_take (i := 0) (d := some 12) (v := ?_) rfl (by kernel_rfl) (by kernel_rfl) (by kernel_rfl) (by rfl) ?_ hS rfl ?_
      rotate_left
      · intro w' hw
        go_simp
        try with_reducible rfl
      simp only [Act.put, List.setIfInBounds_toArray, List.set_cons_zero, List.set_cons_succ]
      refine hs_take (i := 1) (d := some 13) (v := ?_) rfl (by kernel_rfl) (by kernel_rfl) (by kernel_rfl) (by rfl) ?_ hS rfl ?_
      rotate_left
      · intro w' hw
        go_simp
        try with_reducible rfl
      simp only [Act.put, List.setIfInBounds_toArray, List.set_cons_zero, List.set_cons_succ]
      refine hs_take (i := 2) (d := some 14) (v := ?_) rfl (by kernel_rfl) (by kernel_rfl) (by kernel_rfl) (by rfl) ?_ hS rfl ?_
      rotate_left
      · intro w' hw
        go_simp
        try with_reducible rfl
      simp only [Act.put, List.setIfInBounds_toArray, List.set_cons_zero, List.set_cons_succ]
      refine hs_take (i := 3) (d := some 15) (v := .int .i64 (p : Int)) rfl (by kernel_rfl) (by kernel_rfl) (by kernel_rfl) (by rfl) (fun w' hw => pl_one rfl rfl (k1 _ hw) Try.underlying3 rfl) hS rfl ?_
      simp only [Act.put, List.setIfInBounds_toArray, List.set_cons_zero, List.set_cons_succ]
      refine hs_take (i := 4) (d := some 16) (v := ?_) rfl (by kernel_rfl) (by kernel_rfl) (by kernel_rfl) (by rfl) ?_ hS rfl ?_
      rotate_left
      · intro w' hw
        go_simp
        try with_reducible rfl
      simp only [Act.put, List.setIfInBounds_toArray, List.set_cons_zero, List.set_cons_succ]
      refine hs_take (i := 5) (d := some 17) (v := ?_) rfl (by kernel_rfl) (by kernel_rfl) (by kernel_rfl) (by rfl) ?_ hS rfl ?_
      rotate_left
      · intro w' hw
        go_simp
        try with_reducible rfl
      simp only [Act.put, List.setIfInBounds_toArray, List.set_cons_zero, List.set_cons_succ]
      refine hs_take (i := 6) (d := some 18) (v := ?_) rfl (by kernel_rfl) (by kernel_rfl) (by kernel_rfl) (by rfl) ?_ hS rfl ?_
      rotate_left
      · intro w' hw
        go_simp
        try with_reducible rfl
      simp only [Act.put, List.setIfInBounds_toArray, List.set_cons_zero, List.set_cons_succ]
      refine hs_take (i := 7) (d := some 19) (v := .slice a zs.length cap) rfl (by kernel_rfl) (by kernel_rfl) (by kernel_rfl) (by rfl) (fun w' hw => pl_one rfl rfl (k0 _ hw) Try.underlying46 rfl) hS rfl ?_
      simp only [Act.put, List.setIfInBounds_toArray, List.set_cons_zero, List.set_cons_succ]
      refine hs_take (i := 8) (d := some 20) (v := ?_) rfl (by kernel_rfl) (by kernel_rfl) (by kernel_rfl) (by rfl) ?_ hS rfl ?_
      rotate_left
      · intro w' hw
        go_simp
        try with_reducible rfl
      simp only [Act.put, List.setIfInBounds_toArray, List.set_cons_zero, List.set_cons_succ]
      refine hs_take (i := 9) (d := some 21) (v := .bool false) rfl (by kernel_rfl) (by kernel_rfl) (by kernel_rfl) (by rfl) (fun w' hw => by go_simp <;> (try simp) <;> (try omega)) hS rfl ?_
      simp only [Act.put, List.setIfInBounds_toArray, List.set_cons_zero, List.set_cons_succ]
      refine hs_done (by kernel_rfl) ?_
      go_wp2_with fail
      go_ret
      exact ⟨rfl, hB8⟩
    · rw [if_neg hz]
      have hlt : (p : Int) < (zs.length : Int) := by omega
      go_enter Try.func22, Try.ntmps22
      go_upto_region 3 with fail
      have hB8 : Below w.heap.size w w.drew := (Below.refl _ _).drew
      refine hs_begin (S := (Below w.drew.heap.size w.drew)) 10 rfl (by kernel_rfl) ?_
      have hS : (Below w.drew.heap.size w.drew) w.drew := Below.refl _ _
      have k0 : ∀ w', Below w.drew.heap.size w.drew w' → w'.cell? ⟨X, 0, none⟩ = some (.slice a zs.length cap) := fun w' hw => (cell_block (hw.block X hX)).1.trans c0
      have k1 : ∀ w', Below w.drew.heap.size w.drew w' → w'.cell? ⟨X, 1, none⟩ = some (.int .i64 (p : Int)) := fun w' hw => (cell_block (hw.block X hX)).1.trans c1
      refine hs_take (i := 0) (d := some 12) (v := ?_) rfl (by kernel_rfl) (by kernel_rfl) (by kernel_rfl) (by rfl) ?_ hS rfl ?_
      rotate_left
      · intro w' hw
        go_simp
        try with_reducible rfl
      simp only [Act.put, List.setIfInBounds_toArray, List.set_cons_zero, List.set_cons_succ]
      refine hs_take (i := 1) (d := some 13) (v := ?_) rfl (by kernel_rfl) (by kernel_rfl) (by kernel_rfl) (by rfl) ?_ hS rfl ?_
      rotate_left
      · intro w' hw
        go_simp
        try with_reducible rfl
      simp only [Act.put, List.setIfInBounds_toArray, List.set_cons_zero, List.set_cons_succ]
      refine hs_take (i := 2) (d := some 14) (v := ?_) rfl (by kernel_rfl) (by kernel_rfl) (by kernel_rfl) (by rfl) ?_ hS rfl ?_
      rotate_left
      · intro w' hw
        go_simp
        try with_reducible rfl
      simp only [Act.put, List.setIfInBounds_toArray, List.set_cons_zero, List.set_cons_succ]
      refine hs_take (i := 3) (d := some 15) (v := .int .i64 (p : Int)) rfl (by kernel_rfl) (by kernel_rfl) (by kernel_rfl) (by rfl) (fun w' hw => pl_one rfl rfl (k1 _ hw) Try.underlying3 rfl) hS rfl ?_
      simp only [Act.put, List.setIfInBounds_toArray, List.set_cons_zero, List.set_cons_succ]
      refine hs_take (i := 4) (d := some 16) (v := ?_) rfl (by kernel_rfl) (by kernel_rfl) (by kernel_rfl) (by rfl) ?_ hS rfl ?_
      rotate_left
      · intro w' hw
        go_simp
        try with_reducible rfl
      simp only [Act.put, List.setIfInBounds_toArray, List.set_cons_zero, List.set_cons_succ]
      refine hs_take (i := 5) (d := some 17) (v := ?_) rfl (by kernel_rfl) (by kernel_rfl) (by kernel_rfl) (by rfl) ?_ hS rfl ?_
      rotate_left
      · intro w' hw
        go_simp
        try with_reducible rfl
      simp only [Act.put, List.setIfInBounds_toArray, List.set_cons_zero, List.set_cons_succ]
      refine hs_take (i := 6) (d := some 18) (v := ?_) rfl (by kernel_rfl) (by kernel_rfl) (by kernel_rfl) (by rfl) ?_ hS rfl ?_
      rotate_left
      · intro w' hw
        go_simp
        try with_reducible rfl
      simp only [Act.put, List.setIfInBounds_toArray, List.set_cons_zero, List.set_cons_succ]
      refine hs_take (i := 7) (d := some 19) (v := .slice a zs.length cap) rfl (by kernel_rfl) (by kernel_rfl) (by kernel_rfl) (by rfl) (fun w' hw => pl_one rfl rfl (k0 _ hw) Try.underlying46 rfl) hS rfl ?_
      simp only [Act.put, List.setIfInBounds_toArray, List.set_cons_zero, List.set_cons_succ]
      refine hs_take (i := 8) (d := some 20) (v := ?_) rfl (by kernel_rfl) (by kernel_rfl) (by kernel_rfl) (by rfl) ?_ hS rfl ?_
      rotate_left
      · intro w' hw
        go_simp
        try with_reducible rfl
      simp only [Act.put, List.setIfInBounds_toArray, List.set_cons_zero, List.set_cons_succ]
      refine hs_take (i := 9) (d := some 21) (v := .bool true) rfl (by kernel_rfl) (by kernel_rfl) (by kernel_rfl) (by rfl) (fun w' hw => by go_simp <;> (try simp) <;> (try omega)) hS rfl ?_
      simp only [Act.put, List.setIfInBounds_toArray, List.set_cons_zero, List.set_cons_succ]
      refine hs_done (by kernel_rfl) ?_
      go_wp2_with fail
      go_ret
      exact ⟨rfl, hB8⟩
  · have hne : (e != 0) = true := by simpa using he
    rw [if_neg he]
    clear h
    go_enter Try.func22, Try.ntmps22
    go_wp2_with fail
    go_ret
    exact ⟨rfl, Below.refl _ _⟩
end Go.Proofs.Ytaaifcpanflejaa
