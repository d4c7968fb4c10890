/- the document's Of -/
import Derived.Test.YtogmkcabndgllaaV24
import Derived.Test.YtogmkcabndgllaaV16
namespace Go.Proofs.Ytogmkcabndgllaa
open Go.RowKit
theorem cell_sets (w : World) (b o : Nat) (vs : List Value) (x j : Nat) (h : x ≠ b) : (w.setCells b o vs).cell? ⟨x, j, none⟩ = w.cell? ⟨x, j, none⟩ := by
  have := set_other w b o vs x h
  simp [World.cell?, this]
def SXo (w : World) (X b off i : Nat) (a : Option Addr) (cap L : Nat) (y : On) (x : World) : Prop := x.cell? ⟨X, 1, none⟩ = some (.slice a L cap) ∧ x.rangeAt b (off + i * 53 + 1) y.v.cells ∧ x.rangeAt b (off + i * 53 + 37) (v8 y.t) ∧ x.there w.heap.size 0 36 ∧ x.there (w.heap.size + 1) 0 16 ∧ Below w.heap.size w x
set_option maxRecDepth 100000 in
set_option maxHeartbeats 4000000 in
theorem xof_any (X : Nat) (a : Option Addr) (cap : Nat) (N : Int) (st : List On) (k n : Int) (w : World) (h : XAt w X a cap N st) (hlen : st.length < 1000000) :
    Calls Try.prog 15 #[.pointer (some ⟨X, 0, none⟩), .int .i64 k, .int .i64 n] w fun e w' => e = .returned (.tuple #[.agg ((find st k n).getD on0).v.cells.toArray, .agg (v8 ((find st k n).getD on0).t).toArray, .bool (find st k n).isSome]) ∧ Below w.heap.size w w' := by
  have cI := fun w' (h : XAt w' X a cap N st) => xat_any X a cap N st k n w' h hlen
  cases hidx : idxL st k n with
  | none =>
    rw [idx_none hidx]
    simp only [hidx, idxV] at cI
    simp only [Option.getD_none, Option.isSome_none]
    have hb36 := build_z36
    have hb16 := build_z16
    have a1 := z36_len
    have a2 := z36_one
    have a3 := z16_len
    have a4 := z16_one
    have i1 : (Try.prog.info? 31).map (·.size) = some z36.toArray.size := by rw [a1]; exact iszV
    have i2 : (Try.prog.info? 33).map (·.size) = some z16.toArray.size := by rw [a3]; exact iszT
    show Calls _ _ _ _ fun e w' => e = .returned (.tuple #[.agg z36.toArray, .agg z16.toArray, .bool false]) ∧ Below w.heap.size w w'
    generalize z36 = u at *
    generalize z16 = t at *
    go_enter Try.func15, Try.ntmps15
    go_upto_region 1 with fail
    go_name_world w1 hw1
    obtain ⟨hB1, hth1, hth2, hsz1⟩ := two_new hw1
    simp only [List.size_toArray, List.length_cons, List.length_nil, Nat.zero_add, Nat.reduceAdd] at hth1 hth2
    clear hw1
    have cI1 := cI w1 (h.below hB1)
    go_wp2_with fail
    refine cI1.mono ?_
    rintro _ w2 ⟨rfl, hB2⟩
    have hth1 := there_below hth1 hB2 (by omega)
    have hth2 := there_below hth2 hB2 (by omega)
    rw [← a1] at hth1
    rw [← a3] at hth2
    have hth3 := World.there_setCells hth2 w.heap.size 0 u
    go_wp2_with (first
      | (refine wpList_build rfl 31 [] rfl [] (.agg u.toArray) rfl (hb36 _) ?_)
      | (refine wpList_build rfl 33 [] rfl [] (.agg t.toArray) rfl (hb16 _) ?_)
      | (refine wpList_store_mid rfl 31 _ _ rfl _ 0 u.toArray rfl rfl hth1 i1 a2 ?_)
      | (refine wpList_store_mid rfl 33 _ _ rfl _ 0 t.toArray rfl rfl hth3 i2 a4 ?_))
    refine bodyPost_ret (results_cct rfl _ _ _ rfl rfl (run_loadVar_mid (P := Try.prog) _ w.heap.size 0 31 u _ (World.rangeAt_setCells_apart (World.rangeAt_setCells_same _ _ _ _ (by simpa using hth1)) _ _ _ (.inl (by omega))) Try.underlying31 rfl (by simpa using i1)) (run_loadVar_mid (P := Try.prog) _ (w.heap.size + 1) 0 33 t _ (World.rangeAt_setCells_same _ _ _ _ (by simpa using hth3)) Try.underlying33 rfl (by simpa using i2))) rfl ?_
    exact ⟨rfl, below_sets (Nat.le_succ _) _ _ _ (below_sets (Nat.le_refl _) _ _ _ (hB1.trans (hB2.mono (by omega))))⟩
  | some i =>
    obtain ⟨hi, hf⟩ := idx_some hidx
    rw [hf]
    simp only [hidx, idxV] at cI
    simp only [Option.getD_some, Option.isSome_some]
    have hy := h.bk.ok _ (List.getElem_mem hi)
    have hle := h.le
    obtain ⟨b, off, rfl, hbl, hr⟩ := h.row.elem (fun y hy => (h.bk.ok y hy).len) i hi
    have hXl := h.lt
    have hc1 := h.c1
    obtain ⟨y, hye⟩ : ∃ y, Hid (st[i] = y) := ⟨_, hide rfl⟩
    rw [hye.out] at hy hr ⊢
    obtain ⟨q1, q2, q3⟩ := On.parts hy hr
    have hiI : (i : Int) < (st.length : Int) := by omega
    obtain ⟨L, hL⟩ : ∃ L, Hid (st.length = L) := ⟨_, hide rfl⟩
    have hV36 : y.v.cells.toArray.size = 36 := by simpa using hy.v.len
    have hT16 : (v8 y.t).toArray.size = 16 := by simpa using hy.tl
    have hiV : (Try.prog.info? 31).map (·.size) = some y.v.cells.length := by rw [hy.v.len]; exact iszV
    have hiT : (Try.prog.info? 33).map (·.size) = some (v8 y.t).length := by rw [v8_length, hy.tl]; exact iszT
    rw [hL.out] at hiI hle hc1
    have hiL : i < L := by omega
    have hL6 : L < 1000000 := by rw [← hL.out]; exact hlen
    go_enter Try.func15, Try.ntmps15
    go_upto_region 1 with fail
    go_name_world w1 hw1
    obtain ⟨hB1, hth1, hth2, hsz1⟩ := two_new hw1
    simp only [List.size_toArray, List.length_cons, List.length_nil, Nat.zero_add, Nat.reduceAdd] at hth1 hth2
    clear hw1
    have cI1 := cI w1 (h.below hB1)
    clear cI h hye hL hidx hf hi
    go_wp2_with fail
    refine cI1.mono ?_
    rintro _ w2 ⟨rfl, hB2⟩
    have hB12 : Below w.heap.size w w2 := hB1.trans (hB2.mono (by omega))
    obtain ⟨w8, hw8⟩ : ∃ w8, w2.drew = w8 := ⟨_, rfl⟩
    have hb8 : Below w.heap.size w w8 := by rw [← hw8]; exact hB12.drew
    have hb18 : Below w1.heap.size w1 w8 := by rw [← hw8]; exact hB2.drew
    have hS : SXo w X b off i (some ⟨b, off, none⟩) cap L y w8 := ⟨(hb8.cell (p := ⟨X, 1, none⟩) hXl).trans hc1, range_below q2 hb8 hbl, range_below q3 hb8 hbl, there_below hth1 hb18 (by omega), there_below hth2 hb18 (by omega), hb8⟩
    clear cI1 hB2 hB12 hb8 hb18 hth1 hth2 q1 q2 q3 hr hc1
    go_wp2_with fail
    refine hs_begin (S := SXo w X b off i (some ⟨b, off, none⟩) cap L y) 19 rfl (by kernel_rfl) ?_
    rw [hw8]
    clear hw8
    refine hs_take (i := 0) (d := some 18) (v := ?_) rfl (by kernel_rfl) (by kernel_rfl) (by kernel_rfl) (by rfl) ?_ hS rfl ?_
    rotate_left
    · intro w' hw
      go_simp
      try with_reducible rfl
    simp only [Act.put, List.setIfInBounds_toArray, List.set_cons_zero, List.set_cons_succ]
    refine hs_take (i := 1) (d := some 19) (v := ?_) rfl (by kernel_rfl) (by kernel_rfl) (by kernel_rfl) (by rfl) ?_ hS rfl ?_
    rotate_left
    · intro w' hw
      go_simp
      try with_reducible rfl
    simp only [Act.put, List.setIfInBounds_toArray, List.set_cons_zero, List.set_cons_succ]
    refine hs_take (i := 2) (d := some 20) (v := ?_) rfl (by kernel_rfl) (by kernel_rfl) (by kernel_rfl) (by rfl) ?_ hS rfl ?_
    rotate_left
    · intro w' hw
      go_simp
      try with_reducible rfl
    simp only [Act.put, List.setIfInBounds_toArray, List.set_cons_zero, List.set_cons_succ]
    refine hs_take (i := 3) (d := some 21) (v := ?_) rfl (by kernel_rfl) (by kernel_rfl) (by kernel_rfl) (by rfl) ?_ hS rfl ?_
    rotate_left
    · intro w' hw
      have := hw.1
      go_simp
      try with_reducible rfl
    simp only [Act.put, List.setIfInBounds_toArray, List.set_cons_zero, List.set_cons_succ]
    refine hs_take (i := 4) (d := some 22) (v := ?_) rfl (by kernel_rfl) (by kernel_rfl) (by kernel_rfl) (by rfl) ?_ hS rfl ?_
    rotate_left
    · intro w' hw
      go_simp
      try with_reducible rfl
    simp only [Act.put, List.setIfInBounds_toArray, List.set_cons_zero, List.set_cons_succ]
    refine hs_take (i := 5) (d := some 23) (v := ?_) rfl (by kernel_rfl) (by kernel_rfl) (by kernel_rfl) (by rfl) ?_ hS rfl ?_
    rotate_left
    · intro w' hw
      go_simp
      try with_reducible rfl
    simp only [Act.put, List.setIfInBounds_toArray, List.set_cons_zero, List.set_cons_succ]
    refine hs_take (i := 6) (d := some 24) (v := ?_) rfl (by kernel_rfl) (by kernel_rfl) (by kernel_rfl) (by rfl) ?_ hS rfl ?_
    rotate_left
    · intro w' hw
      go_simp
      try with_reducible rfl
    simp only [Act.put, List.setIfInBounds_toArray, List.set_cons_zero, List.set_cons_succ]
    refine hs_take (i := 7) (d := some 25) (v := .agg y.v.cells.toArray) rfl (by kernel_rfl) (by kernel_rfl) (by kernel_rfl) (by rfl) (fun w' hw => exec_load rfl rfl (run_loadVar_mid (P := Try.prog) w' b (off + i * 53 + 1) 31 y.v.cells _ hw.2.1 Try.underlying31 rfl hiV)) hS rfl ?_
    simp only [Act.put, List.setIfInBounds_toArray, List.set_cons_zero, List.set_cons_succ]
    refine hs_take (i := 8) (d := some 26) (v := ?_) rfl (by kernel_rfl) (by kernel_rfl) (by kernel_rfl) (by rfl) ?_ hS rfl ?_
    rotate_left
    · intro w' hw
      go_simp
      try with_reducible rfl
    simp only [Act.put, List.setIfInBounds_toArray, List.set_cons_zero, List.set_cons_succ]
    refine hs_take (i := 9) (d := some 27) (v := ?_) rfl (by kernel_rfl) (by kernel_rfl) (by kernel_rfl) (by rfl) ?_ hS rfl ?_
    rotate_left
    · intro w' hw
      go_simp
      try with_reducible rfl
    simp only [Act.put, List.setIfInBounds_toArray, List.set_cons_zero, List.set_cons_succ]
    refine hs_take (i := 10) (d := some 28) (v := ?_) rfl (by kernel_rfl) (by kernel_rfl) (by kernel_rfl) (by rfl) ?_ hS rfl ?_
    rotate_left
    · intro w' hw
      go_simp
      try with_reducible rfl
    simp only [Act.put, List.setIfInBounds_toArray, List.set_cons_zero, List.set_cons_succ]
    refine hs_take (i := 11) (d := some 29) (v := ?_) rfl (by kernel_rfl) (by kernel_rfl) (by kernel_rfl) (by rfl) ?_ hS rfl ?_
    rotate_left
    · intro w' hw
      have := hw.1
      go_simp
      try with_reducible rfl
    simp only [Act.put, List.setIfInBounds_toArray, List.set_cons_zero, List.set_cons_succ]
    refine hs_take (i := 12) (d := some 30) (v := ?_) rfl (by kernel_rfl) (by kernel_rfl) (by kernel_rfl) (by rfl) ?_ hS rfl ?_
    rotate_left
    · intro w' hw
      go_simp
      try with_reducible rfl
    simp only [Act.put, List.setIfInBounds_toArray, List.set_cons_zero, List.set_cons_succ]
    refine hs_take (i := 13) (d := some 31) (v := ?_) rfl (by kernel_rfl) (by kernel_rfl) (by kernel_rfl) (by rfl) ?_ hS rfl ?_
    rotate_left
    · intro w' hw
      go_simp
      try with_reducible rfl
    simp only [Act.put, List.setIfInBounds_toArray, List.set_cons_zero, List.set_cons_succ]
    refine hs_take (i := 14) (d := some 32) (v := ?_) rfl (by kernel_rfl) (by kernel_rfl) (by kernel_rfl) (by rfl) ?_ hS rfl ?_
    rotate_left
    · intro w' hw
      go_simp
      try with_reducible rfl
    simp only [Act.put, List.setIfInBounds_toArray, List.set_cons_zero, List.set_cons_succ]
    refine hs_take (i := 15) (d := some 33) (v := .agg (v8 y.t).toArray) rfl (by kernel_rfl) (by kernel_rfl) (by kernel_rfl) (by rfl) (fun w' hw => exec_load rfl rfl (run_loadVar_mid (P := Try.prog) w' b (off + i * 53 + 37) 33 (v8 y.t) _ hw.2.2.1 Try.underlying33 rfl hiT)) hS rfl ?_
    simp only [Act.put, List.setIfInBounds_toArray, List.set_cons_zero, List.set_cons_succ]
    have hS6 : SXo w X b off i (some ⟨b, off, none⟩) cap L y (w8.setCells w.heap.size 0 y.v.cells) := ⟨by rw [cell_sets _ _ _ _ _ _ (by omega)]; exact hS.1, World.rangeAt_setCells_apart hS.2.1 _ _ _ (.inl (by omega)), World.rangeAt_setCells_apart hS.2.2.1 _ _ _ (.inl (by omega)), World.there_setCells hS.2.2.2.1 _ _ _, World.there_setCells hS.2.2.2.2.1 _ _ _, below_sets (Nat.le_refl _) _ _ _ hS.2.2.2.2.2⟩
    refine hs_store (i := 16) (w' := w8.setCells w.heap.size 0 y.v.cells) rfl (by kernel_rfl) (by rfl) (exec_store rfl rfl rfl (run_storeVar_mid _ _ _ 31 y.v.cells.toArray (by rw [hV36]; exact hS.2.2.2.1) (by rw [hV36]; exact iszV) (all_one y.v.one))) rfl hS6 ?_
    have hS7 : SXo w X b off i (some ⟨b, off, none⟩) cap L y ((w8.setCells w.heap.size 0 y.v.cells).setCells (w.heap.size + 1) 0 (v8 y.t)) := ⟨by rw [cell_sets _ _ _ _ _ _ (by omega)]; exact hS6.1, World.rangeAt_setCells_apart hS6.2.1 _ _ _ (.inl (by omega)), World.rangeAt_setCells_apart hS6.2.2.1 _ _ _ (.inl (by omega)), World.there_setCells hS6.2.2.2.1 _ _ _, World.there_setCells hS6.2.2.2.2.1 _ _ _, below_sets (Nat.le_succ _) _ _ _ hS6.2.2.2.2.2⟩
    refine hs_store (i := 17) (w' := (w8.setCells w.heap.size 0 y.v.cells).setCells (w.heap.size + 1) 0 (v8 y.t)) rfl (by kernel_rfl) (by rfl) (exec_store rfl rfl rfl (run_storeVar_mid _ _ _ 33 (v8 y.t).toArray (by rw [hT16]; exact hS6.2.2.2.2.1) (by rw [hT16]; exact iszT) (all_one (v8_one y.t)))) rfl hS7 ?_
    refine hs_take (i := 18) (d := some 8) (v := ?_) rfl (by kernel_rfl) (by kernel_rfl) (by kernel_rfl) (by rfl) ?_ hS7 rfl ?_
    rotate_left
    · intro w' hw
      go_simp
      try with_reducible rfl
    simp only [Act.put, List.setIfInBounds_toArray, List.set_cons_zero, List.set_cons_succ]
    refine hs_done (by kernel_rfl) ?_
    go_wp2_with fail
    refine bodyPost_ret (results_cct rfl _ _ _ rfl rfl (run_loadVar_mid (P := Try.prog) _ w.heap.size 0 31 y.v.cells _ (World.rangeAt_setCells_apart (World.rangeAt_setCells_same _ _ _ _ (by have := hS.2.2.2.1; rwa [← hy.v.len] at this)) _ _ _ (.inl (by omega))) Try.underlying31 rfl hiV) (run_loadVar_mid (P := Try.prog) _ (w.heap.size + 1) 0 33 (v8 y.t) _ (World.rangeAt_setCells_same _ _ _ _ (by have := hS6.2.2.2.2.1; rwa [← hy.tl, ← v8_length] at this)) Try.underlying33 rfl hiT)) rfl ?_
    exact ⟨rfl, hS7.2.2.2.2.2⟩
end Go.Proofs.Ytogmkcabndgllaa
