/- The document's Good, Done, Count, Ask, Mark of windows: contracts. -/
import Derived.Test.YtnjlamcpfclgaaaWA3
import Derived.BigQuiet
namespace Go.Proofs.Ytnjlamcpfclgaaa
open Go.RowKit
theorem below_drewN {n : Nat} {a w : World} (h : Below n a w) (k : Nat) : Below n a (w.drewN k) := ⟨h.os, h.tape, h.output, h.size, h.block⟩
theorem set_last {m : Nat} {k : Nat} (h : (setN m).length = k + 1) : ∃ x : Nat, (ints (setN m))[k]? = some (x : Int) ∧ x < 64 ∧ m.testBit x = true ∧ ∀ j, j < 64 → m.testBit j = true → j ≤ x := by
  have hk : k < (setN m).length := by omega
  obtain ⟨x, hx⟩ : ∃ x, (setN m)[k]? = some x := ⟨_, List.getElem?_eq_getElem hk⟩
  have hm := List.mem_of_getElem? hx
  have hs := mem_setN.1 hm
  refine ⟨x, by unfold ints; rw [List.getElem?_map, hx]; rfl, hs.1, hs.2, fun j hj hb => ?_⟩
  have hj' := mem_setN.2 ⟨hj, hb⟩
  obtain ⟨i, hi, rfl⟩ := List.getElem_of_mem hj'
  have hp := setUp_lt m 64
  have ex : (setN m)[k] = x := by rw [List.getElem?_eq_getElem hk] at hx; exact Option.some.inj hx
  rcases Nat.lt_or_ge i k with h' | h'
  · have := List.pairwise_iff_getElem.1 hp i k hi hk h'
    have e2 : (setUp m 64)[k] = x := ex
    have e3 : (setUp m 64)[i] = (setN m)[i] := rfl
    omega
  · obtain rfl : i = k := by omega
    omega
theorem good_last {B : Int} {m : Nat} (hm : m < 2 ^ 64) (h0 : 1 ≤ B) (h1 : B ≤ 1099511627777) (hb : m.testBit 0 = false) {x : Nat} (hxm : m.testBit x = true) (hle : ∀ j, j < 64 → m.testBit j = true → j ≤ x) : goodW B m = decide ((x : Int) ≤ 1099511627776 - B) := by
  by_cases h : (x : Int) ≤ 1099511627776 - B
  · rw [decide_eq_true h]
    refine good_iff.2 ⟨⟨h0, h1⟩, hb, fun j hj => ?_⟩
    have h64 : j < 64 := by
      rcases Nat.lt_or_ge j 64 with q | q
      · exact q
      · rw [no_high hm q] at hj; cases hj
    have := hle j h64 hj
    omega
  · rw [decide_eq_false h]
    cases hg : goodW B m
    · rfl
    · have := (good_iff.1 hg).2.2 x hxm; omega
theorem good_none {B : Int} {m : Nat} (hm : m < 2 ^ 64) (h0 : 1 ≤ B) (h1 : B ≤ 1099511627777) (h : (setN m).length = 0) : goodW B m = true := by
  have hn : ∀ j, m.testBit j = false := fun j => by
    rcases Nat.lt_or_ge j 64 with q | q
    · cases hb : m.testBit j
      · rfl
      · have := mem_setN.2 ⟨q, hb⟩
        rw [List.eq_nil_of_length_eq_zero h] at this; cases this
    · exact no_high hm q
  exact good_iff.2 ⟨⟨h0, h1⟩, hn 0, fun j hj => by rw [hn j] at hj; cases hj⟩
set_option maxHeartbeats 2000000 in
theorem refGoodW_any (B : Int) (m : Nat) (hm : m < 2 ^ 64) (w : World) : Calls Try.prog 12 #[winV B (m : Int)] w fun e w' => e = .returned (.bool (goodW B m)) ∧ Below w.heap.size w w' := by
  have hBx : Below w.heap.size w (w.alloc (.cells #[.int .i64 B, .int .u64 (m : Int)] 24)) := (Below.refl _ _).alloc (Nat.le_refl _) _
  by_cases h0 : B < 1
  · have HG : Hid (goodW B m = false) := by show _ = _; unfold goodW; rw [decide_eq_false (by omega)]; rfl
    rw [HG.out]
    clear hm HG
    go_enter Try.func12, Try.ntmps12
    go_wp2_with fail
    go_ret
    exact ⟨rfl, hBx⟩
  · by_cases h1 : 1099511627777 < B
    · have HG : Hid (goodW B m = false) := by show _ = _; unfold goodW; rw [decide_eq_false (by omega)]; rfl
      rw [HG.out]
      clear hm HG
      go_enter Try.func12, Try.ntmps12
      go_wp2_with fail
      go_ret
      exact ⟨rfl, hBx⟩
    · have c1 := refHas_any m hm 0
      have e0 : hasN m 0 = m.testBit 0 := hasN_cast m 0 (by decide)
      rw [e0] at c1
      clear e0
      cases hb : m.testBit 0
      · rw [hb] at c1
        have c2 := refList_any m hm
        have hl64 : (setN m).length ≤ 64 := setUp_len m 64
        cases hk : (setN m).length with
        | zero =>
          have HG := hide (good_none (B := B) hm (by omega) (by omega) hk)
          rw [HG.out]
          clear HG
          rw [hk] at c2
          generalize vals (setN m) = vs at *
          clear hb hm hk hl64
          go_enter Try.func12, Try.ntmps12
          go_wp2_with (go_at_call 36; refine (c1 _).mono ?_; rintro e w5 ⟨rfl, hx⟩; obtain rfl := hx.symm; clear hx)
          refine (c2 _).mono ?_
          rintro e w1 ⟨v, rfl, hrow, hb1⟩
          obtain ⟨va, vcap, rfl⟩ := ownsRow_slice hrow
          obtain ⟨hA, hB1, hz⟩ := one_box hb1
          clear c1 c2 hrow hb1
          go_wp2_with fail
          go_quiet (fail)
          go_wp2_with fail
          go_ret
          exact ⟨rfl, below_drewN hB1 _⟩
        | succ k =>
          obtain ⟨x, hx, hx64, hxm, hxl⟩ := set_last hk
          have HG := hide (good_last (B := B) hm (by omega) (by omega) hb hxm hxl)
          rw [HG.out]
          clear HG hb hxm hxl
          have hkl : k < 64 := by omega
          go_enter Try.func12, Try.ntmps12
          go_wp2_with (go_at_call 36; refine (c1 _).mono ?_; rintro e w5 ⟨rfl, hx⟩; obtain rfl := hx.symm; clear hx)
          refine (c2 _).mono ?_
          rintro e w1 ⟨v, rfl, hrow, hb1⟩
          obtain ⟨va, vcap, rfl, hr⟩ := own_set hrow hl64
          obtain ⟨hA, hB1, hz⟩ := one_box hb1
          have hil : (ints (setN m)).length = k + 1 := by rw [ints_length, hk]
          obtain ⟨b, off, rfl, hcx⟩ := rowI_cell hr (Below.refl _ _) (k := k) (by omega)
          have ex : (ints (setN m))[k] = (x : Int) := by rw [List.getElem?_eq_getElem (by omega)] at hx; exact Option.some.inj hx
          rw [ex] at hcx
          rw [hk]
          have q0 : w1.cell? ⟨w.heap.size, 0, none⟩ = some (.int .i64 B) := hA 0 _ rfl
          clear c1 c2 hrow hb1 hr hx ex hil hl64 hk hm hA
          have hkc : (k : Int) < ((k + 1 : Nat) : Int) := by omega
          go_wp2_with fail
          obtain ⟨w8, hw8⟩ : ∃ w8, w1.drew = w8 := ⟨_, rfl⟩
          refine hs_begin (S := (fun W => W.cell? ⟨w.heap.size, 0, none⟩ = some (.int .i64 B) ∧ W.cell? ⟨b, off + k, none⟩ = some (.int .i64 (x : Int)))) 16 rfl (by kernel_rfl) ?_
          have hS : (fun W => W.cell? ⟨w.heap.size, 0, none⟩ = some (.int .i64 B) ∧ W.cell? ⟨b, off + k, none⟩ = some (.int .i64 (x : Int))) w8 := by rw [← hw8]; exact ⟨q0, hcx⟩
          have hB8 : Below w.heap.size w w8 := by rw [← hw8]; exact hB1.drew
          rw [hw8]
          clear hw8 q0 hcx
          refine hs_take (i := 0) (d := some 20) (v := ?_) rfl (by kernel_rfl) (by kernel_rfl) (by kernel_rfl) (by rfl) ?_ hS rfl ?_
          rotate_left
          · intro w' hw
            go_simp
            try with_reducible rfl
          simp only [Act.put, List.setIfInBounds_toArray, List.set_cons_zero, List.set_cons_succ]
          refine hs_take (i := 1) (d := some 21) (v := .int .i64 ((k + 1 : Nat) : Int)) rfl (by kernel_rfl) (by kernel_rfl) (by kernel_rfl) (by rfl) (fun w' hw => by go_simp) hS rfl ?_
          simp only [Act.put, List.setIfInBounds_toArray, List.set_cons_zero, List.set_cons_succ]
          refine hs_take (i := 2) (d := some 22) (v := .bool false) rfl (by kernel_rfl) (by kernel_rfl) (by kernel_rfl) (by rfl) (fun w' hw => by go_simp; first | done | omega | (simp; omega)) hS rfl ?_
          simp only [Act.put, List.setIfInBounds_toArray, List.set_cons_zero, List.set_cons_succ]
          refine hs_take (i := 3) (d := some 23) (v := ?_) rfl (by kernel_rfl) (by kernel_rfl) (by kernel_rfl) (by rfl) ?_ hS rfl ?_
          rotate_left
          · intro w' hw
            go_simp
            try with_reducible rfl
          simp only [Act.put, List.setIfInBounds_toArray, List.set_cons_zero, List.set_cons_succ]
          refine hs_take (i := 4) (d := some 24) (v := ?_) rfl (by kernel_rfl) (by kernel_rfl) (by kernel_rfl) (by rfl) ?_ hS rfl ?_
          rotate_left
          · intro w' hw
            go_simp
            try with_reducible rfl
          simp only [Act.put, List.setIfInBounds_toArray, List.set_cons_zero, List.set_cons_succ]
          refine hs_take (i := 5) (d := some 25) (v := ?_) rfl (by kernel_rfl) (by kernel_rfl) (by kernel_rfl) (by rfl) ?_ hS rfl ?_
          rotate_left
          · intro w' hw
            go_simp
            try with_reducible rfl
          simp only [Act.put, List.setIfInBounds_toArray, List.set_cons_zero, List.set_cons_succ]
          refine hs_take (i := 6) (d := some 26) (v := .int .i64 ((k + 1 : Nat) : Int)) rfl (by kernel_rfl) (by kernel_rfl) (by kernel_rfl) (by rfl) (fun w' hw => by go_simp) hS rfl ?_
          simp only [Act.put, List.setIfInBounds_toArray, List.set_cons_zero, List.set_cons_succ]
          refine hs_take (i := 7) (d := some 27) (v := .int .i64 (k : Int)) rfl (by kernel_rfl) (by kernel_rfl) (by kernel_rfl) (by rfl) (fun w' hw => by go_simp; first | done | (rw [wrap_id _ (by omega) (by omega)]; first | done | omega)) hS rfl ?_
          simp only [Act.put, List.setIfInBounds_toArray, List.set_cons_zero, List.set_cons_succ]
          refine hs_take (i := 8) (d := some 28) (v := .pointer (some ⟨b, off + k, none⟩)) rfl (by kernel_rfl) (by kernel_rfl) (by kernel_rfl) (by rfl) (fun w' hw => by go_simp; first | done | omega | (simp; omega)) hS rfl ?_
          simp only [Act.put, List.setIfInBounds_toArray, List.set_cons_zero, List.set_cons_succ]
          refine hs_take (i := 9) (d := some 29) (v := ?_) rfl (by kernel_rfl) (by kernel_rfl) (by kernel_rfl) (by rfl) ?_ hS rfl ?_
          rotate_left
          · intro w' hw
            have z1 := hw.2
            go_simp
            try with_reducible rfl
          simp only [Act.put, List.setIfInBounds_toArray, List.set_cons_zero, List.set_cons_succ]
          refine hs_take (i := 10) (d := some 30) (v := ?_) rfl (by kernel_rfl) (by kernel_rfl) (by kernel_rfl) (by rfl) ?_ hS rfl ?_
          rotate_left
          · intro w' hw
            go_simp
            try with_reducible rfl
          simp only [Act.put, List.setIfInBounds_toArray, List.set_cons_zero, List.set_cons_succ]
          refine hs_take (i := 11) (d := some 31) (v := ?_) rfl (by kernel_rfl) (by kernel_rfl) (by kernel_rfl) (by rfl) ?_ hS rfl ?_
          rotate_left
          · intro w' hw
            have z1 := hw.1
            go_simp
            try with_reducible rfl
          simp only [Act.put, List.setIfInBounds_toArray, List.set_cons_zero, List.set_cons_succ]
          refine hs_take (i := 12) (d := some 32) (v := .int .i64 (1099511627776 - B)) rfl (by kernel_rfl) (by kernel_rfl) (by kernel_rfl) (by rfl) (fun w' hw => by go_simp; first | done | exact wrap_id _ (by omega) (by omega)) hS rfl ?_
          simp only [Act.put, List.setIfInBounds_toArray, List.set_cons_zero, List.set_cons_succ]
          refine hs_take (i := 13) (d := some 33) (v := ?_) rfl (by kernel_rfl) (by kernel_rfl) (by kernel_rfl) (by rfl) ?_ hS rfl ?_
          rotate_left
          · intro w' hw
            go_simp
            try with_reducible rfl
          simp only [Act.put, List.setIfInBounds_toArray, List.set_cons_zero, List.set_cons_succ]
          refine hs_take (i := 14) (d := some 34) (v := ?_) rfl (by kernel_rfl) (by kernel_rfl) (by kernel_rfl) (by rfl) ?_ hS rfl ?_
          rotate_left
          · intro w' hw
            go_simp
            try with_reducible rfl
          simp only [Act.put, List.setIfInBounds_toArray, List.set_cons_zero, List.set_cons_succ]
          refine hs_take (i := 15) (d := some 2) (v := ?_) rfl (by kernel_rfl) (by kernel_rfl) (by kernel_rfl) (by rfl) ?_ hS rfl ?_
          rotate_left
          · intro w' hw
            go_simp
            try with_reducible rfl
          simp only [Act.put, List.setIfInBounds_toArray, List.set_cons_zero, List.set_cons_succ]
          refine hs_done (by kernel_rfl) ?_
          go_wp2_with fail
          go_ret
          exact ⟨ret_bool (by first | rfl | simp), hB8⟩
      · have HG : Hid (goodW B m = false) := by
          show _ = _
          unfold goodW; rw [hb]; simp
        rw [HG.out]
        rw [hb] at c1
        clear hb hm HG
        go_enter Try.func12, Try.ntmps12
        go_wp2_with (go_at_call 36; refine (c1 _).mono ?_; rintro e w5 ⟨rfl, hx⟩; obtain rfl := hx.symm; clear hx)
        go_ret
        exact ⟨rfl, hBx⟩
end Go.Proofs.Ytnjlamcpfclgaaa
