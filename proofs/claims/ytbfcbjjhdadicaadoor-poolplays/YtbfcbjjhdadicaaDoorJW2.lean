/- window.Mark: its contract. The document's Good, Done, Count, Ask, Mark of windows: contracts. The document's Done, Ask, Count, Mark of windows: contracts. -/
import Derived.Test.YtbfcbjjhdadicaaDoorJW
import Derived.BigQuiet
namespace Go.Proofs.YtbfcbjjhdadicaaDoor.Wn
open Go.RowKit
set_option maxRecDepth 100000 in
theorem there_set {w : World} {b o n : Nat} (h : w.there b o n) (p : Addr) (v : Value) : (w.setCell p v).there b o n := by
  intro j hj
  obtain ⟨h1, h2⟩ := h j hj
  refine ⟨?_, by rw [World.frozen?_setCell]; exact h2⟩
  by_cases e : (⟨b, o + j, none⟩ : Addr) = p
  · subst e
    obtain ⟨u, hu⟩ := Option.isSome_iff_exists.1 h1
    rw [World.cell?_setCell_same _ _ _ hu]; rfl
  · rw [World.cell?_setCell_other _ _ _ _ (fun q => e (by first | exact q | exact q.symm))]; exact h1
set_option maxRecDepth 100000 in
theorem two_cells (B m : Int) : (#[Value.int .i64 B, Value.int .u64 m].all fun x => x.oneCell') = true := by simp [Value.oneCell']
end Go.Proofs.YtbfcbjjhdadicaaDoor.Wn
namespace Go.Proofs.YtbfcbjjhdadicaaDoor.Wn
open Go.RowKit
set_option maxRecDepth 100000 in
theorem below_drewN {n : Nat} {a w : World} (h : Below n a w) (k : Nat) : Below n a (w.drewN k) := ⟨h.os, h.tape, h.output, h.size, h.block⟩
set_option maxRecDepth 100000 in
theorem set_last {m : Nat} {k : Nat} (h : (setN m).length = k + 1) : ∃ x : Nat, (ints (setN m))[k]? = some (x : Int) ∧ x < 64 ∧ m.testBit x = true ∧ ∀ j, j < 64 → m.testBit j = true → j ≤ x := by
  have hk : k < (setN m).length := by omega
  obtain ⟨x, hx⟩ : ∃ x, (setN m)[k]? = some x := ⟨_, List.getElem?_eq_getElem hk⟩
  have hm := List.mem_of_getElem? hx
  have hs := mem_setN.1 hm
  refine ⟨x, by unfold ints; rw [List.getElem?_map, hx]; rfl, hs.1, hs.2, fun j hj hb => ?_⟩
  have hj' := mem_setN.2 ⟨hj, hb⟩
  obtain ⟨i, hi, rfl⟩ := List.getElem_of_mem hj'
  have hp := setUp_lt m 64
  have ex : (setN m)[k] = x := by rw [List.getElem?_eq_getElem hk] at hx; exact Option.some.inj hx
  rcases Nat.lt_or_ge i k with h' | h'
  · have := List.pairwise_iff_getElem.1 hp i k hi hk h'
    have e2 : (setUp m 64)[k] = x := ex
    have e3 : (setUp m 64)[i] = (setN m)[i] := rfl
    omega
  · obtain rfl : i = k := by omega
    omega
set_option maxRecDepth 100000 in
theorem good_last {B : Int} {m : Nat} (hm : m < 2 ^ 64) (h0 : 1 ≤ B) (h1 : B ≤ 1099511627777) (hb : m.testBit 0 = false) {x : Nat} (hxm : m.testBit x = true) (hle : ∀ j, j < 64 → m.testBit j = true → j ≤ x) : goodW B m = decide ((x : Int) ≤ 1099511627776 - B) := by
  by_cases h : (x : Int) ≤ 1099511627776 - B
  · rw [decide_eq_true h]
    refine good_iff.2 ⟨⟨h0, h1⟩, hb, fun j hj => ?_⟩
    have h64 : j < 64 := by
      rcases Nat.lt_or_ge j 64 with q | q
      · exact q
      · rw [no_high hm q] at hj; cases hj
    have := hle j h64 hj
    omega
  · rw [decide_eq_false h]
    cases hg : goodW B m
    · rfl
    · have := (good_iff.1 hg).2.2 x hxm; omega
set_option maxRecDepth 100000 in
theorem good_none {B : Int} {m : Nat} (hm : m < 2 ^ 64) (h0 : 1 ≤ B) (h1 : B ≤ 1099511627777) (h : (setN m).length = 0) : goodW B m = true := by
  have hn : ∀ j, m.testBit j = false := fun j => by
    rcases Nat.lt_or_ge j 64 with q | q
    · cases hb : m.testBit j
      · rfl
      · have := mem_setN.2 ⟨q, hb⟩
        rw [List.eq_nil_of_length_eq_zero h] at this; cases this
    · exact no_high hm q
  exact good_iff.2 ⟨⟨h0, h1⟩, hn 0, fun j hj => by rw [hn j] at hj; cases hj⟩
set_option maxHeartbeats 2000000 in
set_option maxRecDepth 100000 in
theorem refGoodW_any (B : Int) (m : Nat) (hm : m < 2 ^ 64) (w : World) : Calls Tryd.prog 59 #[winV B (m : Int)] w fun e w' => e = .returned (.bool (goodW B m)) ∧ Below w.heap.size w w' := by
  have hBx : Below w.heap.size w (w.alloc (.cells #[.int .i64 B, .int .u64 (m : Int)] 69)) := (Below.refl _ _).alloc (Nat.le_refl _) _
  by_cases h0 : B < 1
  · have HG : Hid (goodW B m = false) := by show _ = _; unfold goodW; rw [decide_eq_false (by omega)]; rfl
    rw [HG.out]
    clear hm HG
    go_enter Tryd.func59, Tryd.ntmps59
    go_wp2_with fail
    go_ret
    exact ⟨rfl, hBx⟩
  · by_cases h1 : 1099511627777 < B
    · have HG : Hid (goodW B m = false) := by show _ = _; unfold goodW; rw [decide_eq_false (by omega)]; rfl
      rw [HG.out]
      clear hm HG
      go_enter Tryd.func59, Tryd.ntmps59
      go_wp2_with fail
      go_ret
      exact ⟨rfl, hBx⟩
    · have c1 := refHas_any m hm 0
      have e0 : hasN m 0 = m.testBit 0 := hasN_cast m 0 (by decide)
      rw [e0] at c1
      clear e0
      cases hb : m.testBit 0
      · rw [hb] at c1
        have c2 := refList_any m hm
        have hl64 : (setN m).length ≤ 64 := setUp_len m 64
        cases hk : (setN m).length with
        | zero =>
          have HG := hide (good_none (B := B) hm (by omega) (by omega) hk)
          rw [HG.out]
          clear HG
          rw [hk] at c2
          generalize vals (setN m) = vs at *
          clear hb hm hk hl64
          go_enter Tryd.func59, Tryd.ntmps59
          go_wp2_with (go_at_call 60; refine (c1 _).mono ?_; rintro e w5 ⟨rfl, hx⟩; obtain rfl := hx.symm; clear hx)
          refine (c2 _).mono ?_
          rintro e w1 ⟨v, rfl, hrow, hb1⟩
          obtain ⟨va, vcap, rfl⟩ := ownsRow_slice hrow
          obtain ⟨hA, hB1, hz⟩ := one_box hb1
          clear c1 c2 hrow hb1
          go_wp2_with fail
          go_quiet (fail)
          go_wp2_with fail
          go_ret
          exact ⟨rfl, below_drewN hB1 _⟩
        | succ k =>
          obtain ⟨x, hx, hx64, hxm, hxl⟩ := set_last hk
          have HG := hide (good_last (B := B) hm (by omega) (by omega) hb hxm hxl)
          rw [HG.out]
          clear HG hb hxm hxl
          have hkl : k < 64 := by omega
          go_enter Tryd.func59, Tryd.ntmps59
          go_wp2_with (go_at_call 60; refine (c1 _).mono ?_; rintro e w5 ⟨rfl, hx⟩; obtain rfl := hx.symm; clear hx)
          refine (c2 _).mono ?_
          rintro e w1 ⟨v, rfl, hrow, hb1⟩
          obtain ⟨va, vcap, rfl, hr⟩ := own_set hrow hl64
          obtain ⟨hA, hB1, hz⟩ := one_box hb1
          have hil : (ints (setN m)).length = k + 1 := by rw [ints_length, hk]
          obtain ⟨b, off, rfl, hcx⟩ := rowI_cell hr (Below.refl _ _) (k := k) (by omega)
          have ex : (ints (setN m))[k] = (x : Int) := by rw [List.getElem?_eq_getElem (by omega)] at hx; exact Option.some.inj hx
          rw [ex] at hcx
          rw [hk]
          have q0 : w1.cell? ⟨w.heap.size, 0, none⟩ = some (.int .i64 B) := hA 0 _ rfl
          clear c1 c2 hrow hb1 hr hx ex hil hl64 hk hm hA
          have hkc : (k : Int) < ((k + 1 : Nat) : Int) := by omega
          go_wp2_with fail
          obtain ⟨w8, hw8⟩ : ∃ w8, w1.drew = w8 := ⟨_, rfl⟩
          refine hs_begin (S := (fun W => W.cell? ⟨w.heap.size, 0, none⟩ = some (.int .i64 B) ∧ W.cell? ⟨b, off + k, none⟩ = some (.int .i64 (x : Int)))) 16 rfl (by kernel_rfl) ?_
          have hS : (fun W => W.cell? ⟨w.heap.size, 0, none⟩ = some (.int .i64 B) ∧ W.cell? ⟨b, off + k, none⟩ = some (.int .i64 (x : Int))) w8 := by rw [← hw8]; exact ⟨q0, hcx⟩
          have hB8 : Below w.heap.size w w8 := by rw [← hw8]; exact hB1.drew
          rw [hw8]
          clear hw8 q0 hcx
          refine hs_take (i := 0) (d := some 20) (v := ?_) rfl (by kernel_rfl) (by kernel_rfl) (by kernel_rfl) (by rfl) ?_ hS rfl ?_
          rotate_left
          · intro w' hw
            go_simp
            try with_reducible rfl
          simp only [Act.put, List.setIfInBounds_toArray, List.set_cons_zero, List.set_cons_succ]
          refine hs_take (i := 1) (d := some 21) (v := .int .i64 ((k + 1 : Nat) : Int)) rfl (by kernel_rfl) (by kernel_rfl) (by kernel_rfl) (by rfl) (fun w' hw => by go_simp) hS rfl ?_
          simp only [Act.put, List.setIfInBounds_toArray, List.set_cons_zero, List.set_cons_succ]
          refine hs_take (i := 2) (d := some 22) (v := .bool false) rfl (by kernel_rfl) (by kernel_rfl) (by kernel_rfl) (by rfl) (fun w' hw => by go_simp; first | done | omega | (simp; omega)) hS rfl ?_
          simp only [Act.put, List.setIfInBounds_toArray, List.set_cons_zero, List.set_cons_succ]
          refine hs_take (i := 3) (d := some 23) (v := ?_) rfl (by kernel_rfl) (by kernel_rfl) (by kernel_rfl) (by rfl) ?_ hS rfl ?_
          rotate_left
          · intro w' hw
            go_simp
            try with_reducible rfl
          simp only [Act.put, List.setIfInBounds_toArray, List.set_cons_zero, List.set_cons_succ]
          refine hs_take (i := 4) (d := some 24) (v := ?_) rfl (by kernel_rfl) (by kernel_rfl) (by kernel_rfl) (by rfl) ?_ hS rfl ?_
          rotate_left
          · intro w' hw
            go_simp
            try with_reducible rfl
          simp only [Act.put, List.setIfInBounds_toArray, List.set_cons_zero, List.set_cons_succ]
          refine hs_take (i := 5) (d := some 25) (v := ?_) rfl (by kernel_rfl) (by kernel_rfl) (by kernel_rfl) (by rfl) ?_ hS rfl ?_
          rotate_left
          · intro w' hw
            go_simp
            try with_reducible rfl
          simp only [Act.put, List.setIfInBounds_toArray, List.set_cons_zero, List.set_cons_succ]
          refine hs_take (i := 6) (d := some 26) (v := .int .i64 ((k + 1 : Nat) : Int)) rfl (by kernel_rfl) (by kernel_rfl) (by kernel_rfl) (by rfl) (fun w' hw => by go_simp) hS rfl ?_
          simp only [Act.put, List.setIfInBounds_toArray, List.set_cons_zero, List.set_cons_succ]
          refine hs_take (i := 7) (d := some 27) (v := .int .i64 (k : Int)) rfl (by kernel_rfl) (by kernel_rfl) (by kernel_rfl) (by rfl) (fun w' hw => by go_simp; first | done | (rw [wrap_id _ (by omega) (by omega)]; first | done | omega)) hS rfl ?_
          simp only [Act.put, List.setIfInBounds_toArray, List.set_cons_zero, List.set_cons_succ]
          refine hs_take (i := 8) (d := some 28) (v := .pointer (some ⟨b, off + k, none⟩)) rfl (by kernel_rfl) (by kernel_rfl) (by kernel_rfl) (by rfl) (fun w' hw => by go_simp; first | done | omega | (simp; omega)) hS rfl ?_
          simp only [Act.put, List.setIfInBounds_toArray, List.set_cons_zero, List.set_cons_succ]
          refine hs_take (i := 9) (d := some 29) (v := ?_) rfl (by kernel_rfl) (by kernel_rfl) (by kernel_rfl) (by rfl) ?_ hS rfl ?_
          rotate_left
          · intro w' hw
            have z1 := hw.2
            go_simp
            try with_reducible rfl
          simp only [Act.put, List.setIfInBounds_toArray, List.set_cons_zero, List.set_cons_succ]
          refine hs_take (i := 10) (d := some 30) (v := ?_) rfl (by kernel_rfl) (by kernel_rfl) (by kernel_rfl) (by rfl) ?_ hS rfl ?_
          rotate_left
          · intro w' hw
            go_simp
            try with_reducible rfl
          simp only [Act.put, List.setIfInBounds_toArray, List.set_cons_zero, List.set_cons_succ]
          refine hs_take (i := 11) (d := some 31) (v := ?_) rfl (by kernel_rfl) (by kernel_rfl) (by kernel_rfl) (by rfl) ?_ hS rfl ?_
          rotate_left
          · intro w' hw
            have z1 := hw.1
            go_simp
            try with_reducible rfl
          simp only [Act.put, List.setIfInBounds_toArray, List.set_cons_zero, List.set_cons_succ]
          refine hs_take (i := 12) (d := some 32) (v := .int .i64 (1099511627776 - B)) rfl (by kernel_rfl) (by kernel_rfl) (by kernel_rfl) (by rfl) (fun w' hw => by go_simp; first | done | exact wrap_id _ (by omega) (by omega)) hS rfl ?_
          simp only [Act.put, List.setIfInBounds_toArray, List.set_cons_zero, List.set_cons_succ]
          refine hs_take (i := 13) (d := some 33) (v := ?_) rfl (by kernel_rfl) (by kernel_rfl) (by kernel_rfl) (by rfl) ?_ hS rfl ?_
          rotate_left
          · intro w' hw
            go_simp
            try with_reducible rfl
          simp only [Act.put, List.setIfInBounds_toArray, List.set_cons_zero, List.set_cons_succ]
          refine hs_take (i := 14) (d := some 34) (v := ?_) rfl (by kernel_rfl) (by kernel_rfl) (by kernel_rfl) (by rfl) ?_ hS rfl ?_
          rotate_left
          · intro w' hw
            go_simp
            try with_reducible rfl
          simp only [Act.put, List.setIfInBounds_toArray, List.set_cons_zero, List.set_cons_succ]
          refine hs_take (i := 15) (d := some 2) (v := ?_) rfl (by kernel_rfl) (by kernel_rfl) (by kernel_rfl) (by rfl) ?_ hS rfl ?_
          rotate_left
          · intro w' hw
            go_simp
            try with_reducible rfl
          simp only [Act.put, List.setIfInBounds_toArray, List.set_cons_zero, List.set_cons_succ]
          refine hs_done (by kernel_rfl) ?_
          go_wp2_with fail
          go_ret
          exact ⟨ret_bool (by first | rfl | simp), hB8⟩
      · have HG : Hid (goodW B m = false) := by
          show _ = _
          unfold goodW; rw [hb]; simp
        rw [HG.out]
        rw [hb] at c1
        clear hb hm HG
        go_enter Tryd.func59, Tryd.ntmps59
        go_wp2_with (go_at_call 60; refine (c1 _).mono ?_; rintro e w5 ⟨rfl, hx⟩; obtain rfl := hx.symm; clear hx)
        go_ret
        exact ⟨rfl, hBx⟩
end Go.Proofs.YtbfcbjjhdadicaaDoor.Wn
namespace Go.Proofs.YtbfcbjjhdadicaaDoor.Wn
open Go.RowKit
set_option maxHeartbeats 1000000 in
set_option maxRecDepth 100000 in
theorem refDoneW_any (B : Int) (m : Nat) (hm : m < 2 ^ 64) (n : Int) (hn : n ≤ 9223372036854775807) (w : World) : Calls Tryd.prog 48 #[winV B (m : Int), .int .i64 n] w fun e w' => e = .returned (.bool (doneW B m n)) ∧ Below w.heap.size w w' := by
  have c1 := refGoodW_any B m hm
  cases hg : goodW B m
  · rw [hg] at c1
    have HD : Hid (doneW B m n = false) := by show _ = _; unfold doneW; rw [hg]; rfl
    rw [HD.out]
    clear hm HD hg
    go_enter Tryd.func48, Tryd.ntmps48
    go_wp2_with fail
    refine (c1 _).mono ?_
    rintro e w1 ⟨rfl, hb⟩
    clear c1
    obtain ⟨hA, hB1, hz⟩ := one_box hb
    clear hb
    go_wp2_with fail
    go_ret
    exact ⟨rfl, hB1⟩
  · rw [hg] at c1
    have hb12 := good_B hg
    have HD : Hid (doneW B m n = (decide (1 ≤ n) && (decide (n < B) || hasN m (n - B)))) := by show _ = _; unfold doneW inW; rw [hg]; rfl
    rw [HD.out]
    have c2 := refHas_any m hm (n - B)
    generalize hasN m (n - B) = r at *
    clear hm HD hg
    by_cases h1 : n < 1
    · rw [decide_eq_false (by omega : ¬ 1 ≤ n), Bool.false_and]
      go_enter Tryd.func48, Tryd.ntmps48
      go_wp2_with fail
      refine (c1 _).mono ?_
      rintro e w1 ⟨rfl, hb⟩
      clear c1 c2
      obtain ⟨hA, hB1, hz⟩ := one_box hb
      clear hb
      go_wp2_with fail
      go_ret
      exact ⟨rfl, hB1⟩
    · rw [decide_eq_true (by omega : 1 ≤ n), Bool.true_and]
      by_cases h2 : n < B
      · rw [decide_eq_true h2, Bool.true_or]
        go_enter Tryd.func48, Tryd.ntmps48
        go_wp2_with fail
        refine (c1 _).mono ?_
        rintro e w1 ⟨rfl, hb⟩
        clear c1 c2
        obtain ⟨hA, hB1, hz⟩ := one_box hb
        clear hb
        have q0 : w1.cell? ⟨w.heap.size, 0, none⟩ = some (.int .i64 B) := hA 0 _ rfl
        have q1 : w1.cell? ⟨w.heap.size, 1, none⟩ = some (.int .u64 (m : Int)) := hA 1 _ rfl
        go_wp2_with fail
        go_ret
        exact ⟨rfl, hB1⟩
      · rw [decide_eq_false h2, Bool.false_or]
        go_enter Tryd.func48, Tryd.ntmps48
        go_wp2_with fail
        refine (c1 _).mono ?_
        rintro e w1 ⟨rfl, hb⟩
        clear c1
        obtain ⟨hA, hB1, hz⟩ := one_box hb
        clear hb
        have q0 : w1.cell? ⟨w.heap.size, 0, none⟩ = some (.int .i64 B) := hA 0 _ rfl
        have q1 : w1.cell? ⟨w.heap.size, 1, none⟩ = some (.int .u64 (m : Int)) := hA 1 _ rfl
        go_wp2_with (go_at_call 60; refine (c2 _).mono ?_; rintro e w2 ⟨rfl, hx⟩; obtain rfl := hx.symm; clear hx)
        go_ret
        exact ⟨ret_bool (by first | rfl | rw [decide_eq_false (by omega : ¬ n < B), Bool.false_or]), hB1⟩
end Go.Proofs.YtbfcbjjhdadicaaDoor.Wn
