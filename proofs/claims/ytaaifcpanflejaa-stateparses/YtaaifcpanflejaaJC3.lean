/- window.settled, Good, Done, Count, Ask, Mark: contracts.; window.Mark: its contract.; The document's Good, Done, Count, Ask, Mark of windows: contracts.; Plain mathematics of leaders: configs, penalties, who owns which bucket. Imports nothing of the translation.; What a law is told of its slices of ints; small words.; quorum's Good, Faults, Some; leaders' within, Good, mayBe and the document's: contracts.; leaders' Good, mayBe and the document's: contracts.; windows and penalties in rows; lists compared, asked; which windows, which penalties may not be; states: their cells, which may be; states that may be, by the document -/
import Derived.Test.YtaaifcpanflejaaJC2
import Derived.BigQuiet
import Derived.Test.YtaaifcpanflejaaProg
import Derived.WalkKit
import Derived.WalkSpells
import Derived.WalkLawsBesides
import Derived.Below
import Derived.Deep.OwnRows
import Derived.ProofKit
import Derived.OpenShut
import Derived.ShutString
import Derived.ChangeOld
import Derived.Laws.ResultCell
namespace Go.Proofs.Ytaaifcpanflejaa.Wn
set_option maxRecDepth 100000
open Go.RowKit
theorem wrap_id (x : Int) (h0 : -9223372036854775808 ≤ x) (h1 : x ≤ 9223372036854775807) : IntKind.i64.wrap x = x := by
  rw [IntKind.wrap_i64]; omega
theorem natz (d : Nat) : (((d : Nat) : Int) == 0) = decide (d = 0) := by
  by_cases h : d = 0
  · subst h; rfl
  · have : ¬ ((d : Int) = 0) := by omega
    simp [h]
set_option maxHeartbeats 1000000 in
theorem settled_any (B : Int) (m : Nat) (hm : m < 2 ^ 64) (h0 : 0 ≤ B) (h1 : B ≤ 1099511627777) (w : World) : Calls Try.prog 62 #[winV B (m : Int)] w fun e w' => e = .returned (winV (setB B m) (setM m : Int)) ∧ Below w.heap.size w w' := by
  have c1 := ones_any m hm
  have c2 := down_any m hm (onesN m : Int)
  have hL := ones_le m
  have HB : Hid (B + (onesN m : Int) = setB B m) := rfl
  have HM : Hid (downN m (onesN m : Int) = setM m) := rfl
  rw [HM.out] at c2
  generalize setM m = m2 at *
  generalize onesN m = L at *
  clear hm HM
  go_enter Try.func62, Try.ntmps62
  go_wp2_with fail
  refine (c1 _).mono ?_
  rintro e w1 ⟨rfl, hb⟩
  clear c1
  obtain ⟨hA, hT, hB1, hz⟩ := two_box hb
  clear hb
  go_wp2_with fail
  obtain ⟨w8, hw8⟩ : ∃ w8, w1.drew = w8 := ⟨_, rfl⟩
  refine hs_begin (S := (fun W => W.rangeAt w.heap.size 0 (winC B (m : Int)))) 10 rfl (by kernel_rfl) ?_
  have hS : (w8).rangeAt w.heap.size 0 (winC B (m : Int)) := by rw [← hw8]; exact hA
  have hT8 : (w8).there (w.heap.size + 1) 0 2 := by rw [← hw8]; exact hT
  have hB8 : Below w.heap.size w w8 := by rw [← hw8]; exact (Below.drew hB1)
  rw [hw8]
  clear hA hT hB1
  refine hs_take (i := 0) (d := some 7) (v := ?_) rfl (by kernel_rfl) (by kernel_rfl) (by kernel_rfl) (by rfl) ?_ hS rfl ?_
  rotate_left
  · intro w' hw
    go_simp
    try with_reducible rfl
  simp only [Act.put, List.setIfInBounds_toArray, List.set_cons_zero, List.set_cons_succ]
  refine hs_take (i := 1) (d := some 8) (v := ?_) rfl (by kernel_rfl) (by kernel_rfl) (by kernel_rfl) (by rfl) ?_ hS rfl ?_
  rotate_left
  · intro w' hw
    have q0 : w'.cell? ⟨w.heap.size, 0, none⟩ = some (.int .i64 B) := hw 0 _ rfl; have q1 : w'.cell? ⟨w.heap.size, 1, none⟩ = some (.int .u64 (m : Int)) := hw 1 _ rfl
    go_simp
    try with_reducible rfl
  simp only [Act.put, List.setIfInBounds_toArray, List.set_cons_zero, List.set_cons_succ]
  refine hs_take (i := 2) (d := some 9) (v := ?_) rfl (by kernel_rfl) (by kernel_rfl) (by kernel_rfl) (by rfl) ?_ hS rfl ?_
  rotate_left
  · intro w' hw
    go_simp
    try with_reducible rfl
  simp only [Act.put, List.setIfInBounds_toArray, List.set_cons_zero, List.set_cons_succ]
  refine hs_take (i := 3) (d := some 10) (v := .int .i64 (B + (L : Int))) rfl (by kernel_rfl) (by kernel_rfl) (by kernel_rfl) (by rfl) (fun w' hw => by go_simp; exact wrap_id _ (by omega) (by omega)) hS rfl ?_
  simp only [Act.put, List.setIfInBounds_toArray, List.set_cons_zero, List.set_cons_succ]
  refine hs_take (i := 4) (d := some 11) (v := ?_) rfl (by kernel_rfl) (by kernel_rfl) (by kernel_rfl) (by rfl) ?_ hS rfl ?_
  rotate_left
  · intro w' hw
    go_simp
    try with_reducible rfl
  simp only [Act.put, List.setIfInBounds_toArray, List.set_cons_zero, List.set_cons_succ]
  refine hs_take (i := 5) (d := some 12) (v := ?_) rfl (by kernel_rfl) (by kernel_rfl) (by kernel_rfl) (by rfl) ?_ hS rfl ?_
  rotate_left
  · intro w' hw
    have q0 : w'.cell? ⟨w.heap.size, 0, none⟩ = some (.int .i64 B) := hw 0 _ rfl; have q1 : w'.cell? ⟨w.heap.size, 1, none⟩ = some (.int .u64 (m : Int)) := hw 1 _ rfl
    go_simp
    try with_reducible rfl
  simp only [Act.put, List.setIfInBounds_toArray, List.set_cons_zero, List.set_cons_succ]
  refine hs_take (i := 6) (d := some 13) (v := ?_) rfl (by kernel_rfl) (by kernel_rfl) (by kernel_rfl) (by rfl) ?_ hS rfl ?_
  rotate_left
  · intro w' hw
    go_simp
    try with_reducible rfl
  simp only [Act.put, List.setIfInBounds_toArray, List.set_cons_zero, List.set_cons_succ]
  refine hs_call (i := 7) (d := some 14) rfl (by kernel_rfl) (by rfl) (by go_simp; first | done | exact ⟨rfl, rfl⟩ | with_reducible rfl) rfl ?_
  refine (c2 w8).mono ?_
  rintro e' w9 ⟨rfl, hx⟩
  have hS : (fun W => W.rangeAt w.heap.size 0 (winC B (m : Int))) w9 := by rw [hx]; exact hS
  refine ⟨_, rfl, hS, ?_⟩
  simp only [Act.put, List.setIfInBounds_toArray, List.set_cons_zero, List.set_cons_succ]
  obtain rfl := hx.symm
  refine hs_take (i := 8) (d := some 15) (v := ?_) rfl (by kernel_rfl) (by kernel_rfl) (by kernel_rfl) (by rfl) ?_ hS rfl ?_
  rotate_left
  · intro w' hw
    go_simp
    try with_reducible rfl
  simp only [Act.put, List.setIfInBounds_toArray, List.set_cons_zero, List.set_cons_succ]
  have hk : (w8.setCells (w.heap.size + 1) 0 (winC (B + (L : Int)) (m2 : Int))).rangeAt w.heap.size 0 (winC B (m : Int)) := win_apart hS (by omega)
  refine hs_store (i := 9) (w' := w8.setCells (w.heap.size + 1) 0 (winC (B + (L : Int)) (m2 : Int))) rfl (by kernel_rfl) (by rfl) (exec_store rfl rfl rfl (win_store hT8)) rfl hk ?_
  refine hs_done (by kernel_rfl) ?_
  have hrs := win_load (win_set (B := B + (L : Int)) (m := (m2 : Int)) hT8)
  go_wp2_with fail
  exact bodyPost_ret (v := winV (B + (L : Int)) (m2 : Int)) (by simp [results, Try.results62, asAddr, hrs]) rfl ⟨by rw [HB.out], below_sets (by omega) _ 0 _ hB8⟩
set_option maxHeartbeats 1000000 in
theorem good_any (B : Int) (m : Nat) (hm : m < 2 ^ 64) (w : World) : Calls Try.prog 49 #[winV B (m : Int)] w fun e w' => e = .returned (.bool (goodW B m)) ∧ Below w.heap.size w w' := by
  have hBx : Below w.heap.size w (w.alloc (.cells #[.int .i64 B, .int .u64 (m : Int)] 57)) := (Below.refl _ _).alloc (Nat.le_refl _) _
  by_cases h0 : B < 1
  · have HG : Hid (goodW B m = false) := by show _ = _; unfold goodW; rw [decide_eq_false (by omega)]; rfl
    rw [HG.out]
    clear hm HG
    go_enter Try.func49, Try.ntmps49
    go_wp2_with fail
    go_ret
    exact ⟨rfl, hBx⟩
  · by_cases h1 : 1099511627777 < B
    · have HG : Hid (goodW B m = false) := by show _ = _; unfold goodW; rw [decide_eq_false (by omega)]; rfl
      rw [HG.out]
      clear hm HG
      go_enter Try.func49, Try.ntmps49
      go_wp2_with fail
      go_ret
      exact ⟨rfl, hBx⟩
    · have c1 := settled_any B m hm (by omega) (by omega)
      have c2 := down_any m hm (1099511627777 - B)
      have HG : Hid (goodW B m = (!m.testBit 0 && decide (downN m (1099511627777 - B) = 0))) := by show _ = _; unfold goodW; rw [decide_eq_true (by omega)]; rfl
      rw [HG.out]
      obtain ⟨hA, _, hz⟩ := one_box (Below.refl (w.alloc (.cells #[.int .i64 B, .int .u64 (m : Int)] 57)).heap.size _)
      cases hb : m.testBit 0
      · have e0 : onesN m = 0 := (ones_zero m).2 hb
        have e1 : setB B m = B := by unfold setB; rw [e0]; simp
        have e2 : setM m = m := by unfold setM; rw [e0]; rfl
        rw [e1, e2] at c1
        generalize downN m (1099511627777 - B) = d at *
        clear e0 e1 e2 hb hm HG
        go_enter Try.func49, Try.ntmps49
        go_wp2_with fail
        obtain ⟨w1, hw1⟩ : ∃ w1, w.alloc (.cells #[.int .i64 B, .int .u64 (m : Int)] 57) = w1 := ⟨_, rfl⟩
        rw [hw1] at hA hz hBx ⊢
        clear hw1
        obtain ⟨w8, hw8⟩ : ∃ w8, w1.drew = w8 := ⟨_, rfl⟩
        refine hs_begin (S := (fun W => W.rangeAt w.heap.size 0 (winC B (m : Int)))) 14 rfl (by kernel_rfl) ?_
        have hS : (w8).rangeAt w.heap.size 0 (winC B (m : Int)) := by rw [← hw8]; exact hA
        have hB8 : Below w.heap.size w w8 := by rw [← hw8]; exact (Below.drew hBx)
        have hz8 : w.heap.size < w8.heap.size := by rw [← hw8]; exact hz
        rw [hw8]
        clear hA hBx hz
        refine hs_take (i := 0) (d := some 11) (v := winV B (m : Int)) rfl (by kernel_rfl) (by kernel_rfl) (by kernel_rfl) (by rfl) (fun w' hw => exec_load rfl rfl (win_load hw)) hS rfl ?_
        simp only [Act.put, List.setIfInBounds_toArray, List.set_cons_zero, List.set_cons_succ]
        refine hs_take (i := 2) (d := some 13) (v := winV B (m : Int)) rfl (by kernel_rfl) (by kernel_rfl) (by kernel_rfl) (by rfl) (fun w' hw => exec_load rfl rfl (win_load hw)) hS rfl ?_
        simp only [Act.put, List.setIfInBounds_toArray, List.set_cons_zero, List.set_cons_succ]
        refine hs_call (i := 1) (d := some 12) rfl (by kernel_rfl) (by rfl) (by go_simp; first | done | exact ⟨rfl, rfl⟩ | with_reducible rfl) rfl ?_
        refine (c1 w8).mono ?_
        rintro e' w9 ⟨rfl, hw9⟩
        have hS : (fun W => W.rangeAt w.heap.size 0 (winC B (m : Int))) w9 := range_below hS hw9 hz8
        refine ⟨_, rfl, hS, ?_⟩
        simp only [Act.put, List.setIfInBounds_toArray, List.set_cons_zero, List.set_cons_succ]
        have hB9 := hB8.trans (hw9.mono hB8.size)
        clear c1
        refine hs_take (i := 3) (d := some 14) (v := .bool true) rfl (by kernel_rfl) (by kernel_rfl) (by kernel_rfl) (by rfl) (fun w' hw => by go_simp) hS rfl ?_
        simp only [Act.put, List.setIfInBounds_toArray, List.set_cons_zero, List.set_cons_succ]
        refine hs_take (i := 4) (d := some 15) (v := ?_) rfl (by kernel_rfl) (by kernel_rfl) (by kernel_rfl) (by rfl) ?_ hS rfl ?_
        rotate_left
        · intro w' hw
          go_simp
          try with_reducible rfl
        simp only [Act.put, List.setIfInBounds_toArray, List.set_cons_zero, List.set_cons_succ]
        refine hs_take (i := 5) (d := some 16) (v := ?_) rfl (by kernel_rfl) (by kernel_rfl) (by kernel_rfl) (by rfl) ?_ hS rfl ?_
        rotate_left
        · intro w' hw
          go_simp
          try with_reducible rfl
        simp only [Act.put, List.setIfInBounds_toArray, List.set_cons_zero, List.set_cons_succ]
        refine hs_take (i := 6) (d := some 17) (v := ?_) rfl (by kernel_rfl) (by kernel_rfl) (by kernel_rfl) (by rfl) ?_ hS rfl ?_
        rotate_left
        · intro w' hw
          have q0 : w'.cell? ⟨w.heap.size, 0, none⟩ = some (.int .i64 B) := hw 0 _ rfl; have q1 : w'.cell? ⟨w.heap.size, 1, none⟩ = some (.int .u64 (m : Int)) := hw 1 _ rfl
          go_simp
          try with_reducible rfl
        simp only [Act.put, List.setIfInBounds_toArray, List.set_cons_zero, List.set_cons_succ]
        refine hs_take (i := 7) (d := some 18) (v := ?_) rfl (by kernel_rfl) (by kernel_rfl) (by kernel_rfl) (by rfl) ?_ hS rfl ?_
        rotate_left
        · intro w' hw
          go_simp
          try with_reducible rfl
        simp only [Act.put, List.setIfInBounds_toArray, List.set_cons_zero, List.set_cons_succ]
        refine hs_take (i := 8) (d := some 19) (v := ?_) rfl (by kernel_rfl) (by kernel_rfl) (by kernel_rfl) (by rfl) ?_ hS rfl ?_
        rotate_left
        · intro w' hw
          have q0 : w'.cell? ⟨w.heap.size, 0, none⟩ = some (.int .i64 B) := hw 0 _ rfl; have q1 : w'.cell? ⟨w.heap.size, 1, none⟩ = some (.int .u64 (m : Int)) := hw 1 _ rfl
          go_simp
          try with_reducible rfl
        simp only [Act.put, List.setIfInBounds_toArray, List.set_cons_zero, List.set_cons_succ]
        refine hs_take (i := 9) (d := some 20) (v := .int .i64 (1099511627777 - B)) rfl (by kernel_rfl) (by kernel_rfl) (by kernel_rfl) (by rfl) (fun w' hw => by go_simp; exact wrap_id _ (by omega) (by omega)) hS rfl ?_
        simp only [Act.put, List.setIfInBounds_toArray, List.set_cons_zero, List.set_cons_succ]
        refine hs_call (i := 10) (d := some 21) rfl (by kernel_rfl) (by rfl) (by go_simp; first | done | exact ⟨rfl, rfl⟩ | with_reducible rfl) rfl ?_
        refine (c2 w9).mono ?_
        rintro e' w10 ⟨rfl, hx⟩
        have hS : (fun W => W.rangeAt w.heap.size 0 (winC B (m : Int))) w10 := by rw [hx]; exact hS
        refine ⟨_, rfl, hS, ?_⟩
        simp only [Act.put, List.setIfInBounds_toArray, List.set_cons_zero, List.set_cons_succ]
        obtain rfl := hx.symm
        refine hs_take (i := 11) (d := some 22) (v := ?_) rfl (by kernel_rfl) (by kernel_rfl) (by kernel_rfl) (by rfl) ?_ hS rfl ?_
        rotate_left
        · intro w' hw
          go_simp
          try with_reducible rfl
        simp only [Act.put, List.setIfInBounds_toArray, List.set_cons_zero, List.set_cons_succ]
        refine hs_take (i := 12) (d := some 23) (v := ?_) rfl (by kernel_rfl) (by kernel_rfl) (by kernel_rfl) (by rfl) ?_ hS rfl ?_
        rotate_left
        · intro w' hw
          go_simp
          try with_reducible rfl
        simp only [Act.put, List.setIfInBounds_toArray, List.set_cons_zero, List.set_cons_succ]
        refine hs_take (i := 13) (d := some 2) (v := ?_) rfl (by kernel_rfl) (by kernel_rfl) (by kernel_rfl) (by rfl) ?_ hS rfl ?_
        rotate_left
        · intro w' hw
          go_simp
          try with_reducible rfl
        simp only [Act.put, List.setIfInBounds_toArray, List.set_cons_zero, List.set_cons_succ]
        refine hs_done (by kernel_rfl) ?_
        go_wp2_with fail
        go_ret
        exact ⟨ret_bool (natz _), hB9⟩
      · have hne : setB B m ≠ B := by
          have : onesN m ≠ 0 := fun e => by rw [(ones_zero m).1 e] at hb; cases hb
          unfold setB; omega
        generalize setB B m = B2 at *
        generalize setM m = m2 at *
        clear c2 hm HG hb
        go_enter Try.func49, Try.ntmps49
        go_wp2_with fail
        obtain ⟨w1, hw1⟩ : ∃ w1, w.alloc (.cells #[.int .i64 B, .int .u64 (m : Int)] 57) = w1 := ⟨_, rfl⟩
        rw [hw1] at hA hz hBx ⊢
        clear hw1
        obtain ⟨w8, hw8⟩ : ∃ w8, w1.drew = w8 := ⟨_, rfl⟩
        refine hs_begin (S := (fun W => W.rangeAt w.heap.size 0 (winC B (m : Int)))) 14 rfl (by kernel_rfl) ?_
        have hS : (w8).rangeAt w.heap.size 0 (winC B (m : Int)) := by rw [← hw8]; exact hA
        have hB8 : Below w.heap.size w w8 := by rw [← hw8]; exact (Below.drew hBx)
        have hz8 : w.heap.size < w8.heap.size := by rw [← hw8]; exact hz
        rw [hw8]
        clear hA hBx hz
        refine hs_take (i := 0) (d := some 11) (v := winV B (m : Int)) rfl (by kernel_rfl) (by kernel_rfl) (by kernel_rfl) (by rfl) (fun w' hw => exec_load rfl rfl (win_load hw)) hS rfl ?_
        simp only [Act.put, List.setIfInBounds_toArray, List.set_cons_zero, List.set_cons_succ]
        refine hs_take (i := 2) (d := some 13) (v := winV B (m : Int)) rfl (by kernel_rfl) (by kernel_rfl) (by kernel_rfl) (by rfl) (fun w' hw => exec_load rfl rfl (win_load hw)) hS rfl ?_
        simp only [Act.put, List.setIfInBounds_toArray, List.set_cons_zero, List.set_cons_succ]
        refine hs_call (i := 1) (d := some 12) rfl (by kernel_rfl) (by rfl) (by go_simp; first | done | exact ⟨rfl, rfl⟩ | with_reducible rfl) rfl ?_
        refine (c1 w8).mono ?_
        rintro e' w9 ⟨rfl, hw9⟩
        have hS : (fun W => W.rangeAt w.heap.size 0 (winC B (m : Int))) w9 := range_below hS hw9 hz8
        refine ⟨_, rfl, hS, ?_⟩
        simp only [Act.put, List.setIfInBounds_toArray, List.set_cons_zero, List.set_cons_succ]
        have hB9 := hB8.trans (hw9.mono hB8.size)
        clear c1
        refine hs_take (i := 3) (d := some 14) (v := .bool false) rfl (by kernel_rfl) (by kernel_rfl) (by kernel_rfl) (by rfl) (fun w' hw => by go_simp; first | done | omega | simp [hne]) hS rfl ?_
        simp only [Act.put, List.setIfInBounds_toArray, List.set_cons_zero, List.set_cons_succ]
        refine hs_take (i := 4) (d := some 15) (v := ?_) rfl (by kernel_rfl) (by kernel_rfl) (by kernel_rfl) (by rfl) ?_ hS rfl ?_
        rotate_left
        · intro w' hw
          go_simp
          try with_reducible rfl
        simp only [Act.put, List.setIfInBounds_toArray, List.set_cons_zero, List.set_cons_succ]
        refine hs_skip (i := 5) (d := some 16) rfl (by kernel_rfl) (by kernel_rfl) (by kernel_rfl) (by rfl) hS rfl ?_
        simp only [Act.put, List.setIfInBounds_toArray, List.set_cons_zero, List.set_cons_succ]
        refine hs_skip (i := 6) (d := some 17) rfl (by kernel_rfl) (by kernel_rfl) (by kernel_rfl) (by rfl) hS rfl ?_
        simp only [Act.put, List.setIfInBounds_toArray, List.set_cons_zero, List.set_cons_succ]
        refine hs_skip (i := 7) (d := some 18) rfl (by kernel_rfl) (by kernel_rfl) (by kernel_rfl) (by rfl) hS rfl ?_
        simp only [Act.put, List.setIfInBounds_toArray, List.set_cons_zero, List.set_cons_succ]
        refine hs_skip (i := 8) (d := some 19) rfl (by kernel_rfl) (by kernel_rfl) (by kernel_rfl) (by rfl) hS rfl ?_
        simp only [Act.put, List.setIfInBounds_toArray, List.set_cons_zero, List.set_cons_succ]
        refine hs_skip (i := 9) (d := some 20) rfl (by kernel_rfl) (by kernel_rfl) (by kernel_rfl) (by rfl) hS rfl ?_
        simp only [Act.put, List.setIfInBounds_toArray, List.set_cons_zero, List.set_cons_succ]
        refine hs_skip (i := 10) (d := some 21) rfl (by kernel_rfl) (by kernel_rfl) (by kernel_rfl) (by rfl) hS rfl ?_
        simp only [Act.put, List.setIfInBounds_toArray, List.set_cons_zero, List.set_cons_succ]
        refine hs_skip (i := 11) (d := some 22) rfl (by kernel_rfl) (by kernel_rfl) (by kernel_rfl) (by rfl) hS rfl ?_
        simp only [Act.put, List.setIfInBounds_toArray, List.set_cons_zero, List.set_cons_succ]
        refine hs_take (i := 12) (d := some 23) (v := ?_) rfl (by kernel_rfl) (by kernel_rfl) (by kernel_rfl) (by rfl) ?_ hS rfl ?_
        rotate_left
        · intro w' hw
          go_simp
          try with_reducible rfl
        simp only [Act.put, List.setIfInBounds_toArray, List.set_cons_zero, List.set_cons_succ]
        refine hs_take (i := 13) (d := some 2) (v := ?_) rfl (by kernel_rfl) (by kernel_rfl) (by kernel_rfl) (by rfl) ?_ hS rfl ?_
        rotate_left
        · intro w' hw
          go_simp
          try with_reducible rfl
        simp only [Act.put, List.setIfInBounds_toArray, List.set_cons_zero, List.set_cons_succ]
        refine hs_done (by kernel_rfl) ?_
        go_wp2_with fail
        go_ret
        exact ⟨rfl, hB9⟩
end Go.Proofs.Ytaaifcpanflejaa.Wn
namespace Go.Proofs.Ytaaifcpanflejaa.Wn
set_option maxRecDepth 100000
open Go.RowKit
theorem there_set {w : World} {b o n : Nat} (h : w.there b o n) (p : Addr) (v : Value) : (w.setCell p v).there b o n := by
  intro j hj
  obtain ⟨h1, h2⟩ := h j hj
  refine ⟨?_, by rw [World.frozen?_setCell]; exact h2⟩
  by_cases e : (⟨b, o + j, none⟩ : Addr) = p
  · subst e
    obtain ⟨u, hu⟩ := Option.isSome_iff_exists.1 h1
    rw [World.cell?_setCell_same _ _ _ hu]; rfl
  · rw [World.cell?_setCell_other _ _ _ _ (fun q => e (by first | exact q | exact q.symm))]; exact h1
theorem two_cells (B m : Int) : (#[Value.int .i64 B, Value.int .u64 m].all fun x => x.oneCell') = true := by simp [Value.oneCell']
end Go.Proofs.Ytaaifcpanflejaa.Wn
namespace Go.Proofs.Ytaaifcpanflejaa.Wn
set_option maxRecDepth 100000
open Go.RowKit
theorem below_drewN {n : Nat} {a w : World} (h : Below n a w) (k : Nat) : Below n a (w.drewN k) := ⟨h.os, h.tape, h.output, h.size, h.block⟩
theorem set_last {m : Nat} {k : Nat} (h : (setN m).length = k + 1) : ∃ x : Nat, (ints (setN m))[k]? = some (x : Int) ∧ x < 64 ∧ m.testBit x = true ∧ ∀ j, j < 64 → m.testBit j = true → j ≤ x := by
  have hk : k < (setN m).length := by omega
  obtain ⟨x, hx⟩ : ∃ x, (setN m)[k]? = some x := ⟨_, List.getElem?_eq_getElem hk⟩
  have hm := List.mem_of_getElem? hx
  have hs := mem_setN.1 hm
  refine ⟨x, by unfold ints; rw [List.getElem?_map, hx]; rfl, hs.1, hs.2, fun j hj hb => ?_⟩
  have hj' := mem_setN.2 ⟨hj, hb⟩
  obtain ⟨i, hi, rfl⟩ := List.getElem_of_mem hj'
  have hp := setUp_lt m 64
  have ex : (setN m)[k] = x := by rw [List.getElem?_eq_getElem hk] at hx; exact Option.some.inj hx
  rcases Nat.lt_or_ge i k with h' | h'
  · have := List.pairwise_iff_getElem.1 hp i k hi hk h'
    have e2 : (setUp m 64)[k] = x := ex
    have e3 : (setUp m 64)[i] = (setN m)[i] := rfl
    omega
  · obtain rfl : i = k := by omega
    omega
theorem good_last {B : Int} {m : Nat} (hm : m < 2 ^ 64) (h0 : 1 ≤ B) (h1 : B ≤ 1099511627777) (hb : m.testBit 0 = false) {x : Nat} (hxm : m.testBit x = true) (hle : ∀ j, j < 64 → m.testBit j = true → j ≤ x) : goodW B m = decide ((x : Int) ≤ 1099511627776 - B) := by
  by_cases h : (x : Int) ≤ 1099511627776 - B
  · rw [decide_eq_true h]
    refine good_iff.2 ⟨⟨h0, h1⟩, hb, fun j hj => ?_⟩
    have h64 : j < 64 := by
      rcases Nat.lt_or_ge j 64 with q | q
      · exact q
      · rw [no_high hm q] at hj; cases hj
    have := hle j h64 hj
    omega
  · rw [decide_eq_false h]
    cases hg : goodW B m
    · rfl
    · have := (good_iff.1 hg).2.2 x hxm; omega
theorem good_none {B : Int} {m : Nat} (hm : m < 2 ^ 64) (h0 : 1 ≤ B) (h1 : B ≤ 1099511627777) (h : (setN m).length = 0) : goodW B m = true := by
  have hn : ∀ j, m.testBit j = false := fun j => by
    rcases Nat.lt_or_ge j 64 with q | q
    · cases hb : m.testBit j
      · rfl
      · have := mem_setN.2 ⟨q, hb⟩
        rw [List.eq_nil_of_length_eq_zero h] at this; cases this
    · exact no_high hm q
  exact good_iff.2 ⟨⟨h0, h1⟩, hn 0, fun j hj => by rw [hn j] at hj; cases hj⟩
set_option maxHeartbeats 2000000 in
theorem refGoodW_any (B : Int) (m : Nat) (hm : m < 2 ^ 64) (w : World) : Calls Try.prog 43 #[winV B (m : Int)] w fun e w' => e = .returned (.bool (goodW B m)) ∧ Below w.heap.size w w' := by
  have hBx : Below w.heap.size w (w.alloc (.cells #[.int .i64 B, .int .u64 (m : Int)] 57)) := (Below.refl _ _).alloc (Nat.le_refl _) _
  by_cases h0 : B < 1
  · have HG : Hid (goodW B m = false) := by show _ = _; unfold goodW; rw [decide_eq_false (by omega)]; rfl
    rw [HG.out]
    clear hm HG
    go_enter Try.func43, Try.ntmps43
    go_wp2_with fail
    go_ret
    exact ⟨rfl, hBx⟩
  · by_cases h1 : 1099511627777 < B
    · have HG : Hid (goodW B m = false) := by show _ = _; unfold goodW; rw [decide_eq_false (by omega)]; rfl
      rw [HG.out]
      clear hm HG
      go_enter Try.func43, Try.ntmps43
      go_wp2_with fail
      go_ret
      exact ⟨rfl, hBx⟩
    · have c1 := refHas_any m hm 0
      have e0 : hasN m 0 = m.testBit 0 := hasN_cast m 0 (by decide)
      rw [e0] at c1
      clear e0
      cases hb : m.testBit 0
      · rw [hb] at c1
        have c2 := refList_any m hm
        have hl64 : (setN m).length ≤ 64 := setUp_len m 64
        cases hk : (setN m).length with
        | zero =>
          have HG := hide (good_none (B := B) hm (by omega) (by omega) hk)
          rw [HG.out]
          clear HG
          rw [hk] at c2
          generalize vals (setN m) = vs at *
          clear hb hm hk hl64
          go_enter Try.func43, Try.ntmps43
          go_wp2_with (go_at_call 58; refine (c1 _).mono ?_; rintro e w5 ⟨rfl, hx⟩; obtain rfl := hx.symm; clear hx)
          refine (c2 _).mono ?_
          rintro e w1 ⟨v, rfl, hrow, hb1⟩
          obtain ⟨va, vcap, rfl⟩ := ownsRow_slice hrow
          obtain ⟨hA, hB1, hz⟩ := one_box hb1
          clear c1 c2 hrow hb1
          go_wp2_with fail
          go_quiet (fail)
          go_wp2_with fail
          go_ret
          exact ⟨rfl, below_drewN hB1 _⟩
        | succ k =>
          obtain ⟨x, hx, hx64, hxm, hxl⟩ := set_last hk
          have HG := hide (good_last (B := B) hm (by omega) (by omega) hb hxm hxl)
          rw [HG.out]
          clear HG hb hxm hxl
          have hkl : k < 64 := by omega
          go_enter Try.func43, Try.ntmps43
          go_wp2_with (go_at_call 58; refine (c1 _).mono ?_; rintro e w5 ⟨rfl, hx⟩; obtain rfl := hx.symm; clear hx)
          refine (c2 _).mono ?_
          rintro e w1 ⟨v, rfl, hrow, hb1⟩
          obtain ⟨va, vcap, rfl, hr⟩ := own_set hrow hl64
          obtain ⟨hA, hB1, hz⟩ := one_box hb1
          have hil : (ints (setN m)).length = k + 1 := by rw [ints_length, hk]
          obtain ⟨b, off, rfl, hcx⟩ := rowI_cell hr (Below.refl _ _) (k := k) (by omega)
          have ex : (ints (setN m))[k] = (x : Int) := by rw [List.getElem?_eq_getElem (by omega)] at hx; exact Option.some.inj hx
          rw [ex] at hcx
          rw [hk]
          have q0 : w1.cell? ⟨w.heap.size, 0, none⟩ = some (.int .i64 B) := hA 0 _ rfl
          clear c1 c2 hrow hb1 hr hx ex hil hl64 hk hm hA
          have hkc : (k : Int) < ((k + 1 : Nat) : Int) := by omega
          go_wp2_with fail
          obtain ⟨w8, hw8⟩ : ∃ w8, w1.drew = w8 := ⟨_, rfl⟩
          refine hs_begin (S := (fun W => W.cell? ⟨w.heap.size, 0, none⟩ = some (.int .i64 B) ∧ W.cell? ⟨b, off + k, none⟩ = some (.int .i64 (x : Int)))) 16 rfl (by kernel_rfl) ?_
          have hS : (fun W => W.cell? ⟨w.heap.size, 0, none⟩ = some (.int .i64 B) ∧ W.cell? ⟨b, off + k, none⟩ = some (.int .i64 (x : Int))) w8 := by rw [← hw8]; exact ⟨q0, hcx⟩
          have hB8 : Below w.heap.size w w8 := by rw [← hw8]; exact hB1.drew
          rw [hw8]
          clear hw8 q0 hcx
          refine hs_take (i := 0) (d := some 20) (v := ?_) rfl (by kernel_rfl) (by kernel_rfl) (by kernel_rfl) (by rfl) ?_ hS rfl ?_
          rotate_left
          · intro w' hw
            go_simp
            try with_reducible rfl
          simp only [Act.put, List.setIfInBounds_toArray, List.set_cons_zero, List.set_cons_succ]
          refine hs_take (i := 1) (d := some 21) (v := .int .i64 ((k + 1 : Nat) : Int)) rfl (by kernel_rfl) (by kernel_rfl) (by kernel_rfl) (by rfl) (fun w' hw => by go_simp) hS rfl ?_
          simp only [Act.put, List.setIfInBounds_toArray, List.set_cons_zero, List.set_cons_succ]
          refine hs_take (i := 2) (d := some 22) (v := .bool false) rfl (by kernel_rfl) (by kernel_rfl) (by kernel_rfl) (by rfl) (fun w' hw => by go_simp; first | done | omega | (simp; omega)) hS rfl ?_
          simp only [Act.put, List.setIfInBounds_toArray, List.set_cons_zero, List.set_cons_succ]
          refine hs_take (i := 3) (d := some 23) (v := ?_) rfl (by kernel_rfl) (by kernel_rfl) (by kernel_rfl) (by rfl) ?_ hS rfl ?_
          rotate_left
          · intro w' hw
            go_simp
            try with_reducible rfl
          simp only [Act.put, List.setIfInBounds_toArray, List.set_cons_zero, List.set_cons_succ]
          refine hs_take (i := 4) (d := some 24) (v := ?_) rfl (by kernel_rfl) (by kernel_rfl) (by kernel_rfl) (by rfl) ?_ hS rfl ?_
          rotate_left
          · intro w' hw
            go_simp
            try with_reducible rfl
          simp only [Act.put, List.setIfInBounds_toArray, List.set_cons_zero, List.set_cons_succ]
          refine hs_take (i := 5) (d := some 25) (v := ?_) rfl (by kernel_rfl) (by kernel_rfl) (by kernel_rfl) (by rfl) ?_ hS rfl ?_
          rotate_left
          · intro w' hw
            go_simp
            try with_reducible rfl
          simp only [Act.put, List.setIfInBounds_toArray, List.set_cons_zero, List.set_cons_succ]
          refine hs_take (i := 6) (d := some 26) (v := .int .i64 ((k + 1 : Nat) : Int)) rfl (by kernel_rfl) (by kernel_rfl) (by kernel_rfl) (by rfl) (fun w' hw => by go_simp) hS rfl ?_
          simp only [Act.put, List.setIfInBounds_toArray, List.set_cons_zero, List.set_cons_succ]
          refine hs_take (i := 7) (d := some 27) (v := .int .i64 (k : Int)) rfl (by kernel_rfl) (by kernel_rfl) (by kernel_rfl) (by rfl) (fun w' hw => by go_simp; first | done | (rw [wrap_id _ (by omega) (by omega)]; first | done | omega)) hS rfl ?_
          simp only [Act.put, List.setIfInBounds_toArray, List.set_cons_zero, List.set_cons_succ]
          refine hs_take (i := 8) (d := some 28) (v := .pointer (some ⟨b, off + k, none⟩)) rfl (by kernel_rfl) (by kernel_rfl) (by kernel_rfl) (by rfl) (fun w' hw => by go_simp; first | done | omega | (simp; omega)) hS rfl ?_
          simp only [Act.put, List.setIfInBounds_toArray, List.set_cons_zero, List.set_cons_succ]
          refine hs_take (i := 9) (d := some 29) (v := ?_) rfl (by kernel_rfl) (by kernel_rfl) (by kernel_rfl) (by rfl) ?_ hS rfl ?_
          rotate_left
          · intro w' hw
            have z1 := hw.2
            go_simp
            try with_reducible rfl
          simp only [Act.put, List.setIfInBounds_toArray, List.set_cons_zero, List.set_cons_succ]
          refine hs_take (i := 10) (d := some 30) (v := ?_) rfl (by kernel_rfl) (by kernel_rfl) (by kernel_rfl) (by rfl) ?_ hS rfl ?_
          rotate_left
          · intro w' hw
            go_simp
            try with_reducible rfl
          simp only [Act.put, List.setIfInBounds_toArray, List.set_cons_zero, List.set_cons_succ]
          refine hs_take (i := 11) (d := some 31) (v := ?_) rfl (by kernel_rfl) (by kernel_rfl) (by kernel_rfl) (by rfl) ?_ hS rfl ?_
          rotate_left
          · intro w' hw
            have z1 := hw.1
            go_simp
            try with_reducible rfl
          simp only [Act.put, List.setIfInBounds_toArray, List.set_cons_zero, List.set_cons_succ]
          refine hs_take (i := 12) (d := some 32) (v := .int .i64 (1099511627776 - B)) rfl (by kernel_rfl) (by kernel_rfl) (by kernel_rfl) (by rfl) (fun w' hw => by go_simp; first | done | exact wrap_id _ (by omega) (by omega)) hS rfl ?_
          simp only [Act.put, List.setIfInBounds_toArray, List.set_cons_zero, List.set_cons_succ]
          refine hs_take (i := 13) (d := some 33) (v := ?_) rfl (by kernel_rfl) (by kernel_rfl) (by kernel_rfl) (by rfl) ?_ hS rfl ?_
          rotate_left
          · intro w' hw
            go_simp
            try with_reducible rfl
          simp only [Act.put, List.setIfInBounds_toArray, List.set_cons_zero, List.set_cons_succ]
          refine hs_take (i := 14) (d := some 34) (v := ?_) rfl (by kernel_rfl) (by kernel_rfl) (by kernel_rfl) (by rfl) ?_ hS rfl ?_
          rotate_left
          · intro w' hw
            go_simp
            try with_reducible rfl
          simp only [Act.put, List.setIfInBounds_toArray, List.set_cons_zero, List.set_cons_succ]
          refine hs_take (i := 15) (d := some 2) (v := ?_) rfl (by kernel_rfl) (by kernel_rfl) (by kernel_rfl) (by rfl) ?_ hS rfl ?_
          rotate_left
          · intro w' hw
            go_simp
            try with_reducible rfl
          simp only [Act.put, List.setIfInBounds_toArray, List.set_cons_zero, List.set_cons_succ]
          refine hs_done (by kernel_rfl) ?_
          go_wp2_with fail
          go_ret
          exact ⟨ret_bool (by first | rfl | simp), hB8⟩
      · have HG : Hid (goodW B m = false) := by
          show _ = _
          unfold goodW; rw [hb]; simp
        rw [HG.out]
        rw [hb] at c1
        clear hb hm HG
        go_enter Try.func43, Try.ntmps43
        go_wp2_with (go_at_call 58; refine (c1 _).mono ?_; rintro e w5 ⟨rfl, hx⟩; obtain rfl := hx.symm; clear hx)
        go_ret
        exact ⟨rfl, hBx⟩
end Go.Proofs.Ytaaifcpanflejaa.Wn
namespace Go.Proofs.Ytaaifcpanflejaa.Ld
structure Cfg where
  n : Int
  cl : Int
  wi : Int
  bu : Int
  ca : Int
  sl : Int
  rq : Int
  ti : Int
  pe : Int
  la : Int
def goodB (n : Int) : Bool := decide (4 ≤ n ∧ n ≤ 64 ∧ n % 3 = 1)
theorem goodB_mk {n : Int} (h : 4 ≤ n ∧ n ≤ 64 ∧ n % 3 = 1) : goodB n = true := by simpa [goodB] using h
theorem goodB_no {n : Int} (h : ¬ (4 ≤ n ∧ n ≤ 64 ∧ n % 3 = 1)) : goodB n = false := by simpa [goodB] using h
def inB (x l m : Int) : Bool := decide (l ≤ x ∧ x ≤ m)
theorem inB_mk {x l m : Int} (h : l ≤ x ∧ x ≤ m) : inB x l m = true := by simpa [inB] using h
theorem inB_no {x l m : Int} (h : ¬ (l ≤ x ∧ x ≤ m)) : inB x l m = false := by simpa [inB] using h
def goodC (c : Cfg) : Bool := goodB c.n && inB c.cl 1 8 && inB c.wi 1 64 && inB c.bu 1 c.n && inB c.ca 1 16 && inB c.sl 1 4 && inB c.rq 1 4 && inB c.ti 12 64 && inB c.pe 0 8 && inB c.la 1 1048576
def errC (c : Cfg) : Int := if goodC c then 0 else 110
end Go.Proofs.Ytaaifcpanflejaa.Ld
namespace Go.Proofs.Ytaaifcpanflejaa.Ld
open Go.RowKit
theorem hide {p : Prop} (h : p) : Hid p := h
theorem ret_bool {a b : Bool} (h : a = b) : Ending.returned (.bool a) = .returned (.bool b) := by rw [h]
theorem ret_int {k : IntKind} {a b : Int} (h : a = b) : Ending.returned (.int k a) = .returned (.int k b) := by rw [h]
theorem own : ownKnob Try.prog.godebug = none := by kernel_rfl
/-- A slice of integers that came in: it is nil; or it leads to a row of 'cap' cells, the numbers 'zs' (the first 'len' are its elements), each fitting its kind. -/
def IsRow (k : IntKind) (w : World) (a : Option Addr) (len cap : Nat) (zs : List Int) : Prop :=
  (a = none ∧ len = 0 ∧ cap = 0 ∧ zs = []) ∨
  ∃ x, a = some x ∧ len ≤ cap ∧ cap ≤ maxLen ∧ zs.length = cap ∧ (∀ i, i < zs.length → w.cell? (x.add i) = some (.int k (zs.getD i 0))) ∧ ∀ n ∈ zs, (Lit.int k n).wf = true
/-- a slice of ints -/
def RowI (w : World) (a : Option Addr) (zs : List Int) : Prop :=
  zs.length ≤ maxLen ∧ (zs = [] ∨ ∃ b off, a = some ⟨b, off, none⟩ ∧ b < w.heap.size ∧ ∀ j, j < zs.length → w.cell? ⟨b, off + j, none⟩ = some (.int .i64 (zs[j]?.getD 0)))
theorem RowI.below {w w' : World} {a : Option Addr} {zs : List Int} (h : RowI w a zs) (hb : Below w.heap.size w w') : RowI w' a zs := by
  refine ⟨h.1, ?_⟩
  rcases h.2 with h | ⟨b, off, rfl, h1, h2⟩
  · exact Or.inl h
  · exact Or.inr ⟨b, off, rfl, Nat.lt_of_lt_of_le h1 hb.size, fun j hj => (hb.cell (p := ⟨b, off + j, none⟩) h1).trans (h2 j hj)⟩
theorem block_lt {w : World} {a : Addr} {v : Value} (h : w.cell? a = some v) : a.block < w.heap.size := by
  rcases Nat.lt_or_ge a.block w.heap.size with h' | h'
  · exact h'
  · simp [World.cell?, h'] at h
theorem IsRow.cells {k : IntKind} {w : World} {a : Option Addr} {len cap : Nat} {zs : List Int} (h : IsRow k w a len cap zs) :
    len ≤ cap ∧ cap ≤ maxLen ∧ (zs.take len).length = len ∧ (∀ z ∈ zs.take len, (Lit.int k z).wf = true) ∧ (zs.take len = [] ∨ ∃ b off, a = some ⟨b, off, none⟩ ∧ b < w.heap.size ∧ ∀ j, j < (zs.take len).length → w.cell? ⟨b, off + j, none⟩ = some (.int k ((zs.take len)[j]?.getD 0))) := by
  rcases h with ⟨rfl, rfl, rfl, rfl⟩ | ⟨x, rfl, hl, hm, hz, hcell, hwz⟩
  · simp
  · refine ⟨hl, hm, by rw [List.length_take]; omega, fun z hz => hwz z (List.mem_of_mem_take hz), ?_⟩
    by_cases h0 : len = 0
    · left; simp [h0]
    · right
      obtain ⟨b, off, spot⟩ := x
      have hc := hcell 0 (by omega)
      have hspot : spot = none := by simpa [Addr.add] using World.cell?_spot hc
      subst hspot
      refine ⟨b, off, rfl, ?_, fun j hj => ?_⟩
      · have := block_lt hc; simpa [Addr.add] using this
      · rw [List.length_take] at hj
        have hcj := hcell j (by omega)
        have e1 : (zs.take len)[j]?.getD 0 = zs.getD j 0 := by
          rw [List.getD_eq_getElem?_getD, List.getElem?_take, if_pos (by omega)]
        rw [e1]
        by_cases hj0 : j = 0
        · subst hj0; simpa [Addr.add] using hcj
        · simpa [Addr.add, hj0] using hcj
end Go.Proofs.Ytaaifcpanflejaa.Ld
namespace Go.Proofs.Ytaaifcpanflejaa.Ld
set_option maxRecDepth 100000
open Go.RowKit
set_option maxHeartbeats 400000 in
theorem good_any (n : Int) (w : World) : Calls Try.prog 46 #[.int .i64 n] w fun e w' => e = .returned (.bool (goodB n)) ∧ w' = w := by
  by_cases h1 : 4 ≤ n
  · by_cases h2 : n ≤ 64
    · go_enter Try.func46, Try.ntmps46
      go_wp2
      go_ret
      refine ⟨ret_bool ?_, rfl⟩
      by_cases h3 : n % 3 = 1
      · rw [goodB_mk ⟨h1, h2, h3⟩]; simpa using h3
      · rw [goodB_no (by omega)]; simpa using h3
    · go_enter Try.func46, Try.ntmps46
      go_wp2
      go_ret
      exact ⟨ret_bool (by rw [goodB_no (by omega)]), rfl⟩
  · go_enter Try.func46, Try.ntmps46
    go_wp2
    go_ret
    exact ⟨ret_bool (by rw [goodB_no (by omega)]), rfl⟩
set_option maxHeartbeats 400000 in
theorem refGood_any (n : Int) (w : World) : Calls Try.prog 60 #[.int .i64 n] w fun e w' => e = .returned (.bool (goodB n)) ∧ w' = w := by
  by_cases h1 : 4 ≤ n
  · by_cases h2 : n ≤ 64
    · go_enter Try.func60, Try.ntmps60
      go_wp2
      go_ret
      refine ⟨ret_bool ?_, rfl⟩
      by_cases h3 : n % 3 = 1
      · rw [goodB_mk ⟨h1, h2, h3⟩]; simpa using h3
      · rw [goodB_no (by omega)]; simpa using h3
    · go_enter Try.func60, Try.ntmps60
      go_wp2
      go_ret
      exact ⟨ret_bool (by rw [goodB_no (by omega)]), rfl⟩
  · go_enter Try.func60, Try.ntmps60
    go_wp2
    go_ret
    exact ⟨ret_bool (by rw [goodB_no (by omega)]), rfl⟩
theorem within_any (x l m : Int) (w : World) : Calls Try.prog 47 #[.int .i64 x, .int .i64 l, .int .i64 m] w fun e w' => e = .returned (.bool (inB x l m)) ∧ w' = w := by
  by_cases h1 : l ≤ x
  · go_enter Try.func47, Try.ntmps47
    go_wp2
    go_ret
    refine ⟨ret_bool ?_, rfl⟩
    by_cases h2 : x ≤ m
    · rw [inB_mk ⟨h1, h2⟩]; simp [h2]
    · rw [inB_no (by omega)]; simp [h2]
  · go_enter Try.func47, Try.ntmps47
    go_wp2
    go_ret
    exact ⟨ret_bool (by rw [inB_no (by omega)]; try simp [h1]), rfl⟩
theorem rwithin_any (x l m : Int) (w : World) : Calls Try.prog 61 #[.int .i64 x, .int .i64 l, .int .i64 m] w fun e w' => e = .returned (.bool (inB x l m)) ∧ w' = w := by
  by_cases h1 : l ≤ x
  · go_enter Try.func61, Try.ntmps61
    go_wp2
    go_ret
    refine ⟨ret_bool ?_, rfl⟩
    by_cases h2 : x ≤ m
    · rw [inB_mk ⟨h1, h2⟩]; simp [h2]
    · rw [inB_no (by omega)]; simp [h2]
  · go_enter Try.func61, Try.ntmps61
    go_wp2
    go_ret
    exact ⟨ret_bool (by rw [inB_no (by omega)]; try simp [h1]), rfl⟩
end Go.Proofs.Ytaaifcpanflejaa.Ld
namespace Go.Proofs.Ytaaifcpanflejaa.Ld
set_option maxRecDepth 100000
open Go.RowKit
theorem errC_fits {c : Cfg} {x : Int} {b : Bool} (h : goodC c = b) (hx : x = if b then 0 else 110) : errC c = x := by rw [errC, h, hx]
set_option maxRecDepth 100000 in
set_option maxHeartbeats 4000000 in
theorem lgood_any (c : Cfg) (w : World) : Calls Try.prog 26 #[(.agg #[.int .i64 c.n, .int .i64 c.cl, .int .i64 c.wi, .int .i64 c.bu, .int .i64 c.ca, .int .i64 c.sl, .int .i64 c.rq, .int .i64 c.ti, .int .i64 c.pe, .int .i64 c.la])] w fun e w' => e = .returned (.int .i64 (errC c)) ∧ Below w.heap.size w w' := by
  have hb : Below w.heap.size w (w.alloc (.cells #[.int .i64 c.n, .int .i64 c.cl, .int .i64 c.wi, .int .i64 c.bu, .int .i64 c.ca, .int .i64 c.sl, .int .i64 c.rq, .int .i64 c.ti, .int .i64 c.pe, .int .i64 c.la] 23)) := (Below.refl _ _).alloc (Nat.le_refl _) _
  have c1 := fun w => good_any c.n w
  have c2 := fun x l m w => within_any x l m w
  have HG : Hid (goodC c = (goodB c.n && inB c.cl 1 8 && inB c.wi 1 64 && inB c.bu 1 c.n && inB c.ca 1 16 && inB c.sl 1 4 && inB c.rq 1 4 && inB c.ti 12 64 && inB c.pe 0 8 && inB c.la 1 1048576)) := hide rfl
  generalize goodB c.n = g0 at *
  go_enter Try.func26, Try.ntmps26
  go_wp2_with (first | (go_at_call 46; refine (c1 _).mono ?_; rintro e w1 ⟨rfl, hx⟩; obtain rfl := hx.symm; clear hx) | (go_at_call 47; refine (c2 _ _ _ _).mono ?_; rintro e w1 ⟨rfl, hx⟩; obtain rfl := hx.symm; clear hx))
  all_goals go_ret
  all_goals refine ⟨ret_int ?_, hb⟩
  all_goals (symm; refine errC_fits HG.out ?_; simp_all)
set_option maxRecDepth 100000 in
set_option maxHeartbeats 4000000 in
theorem rlgood_any (c : Cfg) (w : World) : Calls Try.prog 44 #[(.agg #[.int .i64 c.n, .int .i64 c.cl, .int .i64 c.wi, .int .i64 c.bu, .int .i64 c.ca, .int .i64 c.sl, .int .i64 c.rq, .int .i64 c.ti, .int .i64 c.pe, .int .i64 c.la])] w fun e w' => e = .returned (.int .i64 (errC c)) ∧ Below w.heap.size w w' := by
  have hb : Below w.heap.size w (w.alloc (.cells #[.int .i64 c.n, .int .i64 c.cl, .int .i64 c.wi, .int .i64 c.bu, .int .i64 c.ca, .int .i64 c.sl, .int .i64 c.rq, .int .i64 c.ti, .int .i64 c.pe, .int .i64 c.la] 23)) := (Below.refl _ _).alloc (Nat.le_refl _) _
  have c1 := fun w => refGood_any c.n w
  have c2 := fun x l m w => rwithin_any x l m w
  have HG : Hid (goodC c = (goodB c.n && inB c.cl 1 8 && inB c.wi 1 64 && inB c.bu 1 c.n && inB c.ca 1 16 && inB c.sl 1 4 && inB c.rq 1 4 && inB c.ti 12 64 && inB c.pe 0 8 && inB c.la 1 1048576)) := hide rfl
  generalize goodB c.n = g0 at *
  go_enter Try.func44, Try.ntmps44
  go_wp2_with (first | (go_at_call 60; refine (c1 _).mono ?_; rintro e w1 ⟨rfl, hx⟩; obtain rfl := hx.symm; clear hx) | (go_at_call 61; refine (c2 _ _ _ _).mono ?_; rintro e w1 ⟨rfl, hx⟩; obtain rfl := hx.symm; clear hx))
  all_goals go_ret
  all_goals refine ⟨ret_int ?_, hb⟩
  all_goals (symm; refine errC_fits HG.out ?_; simp_all)
end Go.Proofs.Ytaaifcpanflejaa.Ld
namespace Go.Proofs.Ytaaifcpanflejaa
open Go.RowKit
open Sha Tal
set_option linter.unusedVariables false
set_option linter.unusedSimpArgs false
def sameL {α : Type} (B : α → α → Bool) : List α → List α → Bool
  | [], [] => true
  | x :: xs, y :: ys => B x y && sameL B xs ys
  | _, _ => false
theorem sameL_iff {α : Type} {B : α → α → Bool} (h : ∀ x y, B x y = true ↔ x = y) : ∀ xs ys : List α, sameL B xs ys = true ↔ xs = ys
  | [], [] => by simp [sameL]
  | x :: xs, y :: ys => by simp [sameL, h, sameL_iff h xs ys]
  | [], _ :: _ => by simp [sameL]
  | _ :: _, [] => by simp [sameL]
/-- a slice and what lies in it -/
structure Sl (α : Type) where
  a : Option Addr
  cap : Nat
  xs : List α
instance {α : Type} : Inhabited (Sl α) := ⟨⟨none, 0, []⟩⟩
theorem two_boxG (q q' : List Value) (t : TypeId) (w : World) : ((w.alloc (.cells q.toArray t)).alloc (.cells q'.toArray t)).rangeAt w.heap.size 0 q ∧ ((w.alloc (.cells q.toArray t)).alloc (.cells q'.toArray t)).rangeAt (w.heap.size + 1) 0 q' ∧ Below w.heap.size w ((w.alloc (.cells q.toArray t)).alloc (.cells q'.toArray t)) ∧ w.heap.size + 2 ≤ ((w.alloc (.cells q.toArray t)).alloc (.cells q'.toArray t)).heap.size := by
  have hB : Below w.heap.size w (w.alloc (.cells q.toArray t)) := (Below.refl _ _).alloc (Nat.le_refl _) _
  have hB2 : Below (w.alloc (.cells q.toArray t)).heap.size (w.alloc (.cells q.toArray t)) ((w.alloc (.cells q.toArray t)).alloc (.cells q'.toArray t)) := (Below.refl _ _).alloc (Nat.le_refl _) _
  have h1 := range_new w q.toArray t
  have h2 := range_new (w.alloc (.cells q.toArray t)) q'.toArray t
  rw [World.size_alloc] at h2
  exact ⟨range_below (by simpa using h1) hB2 (by simp), by simpa using h2, hB.trans (hB2.mono (by simp)), by simp⟩
def Sl.val {α : Type} (x : Sl α) : Value := .slice x.a x.xs.length x.cap
def Sl.At {α : Type} (E : El α) (w : World) (x : Sl α) : Prop := RowsAt E w x.a x.xs
theorem Sl.At.below {α : Type} {E : El α} {w w' : World} {x : Sl α} (h : x.At E w) (hb : Below w.heap.size w w') : x.At E w' := RowsAt.below h hb
theorem Sl.one {α : Type} (x : Sl α) : x.val.oneCell' = true := rfl
theorem exec_load {P : Program} {o : Oper} {a : Act} {w : World} {ty : TypeId} {x : Operand} {b off : Nat} {v : Value} (ho : o.op = .load ty x) (hx : a.eval x = .pointer (some ⟨b, off, none⟩)) (hr : (loadVar ty ⟨b, off, none⟩).run P w = .ok v w) : (execOp a.eval o).run P w = .ok (.value v) w := by
  unfold execOp
  simp only [ho, hx, Instr.loadAt, Instr.sureAddr, Sem.run_bind, Sem.run_pure, Result.andThen_ok, hr]
theorem exec_store {P : Program} {o : Oper} {a : Act} {w w' : World} {ty : TypeId} {x y : Operand} {b off : Nat} {v : Value} (ho : o.op = .store ty x y) (hx : a.eval x = .pointer (some ⟨b, off, none⟩)) (hy : a.eval y = v) (hr : (storeVar ty ⟨b, off, none⟩ v).run P w = .ok () w') : (execOp a.eval o).run P w = .ok .skip w' := by
  unfold execOp
  simp only [ho, hx, hy, Instr.storeAt, Instr.sureAddr, Sem.run_bind, Sem.run_pure, Result.andThen_ok, hr]
theorem ex_mid {P : Program} {op : Oper} {a : Act} {ty : TypeId} {x : Operand} (ho : op.op = .load ty x) {b o : Nat} (hx : a.eval x = .pointer (some ⟨b, o, none⟩)) {cs : List Value} {d : TypeDesc} {w : World} (hr : w.rangeAt b o cs) (hu : P.underlying ty = some d) (hd : d.isRow = true) (hi : (P.info? ty).map (·.size) = some cs.length) : (execOp a.eval op).run P w = .ok (.value (.agg cs.toArray)) w :=
  exec_load ho hx (run_loadVar_mid w b o ty cs d hr hu hd hi)
theorem ex_put {P : Program} {o : Oper} {a : Act} {w : World} {ty : TypeId} {x y : Operand} {b off : Nat} {cs : Array Value} (ho : o.op = .store ty x y) (hx : a.eval x = .pointer (some ⟨b, off, none⟩)) (hy : a.eval y = .agg cs) (ht : w.there b off cs.size) (hi : (P.info? ty).map (·.size) = some cs.size) (h1 : cs.all (·.oneCell') = true) : (execOp a.eval o).run P w = .ok .skip (w.setCells b off cs.toList) :=
  exec_store ho hx hy (run_storeVar_mid w b off ty cs ht hi h1)
theorem ex_alloc {P : Program} {o : Oper} {a : Act} {w : World} {t : TypeId} {z : Value} (ho : o.op = .alloc t) (hz : (zeroValue t).run P w = .ok z w) : (execOp a.eval o).run P w = .ok (.value (.pointer (some ⟨w.heap.size, 0, none⟩))) (w.alloc (.cells z.cells t)) := by
  unfold execOp
  simp [ho, hz, Instr.alloc, newVar, newRow]
section
variable {P : Program} {ops : Array Oper} {Q : Exit → Act → World → Prop}
theorem pl_store {o : Oper} {rest : List Oper} {a : Act} {w w' : World} (hw : Region.wanted o (yielded ops a.tmps) = true) (hy : (execOp a.eval o).run P w = .ok .skip w') (hd : o.dst = none)
    (h : Pl P ops Q rest a w') : Pl P ops Q (o :: rest) a w := by
  refine ⟨wpList_step fun K hK => ?_⟩
  rw [if_pos hw]
  unfold Oper.wp
  rw [hy, Oper.upon_skip, hd]
  exact hK _ _ h.out
end
theorem there_newN (w : World) (arr : Array Value) (t : TypeId) {n : Nat} (h : arr.size = n) : (w.alloc (.cells arr t)).there w.heap.size 0 n := h ▸ there_new w arr t
/-- a struct that is boxed -/
theorem boxed_new (w : World) (q : List Value) (t : TypeId) : Below w.heap.size w (w.alloc (.cells q.toArray t)) ∧ (w.alloc (.cells q.toArray t)).rangeAt w.heap.size 0 q ∧ w.heap.size < (w.alloc (.cells q.toArray t)).heap.size :=
  ⟨(Below.refl _ _).alloc (Nat.le_refl _) _, by simpa using range_new w q.toArray t, by simp⟩
theorem ex_boxR {P : Program} {o : Oper} {a : Act} {w : World} {t : TypeId} {x : Operand} {u : Array Value} (ho : o.op = .box t x) (hx : a.eval x = .agg u) : (execOp a.eval o).run P w = .ok (.value (.pointer (some ⟨w.heap.size, 0, none⟩))) (w.alloc (.cells u t)) := by
  unfold execOp
  simp [ho, hx, Instr.box, newVar, newRow, Value.cells]
/-- a window -/
structure Wd where
  b : Int
  m : Nat
instance : Inhabited Wd := ⟨⟨0, 0⟩⟩
def Wd.cells (x : Wd) : List Value := [.int .i64 x.b, .int .u64 (x.m : Int)]
structure Wd.ok (x : Wd) : Prop where
  lo : -9223372036854775808 ≤ x.b
  hi : x.b ≤ 9223372036854775807
  ml : x.m < 2 ^ 64
def WdE : El Wd where
  f := Wd.cells
  k := 2
  ok := Wd.ok
  len := fun _ _ => rfl
  one := fun y v hv => by
    simp only [Wd.cells, List.mem_cons, List.not_mem_nil, or_false] at hv
    rcases hv with rfl | rfl <;> rfl
structure PnOk (z : Int) : Prop where
  lo : -9223372036854775808 ≤ z
  hi : z ≤ 9223372036854775807
def PnE : El Int where
  f := fun z => [.int .i64 z]
  k := 1
  ok := PnOk
  len := fun _ _ => rfl
  one := fun y v hv => by
    simp only [List.mem_cons, List.not_mem_nil, or_false] at hv
    subst hv
    rfl
def Wd.good (x : Wd) : Bool := Wn.goodW x.b x.m
def pnGood (z : Int) : Bool := decide (0 ≤ z ∧ z ≤ 1048592)
theorem Wd.val_eq (x : Wd) : Value.agg x.cells.toArray = Wn.winV x.b (x.m : Int) := rfl
theorem iszW : (Try.prog.info? 57).map (·.size) = some 2 := by kernel_rfl
theorem fldW : (Try.prog.fieldsOf 57).toList.map (fun f => (f.name, f.type, f.offset)) = [("Base", 3, 0), ("Bits", 55, 1)] := by kernel_rfl
theorem undW : Try.prog.underlying 57 = some (.struct (Try.prog.fieldsOf 57)) := by kernel_rfl
theorem sihW : Try.prog.stoodInHeld 57 = false := by kernel_rfl
def Wd.B (x y : Wd) : Bool := (x.b == y.b) && (((x.m : Int)) == ((y.m : Int)))
theorem Wd.B_iff {x y : Wd} : Wd.B x y = true ↔ x = y := by
  cases x
  cases y
  simp [Wd.B]
  intro _
  omega
theorem part_intV1 (w : World) (q : List Value) (i : Nat) (c : Int) (h : q[i]? = some (.int .i64 c)) : (part 3 q.toArray i).run Try.prog w = .ok (.int .i64 c) w := by
  simp [part, isAgg, run_underlying Try.underlying3, h]
theorem part_u64V (w : World) (q : List Value) (i : Nat) (c : Int) (h : q[i]? = some (.int .u64 c)) : (part 55 q.toArray i).run Try.prog w = .ok (.int .u64 c) w := by
  simp [part, isAgg, run_underlying Try.underlying55, h]
theorem Wd.eqIn (x y : Wd) (d : Nat) (w : World) :
    (Op.equalIn (d + 2 + 1) 57 (.agg x.cells.toArray) (.agg y.cells.toArray)).run Try.prog w = .ok (Wd.B x y) w := by
  rw [run_equalIn_struct w (d + 2) 57 _ _ undW sihW]
  have hf := fldW
  generalize (Try.prog.fieldsOf 57).toList = fs at hf
  obtain ⟨f0, f1, rfl⟩ : ∃ f0 f1, fs = [f0, f1] := by
    rcases fs with _ | ⟨f0, _ | ⟨f1, _ | ⟨f2, fs⟩⟩⟩ <;> simp at hf
    exact ⟨f0, f1, rfl⟩
  simp only [List.map_cons, List.map_nil, List.cons.injEq, Prod.mk.injEq, and_true] at hf
  obtain ⟨⟨a0, b0, d0⟩, ⟨a1, b1, d1⟩⟩ := hf
  have p0 := part_intV1 w x.cells 0 x.b rfl
  have q0 := part_intV1 w y.cells 0 y.b rfl
  have p1 := part_u64V w x.cells 1 x.m rfl
  have q1 := part_u64V w y.cells 1 y.m rfl
  have eI := fun a b => run_equalIn_int (P := Try.prog) w (d + 1) 3 .i64 .i64 a b Try.underlying3
  have eU := fun a b => run_equalIn_int (P := Try.prog) w (d + 1) 55 .u64 .u64 a b Try.underlying55
  unfold Wd.B
  generalize x.cells.toArray = q at *
  generalize y.cells.toArray = q' at *
  obtain ⟨D, hD⟩ : ∃ D, d + 1 + 1 = D := ⟨_, rfl⟩
  have n0 : ¬ ("Base" = "_") := by decide
  have n1 : ¬ ("Bits" = "_") := by decide
  simp only [Op.eqFields, a0, b0, d0, a1, b1, d1, ne_eq, n0, n1, not_false_eq_true, if_true]
  rw [show d + 2 = d + 1 + 1 from rfl, hD]
  rw [hD] at eI eU
  clear hD
  simp only [Sem.run_bind, p0, q0, Result.andThen_ok, eI]
  cases (x.b == y.b)
  · simp only [Bool.not_false, if_true, Sem.run_pure, Bool.false_and]
  · simp only [Bool.not_true, Bool.false_eq_true, if_false, Sem.run_bind, p1, q1, Result.andThen_ok, eU, Bool.true_and]
    cases ((x.m : Int) == (y.m : Int))
    · simp only [Bool.not_false, if_true, Sem.run_pure]
    · simp only [Bool.not_true, Bool.false_eq_true, if_false, Sem.run_pure]
theorem Wd.eq10 (x y : Wd) (hx : x.ok) (hy : y.ok) (w : World) : (Op.equalIn 10000 57 (.agg x.cells.toArray) (.agg y.cells.toArray)).run Try.prog w = .ok (Wd.B x y) w := Wd.eqIn x y 9997 w
end Go.Proofs.Ytaaifcpanflejaa
namespace Go.Proofs.Ytaaifcpanflejaa
open Go.RowKit
open Sha Tal
set_option linter.unusedVariables false
set_option linter.unusedSimpArgs false
set_option maxRecDepth 100000 in
theorem wmay_any (x : Wd) (w : World) (h : x.ok) : Calls Try.prog 28 #[.agg x.cells.toArray] w fun e w' => e = .returned (.bool (!x.good)) ∧ Below w.heap.size w w' := by
  have c1 := Wn.good_any x.b x.m h.ml
  rw [Wd.val_eq]
  unfold Wd.good
  generalize Wn.goodW x.b x.m = g at *
  have hb := (Below.refl w.heap.size w).alloc (Nat.le_refl _) (.cells #[.int .i64 x.b, .int .u64 (x.m : Int)] 57)
  unfold Wn.winV at *
  clear h
  go_enter Try.func28, Try.ntmps28
  go_wp2_with fail
  refine (c1 _).mono ?_
  rintro e1 w1 ⟨rfl, hb1⟩
  have hB := hb.trans (hb1.mono hb.size)
  clear c1 hb hb1
  cases g
  · go_wp2
    go_ret
    exact ⟨rfl, hB⟩
  · go_wp2
    go_ret
    exact ⟨rfl, hB⟩
set_option maxRecDepth 100000 in
theorem pmay_any (z : Int) (w : World) : Calls Try.prog 30 #[.int .i64 z] w fun e w' => e = .returned (.bool (!pnGood z)) ∧ Below w.heap.size w w' := by
  unfold pnGood
  obtain ⟨g, hg⟩ : ∃ g, Hid (decide (0 ≤ z ∧ z ≤ 1048592) = g) := ⟨_, hide rfl⟩
  rw [hg.out]
  by_cases h0 : z < 0
  · obtain rfl : g = false := hg.out.symm.trans (decide_eq_false (by omega))
    clear hg
    go_enter Try.func30, Try.ntmps30
    go_wp2
    go_ret
    exact ⟨rfl, Below.refl _ _⟩
  · by_cases h1 : 1048592 < z
    · obtain rfl : g = false := hg.out.symm.trans (decide_eq_false (by omega))
      clear hg
      go_enter Try.func30, Try.ntmps30
      go_wp2
      go_ret
      exact ⟨rfl, Below.refl _ _⟩
    · obtain rfl : g = true := hg.out.symm.trans (decide_eq_true (by omega))
      clear hg
      go_enter Try.func30, Try.ntmps30
      go_wp2
      go_ret
      exact ⟨rfl, Below.refl _ _⟩
set_option maxRecDepth 100000 in
set_option maxHeartbeats 2000000 in
theorem idxW_any (x : Sl Wd) (p : Wd → Bool) (w : World) (hx : x.At WdE w) (hp : ∀ y ∈ x.xs, ∀ w0, Below w.heap.size w w0 → Calls Try.prog 28 #[.agg y.cells.toArray] w0 fun e w' => e = .returned (.bool (p y)) ∧ Below w0.heap.size w0 w') :
    Calls Try.prog 48 #[x.val, .func (.func 28) #[] #[]] w fun e w' => ∃ r : Int, e = .returned (.int .i64 r) ∧ Hid (decide (0 ≤ r) = x.xs.any p) ∧ Below w.heap.size w w' := by
  obtain ⟨a, cap, xs⟩ := x
  have hml : xs.length ≤ maxLen := hx.1
  unfold maxLen at hml
  simp only [Sl.val]
  obtain ⟨sb, hsb⟩ : ∃ sb, Hid (xs.any p = sb) := ⟨_, hide rfl⟩
  rw [hsb.out]
  go_enter Try.func48, Try.ntmps48
  go_wp2
  go_loopw [8] (fun iv wr' => ∃ k : Nat, k ≤ xs.length ∧ iv = .int .i64 (k : Int) ∧ Hid (∀ j (hj : j < xs.length), j < k → p xs[j] = false) ∧ Below w.heap.size w wr') (fun iv _ => xs.length - (intOf iv).toNat)
  case atStart => exact ⟨0, by omega, rfl, hide (fun j _ hj => absurd hj (by omega)), Below.refl _ _⟩
  case round =>
    obtain ⟨k, hk, rfl, HM, hB⟩ := hrel
    by_cases hlt : k < xs.length
    · have k1 : (k : Int) < xs.length := by omega
      obtain ⟨b, off, rfl, hb, hre⟩ := RowsAt.elem (hx.below hB) k hlt
      have hre : wr.rangeAt b (off + k * 2) (WdE.f xs[k]) := hre
      have hpk := fun w0 h0 => hp xs[k] (List.getElem_mem hlt) w0 h0
      have HT : Hid (p xs[k] = false → ∀ j (hj : j < xs.length), j < k + 1 → p xs[j] = false) := hide (fun h j hj hjk => by
        by_cases e : j = k
        · subst e; exact h
        · exact HM.out j hj (by omega))
      have HF : Hid (p xs[k] = true → sb = true) := hide (fun h => by
        rw [← hsb.out]
        rw [List.any_eq_true]
        exact ⟨xs[k], List.getElem_mem hlt, h⟩)
      obtain ⟨gx, hX⟩ : ∃ g, Hid (xs[k] = g) := ⟨_, hide rfl⟩
      rw [hX.out] at hre hpk HT HF
      clear hX HM
      generalize p gx = pb at *
      have c7 := hpk wr hB
      clear hpk hp hsb hx
      have iu : (Try.prog.info? 57).map (·.size) = some (WdE.f gx).length := iszW
      have c7' : Calls Try.prog 28 #[.agg (WdE.f gx).toArray] wr _ := c7
      clear c7
      generalize WdE.f gx = u at *
      go_wp2_with (refine wpList_load_mid rfl 57 _ rfl _ _ rfl u _ hre Try.underlying57 rfl iu ?_)
      have c7 := c7'
      clear c7'
      refine c7.mono ?_
      rintro e8 w8 ⟨rfl, hb8⟩
      have hB8 := hB.trans (hb8.mono hB.size)
      clear c7 hb8 hre
      cases pb
      · have HT' := hide (HT.out rfl)
        clear HF HT
        go_wp2
        go_roundw
        case rel => exact ⟨k + 1, by omega, by go_num, HT', hB8⟩
        case measure => simp [intOf]; omega
      · have HF' := hide (HF.out rfl)
        clear HF HT
        go_wp2
        go_ret
        exact ⟨(k : Int), rfl, hide (by rw [HF'.out]; exact decide_eq_true (by omega)), hB8⟩
    · have k1 : ¬ (k : Int) < xs.length := by omega
      have HE : Hid (sb = false) := hide (by
        rw [← hsb.out]
        rw [List.any_eq_false]
        intro y hy
        obtain ⟨j, hj, rfl⟩ := List.mem_iff_getElem.1 hy
        rw [HM.out j hj (by omega)]
        simp)
      clear HM hsb hp hx
      go_wp2
      go_ret
      exact ⟨-1, rfl, hide (by rw [HE.out]; rfl), hB⟩
set_option maxRecDepth 100000 in
theorem contW_any (x : Sl Wd) (p : Wd → Bool) (w : World) (hx : x.At WdE w) (hp : ∀ y ∈ x.xs, ∀ w0, Below w.heap.size w w0 → Calls Try.prog 28 #[.agg y.cells.toArray] w0 fun e w' => e = .returned (.bool (p y)) ∧ Below w0.heap.size w0 w') :
    Calls Try.prog 27 #[x.val, .func (.func 28) #[] #[]] w fun e w' => e = .returned (.bool (x.xs.any p)) ∧ Below w.heap.size w w' := by
  have c1 := idxW_any x p w hx hp
  clear hx hp
  obtain ⟨sb, hsb⟩ : ∃ sb, Hid (x.xs.any p = sb) := ⟨_, hide rfl⟩
  rw [hsb.out] at c1 ⊢
  clear hsb
  obtain ⟨vx, hvx⟩ : ∃ v, x.val = v := ⟨_, rfl⟩
  rw [hvx] at c1 ⊢
  clear hvx
  go_enter Try.func27, Try.ntmps27
  go_wp2_with fail
  refine c1.mono ?_
  rintro e1 w1 ⟨r, rfl, hr, hb⟩
  by_cases h0 : 0 ≤ r
  · have hr' := hide (hr.out.symm.trans (decide_eq_true h0))
    clear hr c1
    go_wp2
    go_ret
    exact ⟨by rw [hr'.out]; rfl, hb⟩
  · have hr' := hide (hr.out.symm.trans (decide_eq_false h0))
    clear hr c1
    go_wp2
    go_ret
    exact ⟨by rw [hr'.out]; show Ending.returned (.bool (decide (0 ≤ r))) = _; rw [decide_eq_false (by omega)], hb⟩
set_option maxRecDepth 100000 in
set_option maxHeartbeats 2000000 in
theorem idxI_any (x : Sl Int) (p : Int → Bool) (w : World) (hx : x.At PnE w) (hp : ∀ y ∈ x.xs, ∀ w0, Below w.heap.size w w0 → Calls Try.prog 30 #[.int .i64 y] w0 fun e w' => e = .returned (.bool (p y)) ∧ Below w0.heap.size w0 w') :
    Calls Try.prog 50 #[x.val, .func (.func 30) #[] #[]] w fun e w' => ∃ r : Int, e = .returned (.int .i64 r) ∧ Hid (decide (0 ≤ r) = x.xs.any p) ∧ Below w.heap.size w w' := by
  obtain ⟨a, cap, xs⟩ := x
  have hml : xs.length ≤ maxLen := hx.1
  unfold maxLen at hml
  simp only [Sl.val]
  obtain ⟨sb, hsb⟩ : ∃ sb, Hid (xs.any p = sb) := ⟨_, hide rfl⟩
  rw [hsb.out]
  go_enter Try.func50, Try.ntmps50
  go_wp2
  go_loopw [8] (fun iv wr' => ∃ k : Nat, k ≤ xs.length ∧ iv = .int .i64 (k : Int) ∧ Hid (∀ j (hj : j < xs.length), j < k → p xs[j] = false) ∧ Below w.heap.size w wr') (fun iv _ => xs.length - (intOf iv).toNat)
  case atStart => exact ⟨0, by omega, rfl, hide (fun j _ hj => absurd hj (by omega)), Below.refl _ _⟩
  case round =>
    obtain ⟨k, hk, rfl, HM, hB⟩ := hrel
    by_cases hlt : k < xs.length
    · have k1 : (k : Int) < xs.length := by omega
      obtain ⟨b, off, rfl, hb, hre⟩ := RowsAt.elem (hx.below hB) k hlt
      have hre : wr.rangeAt b (off + k * 1) (PnE.f xs[k]) := hre
      have hpk := fun w0 h0 => hp xs[k] (List.getElem_mem hlt) w0 h0
      have HT : Hid (p xs[k] = false → ∀ j (hj : j < xs.length), j < k + 1 → p xs[j] = false) := hide (fun h j hj hjk => by
        by_cases e : j = k
        · subst e; exact h
        · exact HM.out j hj (by omega))
      have HF : Hid (p xs[k] = true → sb = true) := hide (fun h => by
        rw [← hsb.out]
        rw [List.any_eq_true]
        exact ⟨xs[k], List.getElem_mem hlt, h⟩)
      obtain ⟨gx, hX⟩ : ∃ g, Hid (xs[k] = g) := ⟨_, hide rfl⟩
      rw [hX.out] at hre hpk HT HF
      clear hX HM
      generalize p gx = pb at *
      have c7 := hpk wr hB
      clear hpk hp hsb hx
      have hre : wr.cell? ⟨b, off + k, none⟩ = some (.int .i64 gx) := by have := hre 0 _ rfl; simpa using this
      go_wp2_with fail
      refine c7.mono ?_
      rintro e8 w8 ⟨rfl, hb8⟩
      have hB8 := hB.trans (hb8.mono hB.size)
      clear c7 hb8 hre
      cases pb
      · have HT' := hide (HT.out rfl)
        clear HF HT
        go_wp2
        go_roundw
        case rel => exact ⟨k + 1, by omega, by go_num, HT', hB8⟩
        case measure => simp [intOf]; omega
      · have HF' := hide (HF.out rfl)
        clear HF HT
        go_wp2
        go_ret
        exact ⟨(k : Int), rfl, hide (by rw [HF'.out]; exact decide_eq_true (by omega)), hB8⟩
    · have k1 : ¬ (k : Int) < xs.length := by omega
      have HE : Hid (sb = false) := hide (by
        rw [← hsb.out]
        rw [List.any_eq_false]
        intro y hy
        obtain ⟨j, hj, rfl⟩ := List.mem_iff_getElem.1 hy
        rw [HM.out j hj (by omega)]
        simp)
      clear HM hsb hp hx
      go_wp2
      go_ret
      exact ⟨-1, rfl, hide (by rw [HE.out]; rfl), hB⟩
set_option maxRecDepth 100000 in
theorem contI_any (x : Sl Int) (p : Int → Bool) (w : World) (hx : x.At PnE w) (hp : ∀ y ∈ x.xs, ∀ w0, Below w.heap.size w w0 → Calls Try.prog 30 #[.int .i64 y] w0 fun e w' => e = .returned (.bool (p y)) ∧ Below w0.heap.size w0 w') :
    Calls Try.prog 29 #[x.val, .func (.func 30) #[] #[]] w fun e w' => e = .returned (.bool (x.xs.any p)) ∧ Below w.heap.size w w' := by
  have c1 := idxI_any x p w hx hp
  clear hx hp
  obtain ⟨sb, hsb⟩ : ∃ sb, Hid (x.xs.any p = sb) := ⟨_, hide rfl⟩
  rw [hsb.out] at c1 ⊢
  clear hsb
  obtain ⟨vx, hvx⟩ : ∃ v, x.val = v := ⟨_, rfl⟩
  rw [hvx] at c1 ⊢
  clear hvx
  go_enter Try.func29, Try.ntmps29
  go_wp2_with fail
  refine c1.mono ?_
  rintro e1 w1 ⟨r, rfl, hr, hb⟩
  by_cases h0 : 0 ≤ r
  · have hr' := hide (hr.out.symm.trans (decide_eq_true h0))
    clear hr c1
    go_wp2
    go_ret
    exact ⟨by rw [hr'.out]; rfl, hb⟩
  · have hr' := hide (hr.out.symm.trans (decide_eq_false h0))
    clear hr c1
    go_wp2
    go_ret
    exact ⟨by rw [hr'.out]; show Ending.returned (.bool (decide (0 ≤ r))) = _; rw [decide_eq_false (by omega)], hb⟩
end Go.Proofs.Ytaaifcpanflejaa
namespace Go.Proofs.Ytaaifcpanflejaa
open Go.RowKit
open Sha Tal
set_option linter.unusedVariables false
set_option linter.unusedSimpArgs false
/-- a state -/
structure Stt where
  e : Int
  n : Int
  c : Int
  d : List Int
  ws : Sl Wd
  ps : Sl Int
def Stt.cells (s : Stt) : List Value := [.int .i64 s.e, .int .i64 s.n, .int .i64 s.c] ++ (v8 s.d ++ [s.ws.val, s.ps.val])
structure Stt.ok (s : Stt) : Prop where
  e0 : -9223372036854775808 ≤ s.e
  e1 : s.e ≤ 9223372036854775807
  n0 : -9223372036854775808 ≤ s.n
  n1 : s.n ≤ 9223372036854775807
  c0 : -9223372036854775808 ≤ s.c
  c1 : s.c ≤ 9223372036854775807
  dl : s.d.length = 32
  db : ∀ z ∈ s.d, 0 ≤ z ∧ z < 256
structure Stt.At (s : Stt) (w : World) : Prop where
  ws : s.ws.At WdE w
  ps : s.ps.At PnE w
theorem Stt.At.below {s : Stt} {w w' : World} (h : s.At w) (hb : Below w.heap.size w w') : s.At w' := ⟨h.ws.below hb, h.ps.below hb⟩
theorem Stt.len {s : Stt} (h : s.ok) : s.cells.length = 37 := by
  unfold Stt.cells
  rw [List.length_append, List.length_append, v8_length, h.dl]
  rfl
theorem Stt.one (s : Stt) : ∀ v ∈ s.cells, v.oneCell' = true := fun v hv => by
  unfold Stt.cells at hv
  rcases List.mem_append.1 hv with g | g
  · simp only [List.mem_cons, List.not_mem_nil, or_false] at g
    rcases g with rfl | rfl | rfl <;> rfl
  · rcases List.mem_append.1 g with g | g
    · obtain ⟨z, _, rfl⟩ := List.mem_map.1 g
      rfl
    · simp only [List.mem_cons, List.not_mem_nil, or_false] at g
      rcases g with rfl | rfl <;> rfl
theorem iszSt : (Try.prog.info? 30).map (·.size) = some 37 := by kernel_rfl
structure StP (w : World) (b : Nat) (s : Stt) : Prop where
  e : w.cell? ⟨b, 0, none⟩ = some (.int .i64 s.e)
  n : w.cell? ⟨b, 1, none⟩ = some (.int .i64 s.n)
  c : w.cell? ⟨b, 2, none⟩ = some (.int .i64 s.c)
  d : w.rangeAt b 3 (v8 s.d)
  ws : w.cell? ⟨b, 35, none⟩ = some s.ws.val
  ps : w.cell? ⟨b, 36, none⟩ = some s.ps.val
theorem st_parts {w : World} {b : Nat} {s : Stt} (h : s.ok) (hr : w.rangeAt b 0 s.cells) : StP w b s := by
  have k : w.rangeAt b 3 (v8 s.d ++ [s.ws.val, s.ps.val]) := range_right (cs := [.int .i64 s.e, .int .i64 s.n, .int .i64 s.c]) hr
  have k2 : w.rangeAt b (3 + (v8 s.d).length) [s.ws.val, s.ps.val] := range_right k
  rw [v8_length, h.dl] at k2
  exact ⟨hr 0 _ rfl, hr 1 _ rfl, hr 2 _ rfl, range_left k, k2 0 _ rfl, k2 1 _ rfl⟩
theorem two_box2 (q q' : List Value) (t t' : TypeId) (w : World) : ((w.alloc (.cells q.toArray t)).alloc (.cells q'.toArray t')).rangeAt w.heap.size 0 q ∧ ((w.alloc (.cells q.toArray t)).alloc (.cells q'.toArray t')).rangeAt (w.heap.size + 1) 0 q' ∧ Below w.heap.size w ((w.alloc (.cells q.toArray t)).alloc (.cells q'.toArray t')) ∧ w.heap.size + 2 ≤ ((w.alloc (.cells q.toArray t)).alloc (.cells q'.toArray t')).heap.size := by
  have hB : Below w.heap.size w (w.alloc (.cells q.toArray t)) := (Below.refl _ _).alloc (Nat.le_refl _) _
  have hB2 : Below (w.alloc (.cells q.toArray t)).heap.size (w.alloc (.cells q.toArray t)) ((w.alloc (.cells q.toArray t)).alloc (.cells q'.toArray t')) := (Below.refl _ _).alloc (Nat.le_refl _) _
  have h1 := range_new w q.toArray t
  have h2 := range_new (w.alloc (.cells q.toArray t)) q'.toArray t'
  rw [World.size_alloc] at h2
  exact ⟨range_below (by simpa using h1) hB2 (by simp), by simpa using h2, hB.trans (hB2.mono (by simp)), by simp⟩
def cfgL (c : Ld.Cfg) : List Value := [.int .i64 c.n, .int .i64 c.cl, .int .i64 c.wi, .int .i64 c.bu, .int .i64 c.ca, .int .i64 c.sl, .int .i64 c.rq, .int .i64 c.ti, .int .i64 c.pe, .int .i64 c.la]
theorem iszCf (c : Ld.Cfg) : (Try.prog.info? 23).map (·.size) = some (cfgL c).length := by kernel_rfl
/-- the config's part of what Good asks -/
def Stt.nums (c : Ld.Cfg) (s : Stt) : Bool := decide (1 ≤ s.e ∧ s.e ≤ c.la + 1) && (decide (1 ≤ s.n ∧ s.n ≤ 1099511627776) && decide (0 ≤ s.c ∧ s.c ≤ 1099511627776))
def Stt.lens (c : Ld.Cfg) (s : Stt) : Bool := decide ((s.ws.xs.length : Int) = c.cl) && decide ((s.ps.xs.length : Int) = c.n)
def Stt.good (c : Ld.Cfg) (s : Stt) : Bool := Ld.goodC c && (s.nums c && (s.lens c && (s.ws.xs.all Wd.good && s.ps.xs.all pnGood)))
theorem any_not {α : Type} (p : α → Bool) (xs : List α) : (xs.any fun y => !p y) = !xs.all p := by
  induction xs with
  | nil => rfl
  | cons x xs ih => simp [List.any_cons, List.all_cons, ih]
theorem goodC_la {c : Ld.Cfg} (h : Ld.goodC c = true) : 1 ≤ c.la ∧ c.la ≤ 1048576 := by
  simp only [Ld.goodC, Bool.and_eq_true, Ld.inB, decide_eq_true_eq] at h
  omega
set_option maxRecDepth 100000 in
set_option maxHeartbeats 1000000 in
theorem sgood_any (c : Ld.Cfg) (s : Stt) (w : World) (h : s.ok) (hs : s.At w) : Calls Try.prog 10 #[(.agg #[.int .i64 c.n, .int .i64 c.cl, .int .i64 c.wi, .int .i64 c.bu, .int .i64 c.ca, .int .i64 c.sl, .int .i64 c.rq, .int .i64 c.ti, .int .i64 c.pe, .int .i64 c.la]), .agg s.cells.toArray] w fun e w' => e = .returned (.bool (s.good c)) ∧ Below w.heap.size w w' := by
  obtain ⟨hc, hr, hB, hz⟩ := two_box2 (cfgL c) s.cells 23 30 w
  have hp := st_parts h hr
  have hc0 := hc 0 _ rfl
  have hc1 := hc 1 _ rfl
  have hc9 := hc 9 _ rfl
  simp only [Nat.zero_add, Nat.add_zero] at hc0 hc1 hc9
  have iu := iszCf c
  have cg : ∀ w0, Calls Try.prog 26 #[.agg (cfgL c).toArray] w0 _ := fun w0 => Ld.lgood_any c w0
  have cw : ∀ w0, Below w.heap.size w w0 → Calls Try.prog 27 #[s.ws.val, .func (.func 28) #[] #[]] w0 fun e w' => e = .returned (.bool (!s.ws.xs.all Wd.good)) ∧ Below w0.heap.size w0 w' := fun w0 hb0 => by
    have := contW_any s.ws (fun y => !y.good) w0 (hs.ws.below hb0) (fun y hy w1 _ => wmay_any y w1 (hs.ws.2.1 y hy))
    rwa [any_not] at this
  have cp : ∀ w0, Below w.heap.size w w0 → Calls Try.prog 29 #[s.ps.val, .func (.func 30) #[] #[]] w0 fun e w' => e = .returned (.bool (!s.ps.xs.all pnGood)) ∧ Below w0.heap.size w0 w' := fun w0 hb0 => by
    have := contI_any s.ps (fun y => !pnGood y) w0 (hs.ps.below hb0) (fun y hy w1 _ => pmay_any y w1)
    rwa [any_not] at this
  have hla := fun hg => goodC_la (c := c) hg
  have lw : s.ws.xs.length ≤ maxLen := hs.ws.1
  have lp : s.ps.xs.length ≤ maxLen := hs.ps.1
  unfold maxLen at lw lp
  obtain ⟨pe, pn, pc, -, pw, pp⟩ := hp
  have ok := h
  obtain ⟨e0, e1, n0, n1, c0, c1, -, -⟩ := h
  obtain ⟨g, hg⟩ : ∃ g, Hid (s.good c = g) := ⟨_, hide rfl⟩
  rw [hg.out]
  obtain ⟨W, hW⟩ : ∃ W, Hid ((w.alloc (.cells (cfgL c).toArray 23)).alloc (.cells s.cells.toArray 30) = W) := ⟨_, hide rfl⟩
  rw [hW.out] at hc hr hB hz hc0 hc1 hc9 pe pn pc pw pp
  unfold Stt.good Stt.nums Stt.lens at hg
  have hcv : (Value.agg #[.int .i64 c.n, .int .i64 c.cl, .int .i64 c.wi, .int .i64 c.bu, .int .i64 c.ca, .int .i64 c.sl, .int .i64 c.rq, .int .i64 c.ti, .int .i64 c.pe, .int .i64 c.la]) = .agg (cfgL c).toArray := rfl
  rw [hcv]
  unfold Ld.errC at cg
  obtain ⟨E, N, C, D, ⟨wa, wcap, wx⟩, ⟨pa, pcap, px⟩⟩ := s
  simp only [Sl.val] at pw pp cw cp
  clear hr hcv hs ok
  simp only at *
  generalize Stt.cells _ = q at *
  generalize wx.all Wd.good = gw at *
  generalize px.all pnGood = gp at *
  generalize hcl : c.cl = ccl at *
  generalize hcn : c.n = ccn at *
  generalize hcla : c.la = cla at *
  clear hcl hcn hcla
  generalize cfgL c = u at *
  generalize Ld.goodC c = gc at *
  clear c
  go_enter Try.func10, Try.ntmps10
  go_upto_region 1 with fail
  go_name_world w1 hw1
  obtain rfl : W = w1 := hW.out.symm.trans hw1
  clear hw1 hW
  go_wp2_with (first | (refine wpList_load_mid rfl 23 _ rfl _ _ rfl u _ hc Try.underlying23 rfl iu ?_))
  refine (cg _).mono ?_
  rintro e2 w2 ⟨rfl, hb2⟩
  have k := fun (p : Addr) (hp : p.block < W.heap.size) => hb2.cell (p := p) hp
  have pe := (k ⟨w.heap.size + 1, 0, none⟩ (by simp; omega)).trans pe
  have pn := (k ⟨w.heap.size + 1, 1, none⟩ (by simp; omega)).trans pn
  have pc := (k ⟨w.heap.size + 1, 2, none⟩ (by simp; omega)).trans pc
  have pw := (k ⟨w.heap.size + 1, 35, none⟩ (by simp; omega)).trans pw
  have pp := (k ⟨w.heap.size + 1, 36, none⟩ (by simp; omega)).trans pp
  have hc0 := (k ⟨w.heap.size, 0, none⟩ (by simp; omega)).trans hc0
  have hc1 := (k ⟨w.heap.size, 1, none⟩ (by simp; omega)).trans hc1
  have hc9 := (k ⟨w.heap.size, 9, none⟩ (by simp; omega)).trans hc9
  have hB := hB.trans (hb2.mono (by omega))
  have hz := Nat.le_trans hz hb2.size
  clear k cg hb2 hc iu
  cases gc
  · obtain rfl : g = false := by rw [← hg.out]; rfl
    clear hg cw cp hla pe pn pc pw pp hc0 hc1 hc9
    go_wp2
    go_ret
    exact ⟨rfl, hB⟩
  have hla := hla rfl
  obtain ⟨la0, la1⟩ := hla
  by_cases k1 : 1 ≤ E
  rotate_left
  · obtain rfl : g = false := by rw [← hg.out]; simp only [show ¬(1 ≤ E ∧ E ≤ cla + 1) by omega, decide_false, Bool.false_and, Bool.and_false]
    clear hg cw cp
    go_wp2
    go_ret
    exact ⟨rfl, hB⟩
  by_cases k2 : E ≤ cla + 1
  rotate_left
  · obtain rfl : g = false := by rw [← hg.out]; simp only [show ¬(1 ≤ E ∧ E ≤ cla + 1) by omega, decide_false, Bool.false_and, Bool.and_false]
    clear hg cw cp
    go_wp2
    go_ret
    exact ⟨rfl, hB⟩
  by_cases k3 : 1 ≤ N
  rotate_left
  · obtain rfl : g = false := by rw [← hg.out]; simp only [show ¬(1 ≤ N ∧ N ≤ 1099511627776) by omega, decide_false, Bool.false_and, Bool.and_false]
    clear hg cw cp
    go_wp2
    go_ret
    exact ⟨rfl, hB⟩
  by_cases k4 : N ≤ 1099511627776
  rotate_left
  · obtain rfl : g = false := by rw [← hg.out]; simp only [show ¬(1 ≤ N ∧ N ≤ 1099511627776) by omega, decide_false, Bool.false_and, Bool.and_false]
    clear hg cw cp
    go_wp2
    go_ret
    exact ⟨rfl, hB⟩
  by_cases k5 : 0 ≤ C
  rotate_left
  · obtain rfl : g = false := by rw [← hg.out]; simp only [show ¬(0 ≤ C ∧ C ≤ 1099511627776) by omega, decide_false, Bool.false_and, Bool.and_false]
    clear hg cw cp
    go_wp2
    go_ret
    exact ⟨rfl, hB⟩
  by_cases k6 : C ≤ 1099511627776
  rotate_left
  · obtain rfl : g = false := by rw [← hg.out]; simp only [show ¬(0 ≤ C ∧ C ≤ 1099511627776) by omega, decide_false, Bool.false_and, Bool.and_false]
    clear hg cw cp
    go_wp2
    go_ret
    exact ⟨rfl, hB⟩
  by_cases k7 : (wx.length : Int) = ccl
  rotate_left
  · obtain rfl : g = false := by rw [← hg.out]; simp only [k7, decide_false, Bool.false_and, Bool.and_false]
    have e0 : ((wx.length : Int) == ccl) = false := by simp; omega
    clear hg cw cp k7
    go_wp2
    go_ret
    exact ⟨rfl, hB⟩
  subst k7
  by_cases k8 : (px.length : Int) = ccn
  rotate_left
  · obtain rfl : g = false := by rw [← hg.out]; simp only [k8, decide_false, Bool.false_and, Bool.and_false]
    have e0 : ((px.length : Int) == ccn) = false := by simp; omega
    clear hg cw cp k8
    go_wp2
    go_ret
    exact ⟨rfl, hB⟩
  subst k8
  have HG : Hid (g = (gw && gp)) := hide (by rw [← hg.out, show decide (1 ≤ E ∧ E ≤ cla + 1) = true from decide_eq_true ⟨k1, k2⟩, show decide (1 ≤ N ∧ N ≤ 1099511627776) = true from decide_eq_true ⟨k3, k4⟩, show decide (0 ≤ C ∧ C ≤ 1099511627776) = true from decide_eq_true ⟨k5, k6⟩, show decide ((wx.length : Int) = (wx.length : Int)) = true from decide_eq_true rfl, show decide ((px.length : Int) = (px.length : Int)) = true from decide_eq_true rfl]; rfl)
  clear hg
  go_wp2_with fail
  refine (cw _ hB).mono ?_
  rintro e3 w3 ⟨rfl, hb3⟩
  have pp := (hb3.cell (p := ⟨w.heap.size + 1, 36, none⟩) (by simp; omega)).trans pp
  have hB := hB.trans (hb3.mono (by omega))
  clear cw hb3
  cases gw
  · have HG' := hide HG.out
    clear HG cp
    go_wp2
    go_ret
    exact ⟨by rw [HG'.out]; rfl, hB⟩
  · go_wp2_with fail
    refine (cp _ hB).mono ?_
    rintro e4 w4 ⟨rfl, hb4⟩
    have hB := hB.trans (hb4.mono (by have := hB.size; omega))
    clear cp hb4
    have HG' := hide HG.out
    clear HG
    cases gp
    · go_wp2
      go_ret
      exact ⟨by rw [HG'.out]; rfl, hB⟩
    · go_wp2
      go_ret
      exact ⟨by rw [HG'.out]; rfl, hB⟩
end Go.Proofs.Ytaaifcpanflejaa
namespace Go.Proofs.Ytaaifcpanflejaa
open Go.RowKit
open Sha Tal
set_option linter.unusedVariables false
set_option linter.unusedSimpArgs false
theorem refGoodWd_any (x : Wd) (w : World) (h : x.ok) : Calls Try.prog 43 #[.agg x.cells.toArray] w fun e w' => e = .returned (.bool x.good) ∧ Below w.heap.size w w' := Wn.refGoodW_any x.b x.m h.ml w
def mayB (c : Ld.Cfg) (n : Int) (ws : List Wd) : Bool := decide ((ws.length : Int) = c.cl) && (decide (0 ≤ n ∧ n ≤ 1099511627776) && ws.all Wd.good)
set_option maxRecDepth 100000 in
set_option maxHeartbeats 1000000 in
theorem may21_any (c : Ld.Cfg) (n : Int) (x : Sl Wd) (w : World) (hx : x.At WdE w) : Calls Try.prog 45 #[(.agg #[.int .i64 c.n, .int .i64 c.cl, .int .i64 c.wi, .int .i64 c.bu, .int .i64 c.ca, .int .i64 c.sl, .int .i64 c.rq, .int .i64 c.ti, .int .i64 c.pe, .int .i64 c.la]), .int .i64 n, x.val] w fun e w' => e = .returned (.bool (mayB c n x.xs)) ∧ Below w.heap.size w w' := by
  obtain ⟨hB, hc, hs⟩ := boxed_new w (cfgL c) 23
  have hc1 := hc 1 _ rfl
  simp only [Nat.zero_add, Nat.add_zero] at hc1
  have hcv : (Value.agg #[.int .i64 c.n, .int .i64 c.cl, .int .i64 c.wi, .int .i64 c.bu, .int .i64 c.ca, .int .i64 c.sl, .int .i64 c.rq, .int .i64 c.ti, .int .i64 c.pe, .int .i64 c.la]) = .agg (cfgL c).toArray := rfl
  rw [hcv]
  clear hcv hc
  have hx1 := hx.below hB
  have lw : x.xs.length ≤ maxLen := hx.1
  unfold maxLen at lw
  have hg0 := fun w0 y hy => refGoodWd_any y w0 (hx.2.1 y hy)
  clear hx
  unfold mayB
  obtain ⟨a, cap, xs⟩ := x
  simp only [Sl.val]
  obtain ⟨sb, hsb⟩ : ∃ sb, Hid (xs.all Wd.good = sb) := ⟨_, hide rfl⟩
  simp only [hsb.out]
  obtain ⟨W, hW⟩ : ∃ W, Hid (w.alloc (.cells (cfgL c).toArray 23) = W) := ⟨_, hide rfl⟩
  rw [hW.out] at hB hs hc1 hx1
  generalize c.cl = ccl at *
  generalize cfgL c = u at *
  clear c
  obtain ⟨g, hg⟩ : ∃ g, Hid ((decide ((xs.length : Int) = ccl) && (decide (0 ≤ n ∧ n ≤ 1099511627776) && sb)) = g) := ⟨_, hide rfl⟩
  rw [hg.out]
  go_enter Try.func45, Try.ntmps45
  go_upto_region 1 with fail
  go_name_world w1 hw1
  obtain rfl : W = w1 := hW.out.symm.trans hw1
  clear hw1 hW
  by_cases k7 : (xs.length : Int) = ccl
  rotate_left
  · obtain rfl : g = false := by rw [← hg.out]; simp only [k7, decide_false, Bool.false_and]
    have e0 : ((xs.length : Int) != ccl) = true := by simp; omega
    clear hg hg0 hsb hx1 k7
    go_wp2
    go_ret
    exact ⟨rfl, hB⟩
  subst k7
  by_cases k5 : 0 ≤ n
  rotate_left
  · obtain rfl : g = false := by rw [← hg.out]; simp only [show ¬(0 ≤ n ∧ n ≤ 1099511627776) by omega, decide_false, Bool.false_and, Bool.and_false]
    clear hg hg0 hsb hx1
    go_wp2
    go_ret
    exact ⟨rfl, hB⟩
  by_cases k6 : n ≤ 1099511627776
  rotate_left
  · obtain rfl : g = false := by rw [← hg.out]; simp only [show ¬(0 ≤ n ∧ n ≤ 1099511627776) by omega, decide_false, Bool.false_and, Bool.and_false]
    clear hg hg0 hsb hx1
    go_wp2
    go_ret
    exact ⟨rfl, hB⟩
  obtain rfl : g = sb := by rw [← hg.out, show decide ((xs.length : Int) = (xs.length : Int)) = true from decide_eq_true rfl, show decide (0 ≤ n ∧ n ≤ 1099511627776) = true from decide_eq_true ⟨k5, k6⟩]; rfl
  clear hg
  go_upto_region 4 with fail
  clear hc1
  go_loopw [7] (fun iv wr' => ∃ k : Nat, k ≤ xs.length ∧ iv = .int .i64 (k : Int) ∧ Hid (∀ j (hj : j < xs.length), j < k → xs[j].good = true) ∧ Below W.heap.size W wr') (fun iv _ => xs.length - (intOf iv).toNat)
  case atStart => exact ⟨0, by omega, rfl, hide (fun j _ hj => absurd hj (by omega)), Below.refl _ _⟩
  case round =>
    obtain ⟨k, hk, rfl, HM, hB2⟩ := hrel
    have hB3 := hB.trans (hB2.mono (by omega))
    by_cases hlt : k < xs.length
    · have k1 : (k : Int) < xs.length := by omega
      obtain ⟨b, off, rfl, hb, hre⟩ := RowsAt.elem (hx1.below hB2) k hlt
      have hre : wr.rangeAt b (off + k * 2) (WdE.f xs[k]) := hre
      have hpk := fun w0 => hg0 w0 xs[k] (List.getElem_mem hlt)
      have HT : Hid (xs[k].good = true → ∀ j (hj : j < xs.length), j < k + 1 → xs[j].good = true) := hide (fun h j hj hjk => by
        by_cases e : j = k
        · subst e; exact h
        · exact HM.out j hj (by omega))
      have HF : Hid (xs[k].good = false → g = false) := hide (fun h => by
        rw [← hsb.out]
        rw [List.all_eq_false]
        exact ⟨xs[k], List.getElem_mem hlt, by rw [h]; simp⟩)
      obtain ⟨gx, hX⟩ : ∃ g, Hid (xs[k] = g) := ⟨_, hide rfl⟩
      rw [hX.out] at hre hpk HT HF
      clear hX HM
      generalize gx.good = pb at *
      have iu : (Try.prog.info? 57).map (·.size) = some (WdE.f gx).length := iszW
      have c7 : Calls Try.prog 43 #[.agg (WdE.f gx).toArray] wr _ := hpk wr
      clear hpk hg0 hsb hx1
      generalize WdE.f gx = v at *
      go_wp2_with (refine wpList_load_mid rfl 57 _ rfl _ _ rfl v _ hre Try.underlying57 rfl iu ?_)
      refine c7.mono ?_
      rintro e8 w8 ⟨rfl, hb8⟩
      have hB8 := hB3.trans (hb8.mono hB3.size)
      have hB9 := hB2.trans (hb8.mono hB2.size)
      clear c7 hb8 hre
      cases pb
      · have HF' := hide (HF.out rfl)
        clear HF HT
        go_wp2
        go_ret
        exact ⟨by rw [HF'.out]; rfl, hB8⟩
      · have HT' := hide (HT.out rfl)
        clear HF HT
        go_wp2
        go_roundw
        case rel => exact ⟨k + 1, by omega, by go_num, HT', hB9⟩
        case measure => simp [intOf]; omega
    · have k1 : ¬ (k : Int) < xs.length := by omega
      have HE : Hid (g = true) := hide (by
        rw [← hsb.out]
        rw [List.all_eq_true]
        intro y hy
        obtain ⟨j, hj, rfl⟩ := List.mem_iff_getElem.1 hy
        exact HM.out j hj (by omega))
      clear HM hsb hg0 hx1
      go_wp2
      go_ret
      exact ⟨by rw [HE.out]; rfl, hB3⟩
theorem good_shape (c : Ld.Cfg) (s : Stt) : s.good c = ((Ld.goodC c && (decide (1 ≤ s.e ∧ s.e ≤ c.la + 1) && decide (1 ≤ s.n ∧ s.n ≤ 1099511627776))) && ((mayB c s.c s.ws.xs && decide ((s.ps.xs.length : Int) = c.n)) && s.ps.xs.all pnGood)) := by
  unfold Stt.good Stt.nums Stt.lens mayB
  ac_rfl
set_option maxRecDepth 100000 in
set_option maxHeartbeats 1000000 in
theorem xsgood_any (c : Ld.Cfg) (s : Stt) (w : World) (h : s.ok) (hs : s.At w) : Calls Try.prog 23 #[(.agg #[.int .i64 c.n, .int .i64 c.cl, .int .i64 c.wi, .int .i64 c.bu, .int .i64 c.ca, .int .i64 c.sl, .int .i64 c.rq, .int .i64 c.ti, .int .i64 c.pe, .int .i64 c.la]), .agg s.cells.toArray] w fun e w' => e = .returned (.bool (s.good c)) ∧ Below w.heap.size w w' := by
  obtain ⟨hc, hr, hB, hz⟩ := two_box2 (cfgL c) s.cells 23 30 w
  have hp := st_parts h hr
  have hc0 := hc 0 _ rfl
  have hc9 := hc 9 _ rfl
  simp only [Nat.zero_add, Nat.add_zero] at hc0 hc9
  have iu := iszCf c
  have cg : ∀ w0, Calls Try.prog 44 #[.agg (cfgL c).toArray] w0 _ := fun w0 => Ld.rlgood_any c w0
  have cm : ∀ w0, Below w.heap.size w w0 → Calls Try.prog 45 #[.agg (cfgL c).toArray, .int .i64 s.c, s.ws.val] w0 _ := fun w0 hb0 => may21_any c s.c s.ws w0 (hs.ws.below hb0)
  have hla := fun hg => goodC_la (c := c) hg
  have hps := hs.ps
  have lw : s.ws.xs.length ≤ maxLen := hs.ws.1
  have lp : s.ps.xs.length ≤ maxLen := hs.ps.1
  unfold maxLen at lw lp
  obtain ⟨pe, pn, pc, -, pw, pp⟩ := hp
  obtain ⟨e0, e1, n0, n1, c0, c1, -, -⟩ := h
  obtain ⟨g, hg⟩ : ∃ g, Hid (s.good c = g) := ⟨_, hide rfl⟩
  rw [hg.out]
  obtain ⟨W, hW⟩ : ∃ W, Hid ((w.alloc (.cells (cfgL c).toArray 23)).alloc (.cells s.cells.toArray 30) = W) := ⟨_, hide rfl⟩
  rw [hW.out] at hc hr hB hz hc0 hc9 pe pn pc pw pp
  rw [good_shape] at hg
  have hcv : (Value.agg #[.int .i64 c.n, .int .i64 c.cl, .int .i64 c.wi, .int .i64 c.bu, .int .i64 c.ca, .int .i64 c.sl, .int .i64 c.rq, .int .i64 c.ti, .int .i64 c.pe, .int .i64 c.la]) = .agg (cfgL c).toArray := rfl
  rw [hcv]
  unfold Ld.errC at cg
  obtain ⟨E, N, C, D, ws, ⟨pa, pcap, px⟩⟩ := s
  simp only [Sl.val] at pp
  clear hr hcv hs
  simp only at *
  obtain ⟨wv, hwv⟩ : ∃ v, Hid (ws.val = v) := ⟨_, hide rfl⟩
  rw [hwv.out] at pw cm
  clear hwv
  generalize Stt.cells _ = q at *
  obtain ⟨gp, hgp⟩ : ∃ sb, Hid (px.all pnGood = sb) := ⟨_, hide rfl⟩
  rw [hgp.out] at hg
  generalize mayB c C ws.xs = gm at *
  generalize hcn : c.n = ccn at *
  generalize hcla : c.la = cla at *
  clear hcn hcla
  generalize cfgL c = u at *
  generalize Ld.goodC c = gc at *
  clear c lw
  go_enter Try.func23, Try.ntmps23
  go_upto_region 1 with fail
  go_name_world w1 hw1
  obtain rfl : W = w1 := hW.out.symm.trans hw1
  clear hw1 hW
  go_wp2_with (first | (refine wpList_load_mid rfl 23 _ rfl _ _ rfl u _ hc Try.underlying23 rfl iu ?_))
  refine (cg _).mono ?_
  rintro e2 w2 ⟨rfl, hb2⟩
  have k := fun (p : Addr) (hp : p.block < W.heap.size) => hb2.cell (p := p) hp
  have pe := (k ⟨w.heap.size + 1, 0, none⟩ (by simp; omega)).trans pe
  have pn := (k ⟨w.heap.size + 1, 1, none⟩ (by simp; omega)).trans pn
  have pc := (k ⟨w.heap.size + 1, 2, none⟩ (by simp; omega)).trans pc
  have pw := (k ⟨w.heap.size + 1, 35, none⟩ (by simp; omega)).trans pw
  have pp := (k ⟨w.heap.size + 1, 36, none⟩ (by simp; omega)).trans pp
  have hc0 := (k ⟨w.heap.size, 0, none⟩ (by simp; omega)).trans hc0
  have hc9 := (k ⟨w.heap.size, 9, none⟩ (by simp; omega)).trans hc9
  have hc := range_below hc hb2 (by omega)
  have hB := hB.trans (hb2.mono (by omega))
  have hz := Nat.le_trans hz hb2.size
  clear k cg hb2
  cases gc
  · obtain rfl : g = false := by rw [← hg.out]; rfl
    clear hg cm hla pe pn pc pw pp hc0 hc9 hps hgp hc
    go_wp2
    go_ret
    exact ⟨rfl, hB⟩
  have hla := hla rfl
  obtain ⟨la0, la1⟩ := hla
  by_cases k1 : 1 ≤ E
  rotate_left
  · obtain rfl : g = false := by rw [← hg.out]; simp only [show ¬(1 ≤ E ∧ E ≤ cla + 1) by omega, decide_false, Bool.false_and, Bool.and_false]
    clear hg cm hps hgp hc
    go_wp2
    go_ret
    exact ⟨rfl, hB⟩
  by_cases k2 : E ≤ cla + 1
  rotate_left
  · obtain rfl : g = false := by rw [← hg.out]; simp only [show ¬(1 ≤ E ∧ E ≤ cla + 1) by omega, decide_false, Bool.false_and, Bool.and_false]
    clear hg cm hps hgp hc
    go_wp2
    go_ret
    exact ⟨rfl, hB⟩
  by_cases k3 : 1 ≤ N
  rotate_left
  · obtain rfl : g = false := by rw [← hg.out]; simp only [show ¬(1 ≤ N ∧ N ≤ 1099511627776) by omega, decide_false, Bool.false_and, Bool.and_false]
    clear hg cm hps hgp hc
    go_wp2
    go_ret
    exact ⟨rfl, hB⟩
  by_cases k4 : N ≤ 1099511627776
  rotate_left
  · obtain rfl : g = false := by rw [← hg.out]; simp only [show ¬(1 ≤ N ∧ N ≤ 1099511627776) by omega, decide_false, Bool.false_and, Bool.and_false]
    clear hg cm hps hgp hc
    go_wp2
    go_ret
    exact ⟨rfl, hB⟩
  have HG : Hid (g = ((gm && decide ((px.length : Int) = ccn)) && gp)) := hide (by rw [← hg.out, show decide (1 ≤ E ∧ E ≤ cla + 1) = true from decide_eq_true ⟨k1, k2⟩, show decide (1 ≤ N ∧ N ≤ 1099511627776) = true from decide_eq_true ⟨k3, k4⟩]; rfl)
  clear hg
  go_wp2_with (first | (refine wpList_load_mid rfl 23 _ rfl _ _ rfl u _ hc Try.underlying23 rfl iu ?_))
  refine (cm _ hB).mono ?_
  rintro e3 w3 ⟨rfl, hb3⟩
  have pp := (hb3.cell (p := ⟨w.heap.size + 1, 36, none⟩) (by simp; omega)).trans pp
  have hc0 := (hb3.cell (p := ⟨w.heap.size, 0, none⟩) (by simp; omega)).trans hc0
  have hB := hB.trans (hb3.mono (by omega))
  have hz := Nat.le_trans hz hb3.size
  clear cm hb3 hc iu pe pn pc pw hc9
  cases gm
  · have HG' := hide HG.out
    clear HG hps hgp
    go_wp2
    go_ret
    exact ⟨by rw [HG'.out]; rfl, hB⟩
  by_cases k8 : (px.length : Int) = ccn
  rotate_left
  · obtain rfl : g = false := by rw [HG.out]; simp only [k8, decide_false, Bool.false_and, Bool.and_false]
    have e0 : ((px.length : Int) != ccn) = true := by simp; omega
    clear HG hps hgp k8
    go_wp2
    go_ret
    exact ⟨rfl, hB⟩
  subst k8
  obtain rfl : g = gp := by rw [HG.out, show decide ((px.length : Int) = (px.length : Int)) = true from decide_eq_true rfl]; rfl
  clear HG
  go_wp2
  clear hc0
  go_loopw [5] (fun iv wr' => ∃ k : Nat, k ≤ px.length ∧ iv = .int .i64 (k : Int) ∧ Hid (∀ j (hj : j < px.length), j < k → pnGood px[j] = true) ∧ Below w3.heap.size w3 wr') (fun iv _ => px.length - (intOf iv).toNat)
  case atStart => exact ⟨0, by omega, rfl, hide (fun j _ hj => absurd hj (by omega)), Below.refl _ _⟩
  case round =>
    obtain ⟨k, hk, rfl, HM, hB2⟩ := hrel
    have hB3 := hB.trans (hB2.mono hB.size)
    have pp := (hB2.cell (p := ⟨w.heap.size + 1, 36, none⟩) (by simp; omega)).trans pp
    by_cases hlt : k < px.length
    · have k1 : (k : Int) < px.length := by omega
      obtain ⟨b, off, rfl, hb, hre⟩ := RowsAt.elem (RowsAt.below hps hB3) k hlt
      have hre := hre 0 _ rfl
      have HT : Hid (pnGood px[k] = true → ∀ j (hj : j < px.length), j < k + 1 → pnGood px[j] = true) := hide (fun h j hj hjk => by
        by_cases e : j = k
        · subst e; exact h
        · exact HM.out j hj (by omega))
      have HF : Hid (pnGood px[k] = false → g = false) := hide (fun h => by
        rw [← hgp.out]
        rw [List.all_eq_false]
        exact ⟨px[k], List.getElem_mem hlt, by rw [h]; simp⟩)
      obtain ⟨z, hX⟩ : ∃ g, Hid (px[k] = g) := ⟨_, hide rfl⟩
      rw [hX.out] at hre HT HF
      have hre : wr.cell? ⟨b, off + k, none⟩ = some (.int .i64 z) := by simpa [PnE] using hre
      clear hX HM hps hgp
      by_cases z0 : 0 ≤ z
      · by_cases z1 : z ≤ 1048592
        · have HT' := hide (HT.out (decide_eq_true ⟨z0, z1⟩))
          clear HF HT
          go_wp2
          go_roundw
          case rel => exact ⟨k + 1, by omega, by go_num, HT', hB2⟩
          case measure => simp [intOf]; omega
        · have HF' := hide (HF.out (decide_eq_false (by omega)))
          clear HF HT
          go_wp2
          go_ret
          exact ⟨by rw [HF'.out]; rfl, hB3⟩
      · have HF' := hide (HF.out (decide_eq_false (by omega)))
        clear HF HT
        go_wp2
        go_ret
        exact ⟨by rw [HF'.out]; rfl, hB3⟩
    · have k1 : ¬ (k : Int) < px.length := by omega
      have HE : Hid (g = true) := hide (by
        rw [← hgp.out]
        rw [List.all_eq_true]
        intro y hy
        obtain ⟨j, hj, rfl⟩ := List.mem_iff_getElem.1 hy
        exact HM.out j hj (by omega))
      clear HM hgp hps
      go_wp2
      go_ret
      exact ⟨by rw [HE.out]; rfl, hB3⟩
end Go.Proofs.Ytaaifcpanflejaa
