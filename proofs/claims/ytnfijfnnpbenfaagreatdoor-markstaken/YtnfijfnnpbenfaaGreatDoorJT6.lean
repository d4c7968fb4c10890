/- window.settled, Good, Done, Count, Ask, Mark: contracts.; window.Done, Count, Ask, Mark: contracts.; window.Mark: its contract.; The document's Good, Done, Coun -/
import Derived.Test.YtnfijfnnpbenfaaGreatDoorJT0
import Derived.Test.YtnfijfnnpbenfaaGreatDoorJT3
import Derived.Test.YtnfijfnnpbenfaaGreatDoorJT5
import Derived.BigQuiet
import Derived.Test.YtnfijfnnpbenfaaGreatDoorProg
import Derived.WalkKit
import Derived.WalkSpells
import Derived.WalkLawsBesides
import Derived.Below
import Derived.Deep.OwnRows
import Derived.ProofKit
import Derived.OpenShut
import Derived.ShutString
import Derived.ChangeOld
import Derived.Deep.QuietTactic
import Derived.Deep.RegionHeld3
namespace Go.Proofs.YtnfijfnnpbenfaaGreatDoor.Wn
set_option maxRecDepth 100000
open Go.RowKit
theorem wrap_id (x : Int) (h0 : -9223372036854775808 ≤ x) (h1 : x ≤ 9223372036854775807) : IntKind.i64.wrap x = x := by
 rw [IntKind.wrap_i64]; omega
theorem natz (d : Nat) : (((d : Nat) : Int) == 0) = decide (d = 0) := by
 by_cases h : d = 0
 ·subst h; rfl
 ·have : ¬ ((d : Int) = 0) := by omega
  simp [h]
set_option maxHeartbeats 1000000 in
theorem settled_any (B : Int) (m : Nat) (hm : m < 2 ^ 64) (h0 : 0 ≤ B) (h1 : B ≤ 1099511627777) (w : World) : Calls Tryz.prog 113 #[winV B (m : Int)] w fun e w' => e = .returned (winV (setB B m) (setM m : Int)) ∧ Below w.heap.size w w' := by
 have c1 := ones_any m hm
 have c2 := down_any m hm (onesN m : Int)
 have hL := ones_le m
 have HB : Hid (B + (onesN m : Int) = setB B m) := rfl
 have HM : Hid (downN m (onesN m : Int) = setM m) := rfl
 rw [HM.out] at c2
 generalize setM m = m2 at *
 generalize onesN m = L at *
 clear hm HM
 go_enter Tryz.func113, Tryz.ntmps113
 go_wp2_with fail
 refine (c1 _).mono ?_
 rintro e w1 ⟨rfl, hb⟩
 clear c1
 obtain ⟨hA, hT, hB1, hz⟩ := two_box hb
 clear hb
 go_wp2_with fail
 obtain ⟨w8, hw8⟩ : ∃ w8, w1.drew = w8 := ⟨_, rfl⟩
 refine hs_begin (S := (fun W => W.rangeAt w.heap.size 0 (winC B (m : Int)))) 10 rfl (by kernel_rfl) ?_
 have hS : (w8).rangeAt w.heap.size 0 (winC B (m : Int)) := by rw [← hw8]; exact hA
 have hT8 : (w8).there (w.heap.size + 1) 0 2 := by rw [← hw8]; exact hT
 have hB8 : Below w.heap.size w w8 := by rw [← hw8]; exact (Below.drew hB1)
 rw [hw8]
 clear hA hT hB1
 refine hs_t 0 7 (?_) rfl (by kernel_rfl) (by kernel_rfl) (by kernel_rfl) (by rfl) ?_ hS rfl ?_
 rotate_left
 ·intro w' hw
  go_simp
  try with_reducible rfl
 simp only [nz]
 refine hs_t 1 8 (?_) rfl (by kernel_rfl) (by kernel_rfl) (by kernel_rfl) (by rfl) ?_ hS rfl ?_
 rotate_left
 ·intro w' hw
  have q0 : w'.cell? ⟨w.heap.size, 0, none⟩ = some (.int .i64 B) := hw 0 _ rfl; have q1 : w'.cell? ⟨w.heap.size, 1, none⟩ = some (.int .u64 (m : Int)) := hw 1 _ rfl
  go_simp
  try with_reducible rfl
 simp only [nz]
 refine hs_t 2 9 (?_) rfl (by kernel_rfl) (by kernel_rfl) (by kernel_rfl) (by rfl) ?_ hS rfl ?_
 rotate_left
 ·intro w' hw
  go_simp
  try with_reducible rfl
 simp only [nz]
 refine hs_t 3 10 (.int .i64 (B + (L : Int))) rfl (by kernel_rfl) (by kernel_rfl) (by kernel_rfl) (by rfl) (fun w' hw => by go_simp; exact wrap_id _ (by omega) (by omega)) hS rfl ?_
 simp only [nz]
 refine hs_t 4 11 (?_) rfl (by kernel_rfl) (by kernel_rfl) (by kernel_rfl) (by rfl) ?_ hS rfl ?_
 rotate_left
 ·intro w' hw
  go_simp
  try with_reducible rfl
 simp only [nz]
 refine hs_t 5 12 (?_) rfl (by kernel_rfl) (by kernel_rfl) (by kernel_rfl) (by rfl) ?_ hS rfl ?_
 rotate_left
 ·intro w' hw
  have q0 : w'.cell? ⟨w.heap.size, 0, none⟩ = some (.int .i64 B) := hw 0 _ rfl; have q1 : w'.cell? ⟨w.heap.size, 1, none⟩ = some (.int .u64 (m : Int)) := hw 1 _ rfl
  go_simp
  try with_reducible rfl
 simp only [nz]
 refine hs_t 6 13 (?_) rfl (by kernel_rfl) (by kernel_rfl) (by kernel_rfl) (by rfl) ?_ hS rfl ?_
 rotate_left
 ·intro w' hw
  go_simp
  try with_reducible rfl
 simp only [nz]
 refine hs_call (i := 7) (d := some 14) rfl (by kernel_rfl) (by rfl) (by go_simp; first | done | exact ⟨rfl, rfl⟩ | with_reducible rfl) rfl ?_
 refine (c2 w8).mono ?_
 rintro e' w9 ⟨rfl, hx⟩
 have hS : (fun W => W.rangeAt w.heap.size 0 (winC B (m : Int))) w9 := by rw [hx]; exact hS
 refine ⟨_, rfl, hS, ?_⟩
 simp only [nz]
 obtain rfl := hx.symm
 refine hs_t 8 15 (?_) rfl (by kernel_rfl) (by kernel_rfl) (by kernel_rfl) (by rfl) ?_ hS rfl ?_
 rotate_left
 ·intro w' hw
  go_simp
  try with_reducible rfl
 simp only [nz]
 have hk : (w8.setCells (w.heap.size + 1) 0 (winC (B + (L : Int)) (m2 : Int))).rangeAt w.heap.size 0 (winC B (m : Int)) := win_apart hS (by omega)
 refine hs_store (i := 9) (w' := w8.setCells (w.heap.size + 1) 0 (winC (B + (L : Int)) (m2 : Int))) rfl (by kernel_rfl) (by rfl) (exec_store rfl rfl rfl (win_store hT8)) rfl hk ?_
 refine hs_done (by kernel_rfl) ?_
 have hrs := win_load (win_set (B := B + (L : Int)) (m := (m2 : Int)) hT8)
 go_wp2_with fail
 exact bodyPost_ret (v := winV (B + (L : Int)) (m2 : Int)) (by simp [results, Tryz.results113, asAddr, hrs]) rfl ⟨by rw [HB.out], below_sets (by omega) _ 0 _ hB8⟩
set_option maxHeartbeats 1000000 in
theorem good_any (B : Int) (m : Nat) (hm : m < 2 ^ 64) (w : World) : Calls Tryz.prog 76 #[winV B (m : Int)] w fun e w' => e = .returned (.bool (goodW B m)) ∧ Below w.heap.size w w' := by
 have hBx : Below w.heap.size w (w.alloc (.cells #[.int .i64 B, .int .u64 (m : Int)] 79)) := (Below.refl _ _).alloc (Nat.le_refl _) _
 by_cases h0 : B < 1
 ·have HG : Hid (goodW B m = false) := by show _ = _; unfold goodW; rw [decide_eq_false (by omega)]; rfl
  rw [HG.out]
  clear hm HG
  go_enter Tryz.func76, Tryz.ntmps76
  go_wp2_with fail
  go_ret
  exact ⟨rfl, hBx⟩
 ·by_cases h1 : 1099511627777 < B
  ·have HG : Hid (goodW B m = false) := by show _ = _; unfold goodW; rw [decide_eq_false (by omega)]; rfl
   rw [HG.out]
   clear hm HG
   go_enter Tryz.func76, Tryz.ntmps76
   go_wp2_with fail
   go_ret
   exact ⟨rfl, hBx⟩
  ·have c1 := settled_any B m hm (by omega) (by omega)
   have c2 := down_any m hm (1099511627777 - B)
   have HG : Hid (goodW B m = (!m.testBit 0 && decide (downN m (1099511627777 - B) = 0))) := by show _ = _; unfold goodW; rw [decide_eq_true (by omega)]; rfl
   rw [HG.out]
   obtain ⟨hA, _, hz⟩ := one_box (Below.refl (w.alloc (.cells #[.int .i64 B, .int .u64 (m : Int)] 79)).heap.size _)
   cases hb : m.testBit 0
   ·have e0 : onesN m = 0 := (ones_zero m).2 hb
    have e1 : setB B m = B := by unfold setB; rw [e0]; simp
    have e2 : setM m = m := by unfold setM; rw [e0]; rfl
    rw [e1, e2] at c1
    generalize downN m (1099511627777 - B) = d at *
    clear e0 e1 e2 hb hm HG
    go_enter Tryz.func76, Tryz.ntmps76
    go_wp2_with fail
    obtain ⟨w1, hw1⟩ : ∃ w1, w.alloc (.cells #[.int .i64 B, .int .u64 (m : Int)] 79) = w1 := ⟨_, rfl⟩
    rw [hw1] at hA hz hBx ⊢
    clear hw1
    obtain ⟨w8, hw8⟩ : ∃ w8, w1.drew = w8 := ⟨_, rfl⟩
    refine hs_begin (S := (fun W => W.rangeAt w.heap.size 0 (winC B (m : Int)))) 14 rfl (by kernel_rfl) ?_
    have hS : (w8).rangeAt w.heap.size 0 (winC B (m : Int)) := by rw [← hw8]; exact hA
    have hB8 : Below w.heap.size w w8 := by rw [← hw8]; exact (Below.drew hBx)
    have hz8 : w.heap.size < w8.heap.size := by rw [← hw8]; exact hz
    rw [hw8]
    clear hA hBx hz
    refine hs_t 0 11 (winV B (m : Int)) rfl (by kernel_rfl) (by kernel_rfl) (by kernel_rfl) (by rfl) (fun w' hw => exec_load rfl rfl (win_load hw)) hS rfl ?_
    simp only [nz]
    refine hs_t 2 13 (winV B (m : Int)) rfl (by kernel_rfl) (by kernel_rfl) (by kernel_rfl) (by rfl) (fun w' hw => exec_load rfl rfl (win_load hw)) hS rfl ?_
    simp only [nz]
    refine hs_call (i := 1) (d := some 12) rfl (by kernel_rfl) (by rfl) (by go_simp; first | done | exact ⟨rfl, rfl⟩ | with_reducible rfl) rfl ?_
    refine (c1 w8).mono ?_
    rintro e' w9 ⟨rfl, hw9⟩
    have hS : (fun W => W.rangeAt w.heap.size 0 (winC B (m : Int))) w9 := range_below hS hw9 hz8
    refine ⟨_, rfl, hS, ?_⟩
    simp only [nz]
    have hB9 := hB8.trans (hw9.mono hB8.size)
    clear c1
    refine hs_t 3 14 (.bool true) rfl (by kernel_rfl) (by kernel_rfl) (by kernel_rfl) (by rfl) (fun w' hw => by go_simp) hS rfl ?_
    simp only [nz]
    refine hs_t 4 15 (?_) rfl (by kernel_rfl) (by kernel_rfl) (by kernel_rfl) (by rfl) ?_ hS rfl ?_
    rotate_left
    ·intro w' hw
     go_simp
     try with_reducible rfl
    simp only [nz]
    refine hs_t 5 16 (?_) rfl (by kernel_rfl) (by kernel_rfl) (by kernel_rfl) (by rfl) ?_ hS rfl ?_
    rotate_left
    ·intro w' hw
     go_simp
     try with_reducible rfl
    simp only [nz]
    refine hs_t 6 17 (?_) rfl (by kernel_rfl) (by kernel_rfl) (by kernel_rfl) (by rfl) ?_ hS rfl ?_
    rotate_left
    ·intro w' hw
     have q0 : w'.cell? ⟨w.heap.size, 0, none⟩ = some (.int .i64 B) := hw 0 _ rfl; have q1 : w'.cell? ⟨w.heap.size, 1, none⟩ = some (.int .u64 (m : Int)) := hw 1 _ rfl
     go_simp
     try with_reducible rfl
    simp only [nz]
    refine hs_t 7 18 (?_) rfl (by kernel_rfl) (by kernel_rfl) (by kernel_rfl) (by rfl) ?_ hS rfl ?_
    rotate_left
    ·intro w' hw
     go_simp
     try with_reducible rfl
    simp only [nz]
    refine hs_t 8 19 (?_) rfl (by kernel_rfl) (by kernel_rfl) (by kernel_rfl) (by rfl) ?_ hS rfl ?_
    rotate_left
    ·intro w' hw
     have q0 : w'.cell? ⟨w.heap.size, 0, none⟩ = some (.int .i64 B) := hw 0 _ rfl; have q1 : w'.cell? ⟨w.heap.size, 1, none⟩ = some (.int .u64 (m : Int)) := hw 1 _ rfl
     go_simp
     try with_reducible rfl
    simp only [nz]
    refine hs_t 9 20 (.int .i64 (1099511627777 - B)) rfl (by kernel_rfl) (by kernel_rfl) (by kernel_rfl) (by rfl) (fun w' hw => by go_simp; exact wrap_id _ (by omega) (by omega)) hS rfl ?_
    simp only [nz]
    refine hs_call (i := 10) (d := some 21) rfl (by kernel_rfl) (by rfl) (by go_simp; first | done | exact ⟨rfl, rfl⟩ | with_reducible rfl) rfl ?_
    refine (c2 w9).mono ?_
    rintro e' w10 ⟨rfl, hx⟩
    have hS : (fun W => W.rangeAt w.heap.size 0 (winC B (m : Int))) w10 := by rw [hx]; exact hS
    refine ⟨_, rfl, hS, ?_⟩
    simp only [nz]
    obtain rfl := hx.symm
    refine hs_t 11 22 (?_) rfl (by kernel_rfl) (by kernel_rfl) (by kernel_rfl) (by rfl) ?_ hS rfl ?_
    rotate_left
    ·intro w' hw
     go_simp
     try with_reducible rfl
    simp only [nz]
    refine hs_t 12 23 (?_) rfl (by kernel_rfl) (by kernel_rfl) (by kernel_rfl) (by rfl) ?_ hS rfl ?_
    rotate_left
    ·intro w' hw
     go_simp
     try with_reducible rfl
    simp only [nz]
    refine hs_t 13 2 (?_) rfl (by kernel_rfl) (by kernel_rfl) (by kernel_rfl) (by rfl) ?_ hS rfl ?_
    rotate_left
    ·intro w' hw
     go_simp
     try with_reducible rfl
    simp only [nz]
    refine hs_done (by kernel_rfl) ?_
    go_wp2_with fail
    go_ret
    exact ⟨ret_bool (natz _), hB9⟩
   ·have hne : setB B m ≠ B := by
     have : onesN m ≠ 0 := fun e => by rw [(ones_zero m).1 e] at hb; cases hb
     unfold setB; omega
    generalize setB B m = B2 at *
    generalize setM m = m2 at *
    clear c2 hm HG hb
    go_enter Tryz.func76, Tryz.ntmps76
    go_wp2_with fail
    obtain ⟨w1, hw1⟩ : ∃ w1, w.alloc (.cells #[.int .i64 B, .int .u64 (m : Int)] 79) = w1 := ⟨_, rfl⟩
    rw [hw1] at hA hz hBx ⊢
    clear hw1
    obtain ⟨w8, hw8⟩ : ∃ w8, w1.drew = w8 := ⟨_, rfl⟩
    refine hs_begin (S := (fun W => W.rangeAt w.heap.size 0 (winC B (m : Int)))) 14 rfl (by kernel_rfl) ?_
    have hS : (w8).rangeAt w.heap.size 0 (winC B (m : Int)) := by rw [← hw8]; exact hA
    have hB8 : Below w.heap.size w w8 := by rw [← hw8]; exact (Below.drew hBx)
    have hz8 : w.heap.size < w8.heap.size := by rw [← hw8]; exact hz
    rw [hw8]
    clear hA hBx hz
    refine hs_t 0 11 (winV B (m : Int)) rfl (by kernel_rfl) (by kernel_rfl) (by kernel_rfl) (by rfl) (fun w' hw => exec_load rfl rfl (win_load hw)) hS rfl ?_
    simp only [nz]
    refine hs_t 2 13 (winV B (m : Int)) rfl (by kernel_rfl) (by kernel_rfl) (by kernel_rfl) (by rfl) (fun w' hw => exec_load rfl rfl (win_load hw)) hS rfl ?_
    simp only [nz]
    refine hs_call (i := 1) (d := some 12) rfl (by kernel_rfl) (by rfl) (by go_simp; first | done | exact ⟨rfl, rfl⟩ | with_reducible rfl) rfl ?_
    refine (c1 w8).mono ?_
    rintro e' w9 ⟨rfl, hw9⟩
    have hS : (fun W => W.rangeAt w.heap.size 0 (winC B (m : Int))) w9 := range_below hS hw9 hz8
    refine ⟨_, rfl, hS, ?_⟩
    simp only [nz]
    have hB9 := hB8.trans (hw9.mono hB8.size)
    clear c1
    refine hs_t 3 14 (.bool false) rfl (by kernel_rfl) (by kernel_rfl) (by kernel_rfl) (by rfl) (fun w' hw => by go_simp; first | done | omega | simp [hne]) hS rfl ?_
    simp only [nz]
    refine hs_t 4 15 (?_) rfl (by kernel_rfl) (by kernel_rfl) (by kernel_rfl) (by rfl) ?_ hS rfl ?_
    rotate_left
    ·intro w' hw
     go_simp
     try with_reducible rfl
    simp only [nz]
    refine hs_skip (i := 5) (d := some 16) rfl (by kernel_rfl) (by kernel_rfl) (by kernel_rfl) (by rfl) hS rfl ?_
    simp only [nz]
    refine hs_skip (i := 6) (d := some 17) rfl (by kernel_rfl) (by kernel_rfl) (by kernel_rfl) (by rfl) hS rfl ?_
    simp only [nz]
    refine hs_skip (i := 7) (d := some 18) rfl (by kernel_rfl) (by kernel_rfl) (by kernel_rfl) (by rfl) hS rfl ?_
    simp only [nz]
    refine hs_skip (i := 8) (d := some 19) rfl (by kernel_rfl) (by kernel_rfl) (by kernel_rfl) (by rfl) hS rfl ?_
    simp only [nz]
    refine hs_skip (i := 9) (d := some 20) rfl (by kernel_rfl) (by kernel_rfl) (by kernel_rfl) (by rfl) hS rfl ?_
    simp only [nz]
    refine hs_skip (i := 10) (d := some 21) rfl (by kernel_rfl) (by kernel_rfl) (by kernel_rfl) (by rfl) hS rfl ?_
    simp only [nz]
    refine hs_skip (i := 11) (d := some 22) rfl (by kernel_rfl) (by kernel_rfl) (by kernel_rfl) (by rfl) hS rfl ?_
    simp only [nz]
    refine hs_t 12 23 (?_) rfl (by kernel_rfl) (by kernel_rfl) (by kernel_rfl) (by rfl) ?_ hS rfl ?_
    rotate_left
    ·intro w' hw
     go_simp
     try with_reducible rfl
    simp only [nz]
    refine hs_t 13 2 (?_) rfl (by kernel_rfl) (by kernel_rfl) (by kernel_rfl) (by rfl) ?_ hS rfl ?_
    rotate_left
    ·intro w' hw
     go_simp
     try with_reducible rfl
    simp only [nz]
    refine hs_done (by kernel_rfl) ?_
    go_wp2_with fail
    go_ret
    exact ⟨rfl, hB9⟩
theorem good_B {B : Int} {m : Nat} (h : goodW B m = true) : 1 ≤ B ∧ B ≤ 1099511627777 := (good_iff.1 h).1
theorem two_cells (B m : Int) : (#[Value.int .i64 B, Value.int .u64 m].all fun x => x.oneCell') = true := by simp [Value.oneCell']
theorem below_drewN {n : Nat} {a w : World} (h : Below n a w) (k : Nat) : Below n a (w.drewN k) := ⟨h.os, h.tape, h.output, h.size, h.block⟩
theorem set_last {m : Nat} {k : Nat} (h : (setN m).length = k + 1) : ∃ x : Nat, (ints (setN m))[k]? = some (x : Int) ∧ x < 64 ∧ m.testBit x = true ∧ ∀ j, j < 64 → m.testBit j = true → j ≤ x := by
 have hk : k < (setN m).length := by omega
 obtain ⟨x, hx⟩ : ∃ x, (setN m)[k]? = some x := ⟨_, List.getElem?_eq_getElem hk⟩
 have hm := List.mem_of_getElem? hx
 have hs := mem_setN.1 hm
 refine ⟨x, by unfold ints; rw [List.getElem?_map, hx]; rfl, hs.1, hs.2, fun j hj hb => ?_⟩
 have hj' := mem_setN.2 ⟨hj, hb⟩
 obtain ⟨i, hi, rfl⟩ := List.getElem_of_mem hj'
 have hp := setUp_lt m 64
 have ex : (setN m)[k] = x := by rw [List.getElem?_eq_getElem hk] at hx; exact Option.some.inj hx
 rcases Nat.lt_or_ge i k with h' | h'
 ·have := List.pairwise_iff_getElem.1 hp i k hi hk h'
  have e2 : (setUp m 64)[k] = x := ex
  have e3 : (setUp m 64)[i] = (setN m)[i] := rfl
  omega
 ·obtain rfl : i = k := by omega
  omega
theorem good_last {B : Int} {m : Nat} (hm : m < 2 ^ 64) (h0 : 1 ≤ B) (h1 : B ≤ 1099511627777) (hb : m.testBit 0 = false) {x : Nat} (hxm : m.testBit x = true) (hle : ∀ j, j < 64 → m.testBit j = true → j ≤ x) : goodW B m = decide ((x : Int) ≤ 1099511627776 - B) := by
 by_cases h : (x : Int) ≤ 1099511627776 - B
 ·rw [decide_eq_true h]
  refine good_iff.2 ⟨⟨h0, h1⟩, hb, fun j hj => ?_⟩
  have h64 : j < 64 := by
   rcases Nat.lt_or_ge j 64 with q | q
   ·exact q
   ·rw [no_high hm q] at hj; cases hj
  have := hle j h64 hj
  omega
 ·rw [decide_eq_false h]
  cases hg : goodW B m
  ·rfl
  ·have := (good_iff.1 hg).2.2 x hxm; omega
theorem good_none {B : Int} {m : Nat} (hm : m < 2 ^ 64) (h0 : 1 ≤ B) (h1 : B ≤ 1099511627777) (h : (setN m).length = 0) : goodW B m = true := by
 have hn : ∀ j, m.testBit j = false := fun j => by
  rcases Nat.lt_or_ge j 64 with q | q
  ·cases hb : m.testBit j
   ·rfl
   ·have := mem_setN.2 ⟨q, hb⟩
    rw [List.eq_nil_of_length_eq_zero h] at this; cases this
  ·exact no_high hm q
 exact good_iff.2 ⟨⟨h0, h1⟩, hn 0, fun j hj => by rw [hn j] at hj; cases hj⟩
set_option maxHeartbeats 2000000 in
theorem refGoodW_any (B : Int) (m : Nat) (hm : m < 2 ^ 64) (w : World) : Calls Tryz.prog 88 #[winV B (m : Int)] w fun e w' => e = .returned (.bool (goodW B m)) ∧ Below w.heap.size w w' := by
 have hBx : Below w.heap.size w (w.alloc (.cells #[.int .i64 B, .int .u64 (m : Int)] 79)) := (Below.refl _ _).alloc (Nat.le_refl _) _
 by_cases h0 : B < 1
 ·have HG : Hid (goodW B m = false) := by show _ = _; unfold goodW; rw [decide_eq_false (by omega)]; rfl
  rw [HG.out]
  clear hm HG
  go_enter Tryz.func88, Tryz.ntmps88
  go_wp2_with fail
  go_ret
  exact ⟨rfl, hBx⟩
 ·by_cases h1 : 1099511627777 < B
  ·have HG : Hid (goodW B m = false) := by show _ = _; unfold goodW; rw [decide_eq_false (by omega)]; rfl
   rw [HG.out]
   clear hm HG
   go_enter Tryz.func88, Tryz.ntmps88
   go_wp2_with fail
   go_ret
   exact ⟨rfl, hBx⟩
  ·have c1 := refHas_any m hm 0
   have e0 : hasN m 0 = m.testBit 0 := hasN_cast m 0 (by decide)
   rw [e0] at c1
   clear e0
   cases hb : m.testBit 0
   ·rw [hb] at c1
    have c2 := refList_any m hm
    have hl64 : (setN m).length ≤ 64 := setUp_len m 64
    cases hk : (setN m).length with
    | zero =>
     have HG := hide (good_none (B := B) hm (by omega) (by omega) hk)
     rw [HG.out]
     clear HG
     rw [hk] at c2
     generalize vals (setN m) = vs at *
     clear hb hm hk hl64
     go_enter Tryz.func88, Tryz.ntmps88
     go_wp2_with (go_at_call 119; refine (c1 _).mono ?_; rintro e w5 ⟨rfl, hx⟩; obtain rfl := hx.symm; clear hx)
     refine (c2 _).mono ?_
     rintro e w1 ⟨v, rfl, hrow, hb1⟩
     obtain ⟨va, vcap, rfl⟩ := ownsRow_slice hrow
     obtain ⟨hA, hB1, hz⟩ := one_box hb1
     clear c1 c2 hrow hb1
     go_wp2_with fail
     go_quiet (fail)
     go_wp2_with fail
     go_ret
     exact ⟨rfl, below_drewN hB1 _⟩
    | succ k =>
     obtain ⟨x, hx, hx64, hxm, hxl⟩ := set_last hk
     have HG := hide (good_last (B := B) hm (by omega) (by omega) hb hxm hxl)
     rw [HG.out]
     clear HG hb hxm hxl
     have hkl : k < 64 := by omega
     go_enter Tryz.func88, Tryz.ntmps88
     go_wp2_with (go_at_call 119; refine (c1 _).mono ?_; rintro e w5 ⟨rfl, hx⟩; obtain rfl := hx.symm; clear hx)
     refine (c2 _).mono ?_
     rintro e w1 ⟨v, rfl, hrow, hb1⟩
     obtain ⟨va, vcap, rfl, hr⟩ := own_set hrow hl64
     obtain ⟨hA, hB1, hz⟩ := one_box hb1
     have hil : (ints (setN m)).length = k + 1 := by rw [ints_length, hk]
     obtain ⟨b, off, rfl, hcx⟩ := rowI_cell hr (Below.refl _ _) (k := k) (by omega)
     have ex : (ints (setN m))[k] = (x : Int) := by rw [List.getElem?_eq_getElem (by omega)] at hx; exact Option.some.inj hx
     rw [ex] at hcx
     rw [hk]
     have q0 : w1.cell? ⟨w.heap.size, 0, none⟩ = some (.int .i64 B) := hA 0 _ rfl
     clear c1 c2 hrow hb1 hr hx ex hil hl64 hk hm hA
     have hkc : (k : Int) < ((k + 1 : Nat) : Int) := by omega
     go_wp2_with fail
     obtain ⟨w8, hw8⟩ : ∃ w8, w1.drew = w8 := ⟨_, rfl⟩
     refine hs_begin (S := (fun W => W.cell? ⟨w.heap.size, 0, none⟩ = some (.int .i64 B) ∧ W.cell? ⟨b, off + k, none⟩ = some (.int .i64 (x : Int)))) 16 rfl (by kernel_rfl) ?_
     have hS : (fun W => W.cell? ⟨w.heap.size, 0, none⟩ = some (.int .i64 B) ∧ W.cell? ⟨b, off + k, none⟩ = some (.int .i64 (x : Int))) w8 := by rw [← hw8]; exact ⟨q0, hcx⟩
     have hB8 : Below w.heap.size w w8 := by rw [← hw8]; exact hB1.drew
     rw [hw8]
     clear hw8 q0 hcx
     refine hs_t 0 20 (?_) rfl (by kernel_rfl) (by kernel_rfl) (by kernel_rfl) (by rfl) ?_ hS rfl ?_
     rotate_left
     ·intro w' hw
      go_simp
      try with_reducible rfl
     simp only [nz]
     refine hs_t 1 21 (.int .i64 ((k + 1 : Nat) : Int)) rfl (by kernel_rfl) (by kernel_rfl) (by kernel_rfl) (by rfl) (fun w' hw => by go_simp) hS rfl ?_
     simp only [nz]
     refine hs_t 2 22 (.bool false) rfl (by kernel_rfl) (by kernel_rfl) (by kernel_rfl) (by rfl) (fun w' hw => by go_simp; first | done | omega | (simp; omega)) hS rfl ?_
     simp only [nz]
     refine hs_t 3 23 (?_) rfl (by kernel_rfl) (by kernel_rfl) (by kernel_rfl) (by rfl) ?_ hS rfl ?_
     rotate_left
     ·intro w' hw
      go_simp
      try with_reducible rfl
     simp only [nz]
     refine hs_t 4 24 (?_) rfl (by kernel_rfl) (by kernel_rfl) (by kernel_rfl) (by rfl) ?_ hS rfl ?_
     rotate_left
     ·intro w' hw
      go_simp
      try with_reducible rfl
     simp only [nz]
     refine hs_t 5 25 (?_) rfl (by kernel_rfl) (by kernel_rfl) (by kernel_rfl) (by rfl) ?_ hS rfl ?_
     rotate_left
     ·intro w' hw
      go_simp
      try with_reducible rfl
     simp only [nz]
     refine hs_t 6 26 (.int .i64 ((k + 1 : Nat) : Int)) rfl (by kernel_rfl) (by kernel_rfl) (by kernel_rfl) (by rfl) (fun w' hw => by go_simp) hS rfl ?_
     simp only [nz]
     refine hs_t 7 27 (.int .i64 (k : Int)) rfl (by kernel_rfl) (by kernel_rfl) (by kernel_rfl) (by rfl) (fun w' hw => by go_simp; first | done | (rw [wrap_id _ (by omega) (by omega)]; first | done | omega)) hS rfl ?_
     simp only [nz]
     refine hs_t 8 28 (.pointer (some ⟨b, off + k, none⟩)) rfl (by kernel_rfl) (by kernel_rfl) (by kernel_rfl) (by rfl) (fun w' hw => by go_simp; first | done | omega | (simp; omega)) hS rfl ?_
     simp only [nz]
     refine hs_t 9 29 (?_) rfl (by kernel_rfl) (by kernel_rfl) (by kernel_rfl) (by rfl) ?_ hS rfl ?_
     rotate_left
     ·intro w' hw
      have z1 := hw.2
      go_simp
      try with_reducible rfl
     simp only [nz]
     refine hs_t 10 30 (?_) rfl (by kernel_rfl) (by kernel_rfl) (by kernel_rfl) (by rfl) ?_ hS rfl ?_
     rotate_left
     ·intro w' hw
      go_simp
      try with_reducible rfl
     simp only [nz]
     refine hs_t 11 31 (?_) rfl (by kernel_rfl) (by kernel_rfl) (by kernel_rfl) (by rfl) ?_ hS rfl ?_
     rotate_left
     ·intro w' hw
      have z1 := hw.1
      go_simp
      try with_reducible rfl
     simp only [nz]
     refine hs_t 12 32 (.int .i64 (1099511627776 - B)) rfl (by kernel_rfl) (by kernel_rfl) (by kernel_rfl) (by rfl) (fun w' hw => by go_simp; first | done | exact wrap_id _ (by omega) (by omega)) hS rfl ?_
     simp only [nz]
     refine hs_t 13 33 (?_) rfl (by kernel_rfl) (by kernel_rfl) (by kernel_rfl) (by rfl) ?_ hS rfl ?_
     rotate_left
     ·intro w' hw
      go_simp
      try with_reducible rfl
     simp only [nz]
     refine hs_t 14 34 (?_) rfl (by kernel_rfl) (by kernel_rfl) (by kernel_rfl) (by rfl) ?_ hS rfl ?_
     rotate_left
     ·intro w' hw
      go_simp
      try with_reducible rfl
     simp only [nz]
     refine hs_t 15 2 (?_) rfl (by kernel_rfl) (by kernel_rfl) (by kernel_rfl) (by rfl) ?_ hS rfl ?_
     rotate_left
     ·intro w' hw
      go_simp
      try with_reducible rfl
     simp only [nz]
     refine hs_done (by kernel_rfl) ?_
     go_wp2_with fail
     go_ret
     exact ⟨ret_bool (by first | rfl | simp), hB8⟩
   ·have HG : Hid (goodW B m = false) := by
     show _ = _
     unfold goodW; rw [hb]; simp
    rw [HG.out]
    rw [hb] at c1
    clear hb hm HG
    go_enter Tryz.func88, Tryz.ntmps88
    go_wp2_with (go_at_call 119; refine (c1 _).mono ?_; rintro e w5 ⟨rfl, hx⟩; obtain rfl := hx.symm; clear hx)
    go_ret
    exact ⟨rfl, hBx⟩
end Go.Proofs.YtnfijfnnpbenfaaGreatDoor.Wn
namespace Go.Proofs.YtnfijfnnpbenfaaGreatDoor.Ld
structure Cfg where
 n : Int
 cl : Int
 wi : Int
 bu : Int
 ca : Int
 sl : Int
 rq : Int
 ti : Int
 pe : Int
 la : Int
def goodB (n : Int) : Bool := decide (4 ≤ n ∧ n ≤ 64 ∧ n % 3 = 1)
theorem goodB_mk {n : Int} (h : 4 ≤ n ∧ n ≤ 64 ∧ n % 3 = 1) : goodB n = true := by simpa [goodB] using h
theorem goodB_no {n : Int} (h : ¬ (4 ≤ n ∧ n ≤ 64 ∧ n % 3 = 1)) : goodB n = false := by simpa [goodB] using h
def faultsI (n : Int) : Int := if goodB n then n / 3 else 0
def inB (x l m : Int) : Bool := decide (l ≤ x ∧ x ≤ m)
theorem inB_mk {x l m : Int} (h : l ≤ x ∧ x ≤ m) : inB x l m = true := by simpa [inB] using h
theorem inB_no {x l m : Int} (h : ¬ (l ≤ x ∧ x ≤ m)) : inB x l m = false := by simpa [inB] using h
def goodC (c : Cfg) : Bool := goodB c.n && inB c.cl 1 8 && inB c.wi 1 64 && inB c.bu 1 c.n && inB c.ca 1 16 && inB c.sl 1 4 && inB c.rq 1 4 && inB c.ti 12 64 && inB c.pe 0 8 && inB c.la 1 1048576
def errC (c : Cfg) : Int := if goodC c then 0 else 110
def roundF (N f k : Nat) : List Nat := (List.range k).map fun i => (f + i) % N
def ownO (N : Nat) (p : Nat → Bool) (f : Nat) : Option Nat := (roundF N f N).find? p
open Go.RowKit
theorem ret_bool {a b : Bool} (h : a = b) : Ending.returned (.bool a) = .returned (.bool b) := by rw [h]
theorem ret_int {k : IntKind} {a b : Int} (h : a = b) : Ending.returned (.int k a) = .returned (.int k b) := by rw [h]
def IsRow (k : IntKind) (w : World) (a : Option Addr) (len cap : Nat) (zs : List Int) : Prop :=
 (a = none ∧ len = 0 ∧ cap = 0 ∧ zs = []) ∨
 ∃ x, a = some x ∧ len ≤ cap ∧ cap ≤ maxLen ∧ zs.length = cap ∧ (∀ i, i < zs.length → w.cell? (x.add i) = some (.int k (zs.getD i 0))) ∧ ∀ n ∈ zs, (Lit.int k n).wf = true
def RowI (w : World) (a : Option Addr) (zs : List Int) : Prop :=
 zs.length ≤ maxLen ∧ (zs = [] ∨ ∃ b off, a = some ⟨b, off, none⟩ ∧ b < w.heap.size ∧ ∀ j, j < zs.length → w.cell? ⟨b, off + j, none⟩ = some (.int .i64 (zs[j]?.getD 0)))
set_option maxHeartbeats 400000 in
theorem good_any (n : Int) (w : World) : Calls Tryz.prog 42 #[.int .i64 n] w fun e w' => e = .returned (.bool (goodB n)) ∧ w' = w := by
 by_cases h1 : 4 ≤ n
 ·by_cases h2 : n ≤ 64
  ·go_enter Tryz.func42, Tryz.ntmps42
   go_wp2
   go_ret
   refine ⟨ret_bool ?_, rfl⟩
   by_cases h3 : n % 3 = 1
   ·rw [goodB_mk ⟨h1, h2, h3⟩]; simpa using h3
   ·rw [goodB_no (by omega)]; simpa using h3
  ·go_enter Tryz.func42, Tryz.ntmps42
   go_wp2
   go_ret
   exact ⟨ret_bool (by rw [goodB_no (by omega)]), rfl⟩
 ·go_enter Tryz.func42, Tryz.ntmps42
  go_wp2
  go_ret
  exact ⟨ret_bool (by rw [goodB_no (by omega)]), rfl⟩
set_option maxHeartbeats 400000 in
theorem refGood_any (n : Int) (w : World) : Calls Tryz.prog 72 #[.int .i64 n] w fun e w' => e = .returned (.bool (goodB n)) ∧ w' = w := by
 by_cases h1 : 4 ≤ n
 ·by_cases h2 : n ≤ 64
  ·go_enter Tryz.func72, Tryz.ntmps72
   go_wp2
   go_ret
   refine ⟨ret_bool ?_, rfl⟩
   by_cases h3 : n % 3 = 1
   ·rw [goodB_mk ⟨h1, h2, h3⟩]; simpa using h3
   ·rw [goodB_no (by omega)]; simpa using h3
  ·go_enter Tryz.func72, Tryz.ntmps72
   go_wp2
   go_ret
   exact ⟨ret_bool (by rw [goodB_no (by omega)]), rfl⟩
 ·go_enter Tryz.func72, Tryz.ntmps72
  go_wp2
  go_ret
  exact ⟨ret_bool (by rw [goodB_no (by omega)]), rfl⟩
theorem within_any (x l m : Int) (w : World) : Calls Tryz.prog 74 #[.int .i64 x, .int .i64 l, .int .i64 m] w fun e w' => e = .returned (.bool (inB x l m)) ∧ w' = w := by
 by_cases h1 : l ≤ x
 ·go_enter Tryz.func74, Tryz.ntmps74
  go_wp2
  go_ret
  refine ⟨ret_bool ?_, rfl⟩
  by_cases h2 : x ≤ m
  ·rw [inB_mk ⟨h1, h2⟩]; simp [h2]
  ·rw [inB_no (by omega)]; simp [h2]
 ·go_enter Tryz.func74, Tryz.ntmps74
  go_wp2
  go_ret
  exact ⟨ret_bool (by rw [inB_no (by omega)]; try simp [h1]), rfl⟩
theorem rwithin_any (x l m : Int) (w : World) : Calls Tryz.prog 121 #[.int .i64 x, .int .i64 l, .int .i64 m] w fun e w' => e = .returned (.bool (inB x l m)) ∧ w' = w := by
 by_cases h1 : l ≤ x
 ·go_enter Tryz.func121, Tryz.ntmps121
  go_wp2
  go_ret
  refine ⟨ret_bool ?_, rfl⟩
  by_cases h2 : x ≤ m
  ·rw [inB_mk ⟨h1, h2⟩]; simp [h2]
  ·rw [inB_no (by omega)]; simp [h2]
 ·go_enter Tryz.func121, Tryz.ntmps121
  go_wp2
  go_ret
  exact ⟨ret_bool (by rw [inB_no (by omega)]; try simp [h1]), rfl⟩
theorem errC_fits {c : Cfg} {x : Int} {b : Bool} (h : goodC c = b) (hx : x = if b then 0 else 110) : errC c = x := by rw [errC, h, hx]
set_option maxRecDepth 100000 in
set_option maxHeartbeats 4000000 in
theorem lgood_any (c : Cfg) (w : World) : Calls Tryz.prog 34 #[(.agg #[.int .i64 c.n, .int .i64 c.cl, .int .i64 c.wi, .int .i64 c.bu, .int .i64 c.ca, .int .i64 c.sl, .int .i64 c.rq, .int .i64 c.ti, .int .i64 c.pe, .int .i64 c.la])] w fun e w' => e = .returned (.int .i64 (errC c)) ∧ Below w.heap.size w w' := by
 have hb : Below w.heap.size w (w.alloc (.cells #[.int .i64 c.n, .int .i64 c.cl, .int .i64 c.wi, .int .i64 c.bu, .int .i64 c.ca, .int .i64 c.sl, .int .i64 c.rq, .int .i64 c.ti, .int .i64 c.pe, .int .i64 c.la] 23)) := (Below.refl _ _).alloc (Nat.le_refl _) _
 have c1 := fun w => good_any c.n w
 have c2 := fun x l m w => within_any x l m w
 have HG : Hid (goodC c = (goodB c.n && inB c.cl 1 8 && inB c.wi 1 64 && inB c.bu 1 c.n && inB c.ca 1 16 && inB c.sl 1 4 && inB c.rq 1 4 && inB c.ti 12 64 && inB c.pe 0 8 && inB c.la 1 1048576)) := hide rfl
 generalize goodB c.n = g0 at *
 go_enter Tryz.func34, Tryz.ntmps34
 go_wp2_with (first | (go_at_call 42; refine (c1 _).mono ?_; rintro e w1 ⟨rfl, hx⟩; obtain rfl := hx.symm; clear hx) | (go_at_call 74; refine (c2 _ _ _ _).mono ?_; rintro e w1 ⟨rfl, hx⟩; obtain rfl := hx.symm; clear hx))
 all_goals go_ret
 all_goals refine ⟨ret_int ?_, hb⟩
 all_goals (symm; refine errC_fits HG.out ?_; simp_all)
set_option maxRecDepth 100000 in
set_option maxHeartbeats 4000000 in
theorem rlgood_any (c : Cfg) (w : World) : Calls Tryz.prog 89 #[(.agg #[.int .i64 c.n, .int .i64 c.cl, .int .i64 c.wi, .int .i64 c.bu, .int .i64 c.ca, .int .i64 c.sl, .int .i64 c.rq, .int .i64 c.ti, .int .i64 c.pe, .int .i64 c.la])] w fun e w' => e = .returned (.int .i64 (errC c)) ∧ Below w.heap.size w w' := by
 have hb : Below w.heap.size w (w.alloc (.cells #[.int .i64 c.n, .int .i64 c.cl, .int .i64 c.wi, .int .i64 c.bu, .int .i64 c.ca, .int .i64 c.sl, .int .i64 c.rq, .int .i64 c.ti, .int .i64 c.pe, .int .i64 c.la] 23)) := (Below.refl _ _).alloc (Nat.le_refl _) _
 have c1 := fun w => refGood_any c.n w
 have c2 := fun x l m w => rwithin_any x l m w
 have HG : Hid (goodC c = (goodB c.n && inB c.cl 1 8 && inB c.wi 1 64 && inB c.bu 1 c.n && inB c.ca 1 16 && inB c.sl 1 4 && inB c.rq 1 4 && inB c.ti 12 64 && inB c.pe 0 8 && inB c.la 1 1048576)) := hide rfl
 generalize goodB c.n = g0 at *
 go_enter Tryz.func89, Tryz.ntmps89
 go_wp2_with (first | (go_at_call 72; refine (c1 _).mono ?_; rintro e w1 ⟨rfl, hx⟩; obtain rfl := hx.symm; clear hx) | (go_at_call 121; refine (c2 _ _ _ _).mono ?_; rintro e w1 ⟨rfl, hx⟩; obtain rfl := hx.symm; clear hx))
 all_goals go_ret
 all_goals refine ⟨ret_int ?_, hb⟩
 all_goals (symm; refine errC_fits HG.out ?_; simp_all)
end Go.Proofs.YtnfijfnnpbenfaaGreatDoor.Ld
namespace Go.Proofs.YtnfijfnnpbenfaaGreatDoor
open Go.RowKit
open Sha Tal
set_option linter.unusedVariables false
set_option linter.unusedSimpArgs false
def sameL {α : Type} (B : α → α → Bool) : List α → List α → Bool
  | [], [] => true
  | x :: xs, y :: ys => B x y && sameL B xs ys
  | _, _ => false
structure Sl (α : Type) where
 a : Option Addr
 cap : Nat
 xs : List α
instance {α : Type} : Inhabited (Sl α) := ⟨⟨none, 0, []⟩⟩
def Sl.val {α : Type} (x : Sl α) : Value := .slice x.a x.xs.length x.cap
def Sl.At {α : Type} (E : El α) (w : World) (x : Sl α) : Prop := RowsAt E w x.a x.xs
theorem Sl.At.below {α : Type} {E : El α} {w w' : World} {x : Sl α} (h : x.At E w) (hb : Below w.heap.size w w') : x.At E w' := RowsAt.below h hb
theorem ex_bin {P : Program} {o : Oper} {a : Act} {w : World} {op : BinOp} {t t2 : TypeId} {x y : Operand} {u v : Array Value} {r : Value} (ho : o.op = .binOp op t x y t2) (hx : a.eval x = .agg u) (hy : a.eval y = .agg v) (hm : P.eqGuardType P.depth t = false) (hr : (binOp op t (.agg u) (.agg v)).run P w = .ok r w) : (execOp a.eval o).run P w = .ok (.value r) w := by
 unfold execOp
 simp only [ho, hx, hy, Sem.run_bind, run_eqGuard_agg w op t x y u v hm, Result.andThen_ok, hr, Sem.run_pure]
theorem ex_mid {P : Program} {op : Oper} {a : Act} {ty : TypeId} {x : Operand} (ho : op.op = .load ty x) {b o : Nat} (hx : a.eval x = .pointer (some ⟨b, o, none⟩)) {cs : List Value} {d : TypeDesc} {w : World} (hr : w.rangeAt b o cs) (hu : P.underlying ty = some d) (hd : d.isRow = true) (hi : (P.info? ty).map (·.size) = some cs.length) : (execOp a.eval op).run P w = .ok (.value (.agg cs.toArray)) w :=
 exec_load ho hx (run_loadVar_mid w b o ty cs d hr hu hd hi)
theorem ex_put {P : Program} {o : Oper} {a : Act} {w : World} {ty : TypeId} {x y : Operand} {b off : Nat} {cs : Array Value} (ho : o.op = .store ty x y) (hx : a.eval x = .pointer (some ⟨b, off, none⟩)) (hy : a.eval y = .agg cs) (ht : w.there b off cs.size) (hi : (P.info? ty).map (·.size) = some cs.size) (h1 : cs.all (·.oneCell') = true) : (execOp a.eval o).run P w = .ok .skip (w.setCells b off cs.toList) :=
 exec_store ho hx hy (run_storeVar_mid w b off ty cs ht hi h1)
theorem ex_alloc {P : Program} {o : Oper} {a : Act} {w : World} {t : TypeId} {z : Value} (ho : o.op = .alloc t) (hz : (zeroValue t).run P w = .ok z w) : (execOp a.eval o).run P w = .ok (.value (.pointer (some ⟨w.heap.size, 0, none⟩))) (w.alloc (.cells z.cells t)) := by
 unfold execOp
 simp [ho, hz, Instr.alloc, newVar, newRow]
section
variable {P : Program} {ops : Array Oper} {Q : Exit → Act → World → Prop}
theorem pl_store {o : Oper} {rest : List Oper} {a : Act} {w w' : World} (hw : Region.wanted o (yielded ops a.tmps) = true) (hy : (execOp a.eval o).run P w = .ok .skip w') (hd : o.dst = none)
  (h : Pl P ops Q rest a w') : Pl P ops Q (o :: rest) a w := by
 refine ⟨wpList_step fun K hK => ?_⟩
 rw [if_pos hw]
 unfold Oper.wp
 rw [hy, Oper.upon_skip, hd]
 exact hK _ _ h.out
end
theorem there_newN (w : World) (arr : Array Value) (t : TypeId) {n : Nat} (h : arr.size = n) : (w.alloc (.cells arr t)).there w.heap.size 0 n := h ▸ there_new w arr t
theorem boxed_new (w : World) (q : List Value) (t : TypeId) : Below w.heap.size w (w.alloc (.cells q.toArray t)) ∧ (w.alloc (.cells q.toArray t)).rangeAt w.heap.size 0 q ∧ w.heap.size < (w.alloc (.cells q.toArray t)).heap.size :=
 ⟨(Below.refl _ _).alloc (Nat.le_refl _) _, by simpa using range_new w q.toArray t, by simp⟩
theorem ex_boxR {P : Program} {o : Oper} {a : Act} {w : World} {t : TypeId} {x : Operand} {u : Array Value} (ho : o.op = .box t x) (hx : a.eval x = .agg u) : (execOp a.eval o).run P w = .ok (.value (.pointer (some ⟨w.heap.size, 0, none⟩))) (w.alloc (.cells u t)) := by
 unfold execOp
 simp [ho, hx, Instr.box, newVar, newRow, Value.cells]
structure Wd where
 b : Int
 m : Nat
instance : Inhabited Wd := ⟨⟨0, 0⟩⟩
def Wd.cells (x : Wd) : List Value := [.int .i64 x.b, .int .u64 (x.m : Int)]
structure Wd.ok (x : Wd) : Prop where
 lo : -9223372036854775808 ≤ x.b
 hi : x.b ≤ 9223372036854775807
 ml : x.m < 2 ^ 64
def WdE : El Wd where
 f := Wd.cells
 k := 2
 ok := Wd.ok
 len := fun _ _ => rfl
 one := fun y v hv => by
  simp only [Wd.cells, List.mem_cons, List.not_mem_nil, or_false] at hv
  rcases hv with rfl | rfl <;> rfl
structure PnOk (z : Int) : Prop where
 lo : -9223372036854775808 ≤ z
 hi : z ≤ 9223372036854775807
def PnE : El Int where
 f := fun z => [.int .i64 z]
 k := 1
 ok := PnOk
 len := fun _ _ => rfl
 one := fun y v hv => by
  simp only [List.mem_cons, List.not_mem_nil, or_false] at hv
  subst hv
  rfl
def Wd.good (x : Wd) : Bool := Wn.goodW x.b x.m
def pnGood (z : Int) : Bool := decide (0 ≤ z ∧ z ≤ 1048592)
theorem Wd.val_eq (x : Wd) : Value.agg x.cells.toArray = Wn.winV x.b (x.m : Int) := rfl
theorem iszW : (Tryz.prog.info? 79).map (·.size) = some 2 := by kernel_rfl
def Wd.B (x y : Wd) : Bool := (x.b == y.b) && (((x.m : Int)) == ((y.m : Int)))
end Go.Proofs.YtnfijfnnpbenfaaGreatDoor
namespace Go.Proofs.YtnfijfnnpbenfaaGreatDoor
open Go.RowKit
open Sha Tal
set_option linter.unusedVariables false
set_option linter.unusedSimpArgs false
set_option maxRecDepth 100000 in
theorem wmay_any (x : Wd) (w : World) (h : x.ok) : Calls Tryz.prog 36 #[.agg x.cells.toArray] w fun e w' => e = .returned (.bool (!x.good)) ∧ Below w.heap.size w w' := by
 have c1 := Wn.good_any x.b x.m h.ml
 rw [Wd.val_eq]
 unfold Wd.good
 generalize Wn.goodW x.b x.m = g at *
 have hb := (Below.refl w.heap.size w).alloc (Nat.le_refl _) (.cells #[.int .i64 x.b, .int .u64 (x.m : Int)] 79)
 unfold Wn.winV at *
 clear h
 go_enter Tryz.func36, Tryz.ntmps36
 go_wp2_with fail
 refine (c1 _).mono ?_
 rintro e1 w1 ⟨rfl, hb1⟩
 have hB := hb.trans (hb1.mono hb.size)
 clear c1 hb hb1
 cases g
 ·go_wp2
  go_ret
  exact ⟨rfl, hB⟩
 ·go_wp2
  go_ret
  exact ⟨rfl, hB⟩
set_option maxRecDepth 100000 in
theorem pmay_any (z : Int) (w : World) : Calls Tryz.prog 38 #[.int .i64 z] w fun e w' => e = .returned (.bool (!pnGood z)) ∧ Below w.heap.size w w' := by
 unfold pnGood
 obtain ⟨g, hg⟩ : ∃ g, Hid (decide (0 ≤ z ∧ z ≤ 1048592) = g) := ⟨_, hide rfl⟩
 rw [hg.out]
 by_cases h0 : z < 0
 ·obtain rfl : g = false := hg.out.symm.trans (decide_eq_false (by omega))
  clear hg
  go_enter Tryz.func38, Tryz.ntmps38
  go_wp2
  go_ret
  exact ⟨rfl, Below.refl _ _⟩
 ·by_cases h1 : 1048592 < z
  ·obtain rfl : g = false := hg.out.symm.trans (decide_eq_false (by omega))
   clear hg
   go_enter Tryz.func38, Tryz.ntmps38
   go_wp2
   go_ret
   exact ⟨rfl, Below.refl _ _⟩
  ·obtain rfl : g = true := hg.out.symm.trans (decide_eq_true (by omega))
   clear hg
   go_enter Tryz.func38, Tryz.ntmps38
   go_wp2
   go_ret
   exact ⟨rfl, Below.refl _ _⟩
set_option maxRecDepth 100000 in
set_option maxHeartbeats 2000000 in
theorem idxW_any (x : Sl Wd) (p : Wd → Bool) (w : World) (hx : x.At WdE w) (hp : ∀ y ∈ x.xs, ∀ w0, Below w.heap.size w w0 → Calls Tryz.prog 36 #[.agg y.cells.toArray] w0 fun e w' => e = .returned (.bool (p y)) ∧ Below w0.heap.size w0 w') :
  Calls Tryz.prog 75 #[x.val, .func (.func 36) #[] #[]] w fun e w' => ∃ r : Int, e = .returned (.int .i64 r) ∧ Hid (decide (0 ≤ r) = x.xs.any p) ∧ Below w.heap.size w w' := by
 obtain ⟨a, cap, xs⟩ := x
 have hml : xs.length ≤ maxLen := hx.1
 unfold maxLen at hml
 simp only [Sl.val]
 obtain ⟨sb, hsb⟩ : ∃ sb, Hid (xs.any p = sb) := ⟨_, hide rfl⟩
 rw [hsb.out]
 go_enter Tryz.func75, Tryz.ntmps75
 go_wp2
 go_loopw [8] (fun iv wr' => ∃ k : Nat, k ≤ xs.length ∧ iv = .int .i64 (k : Int) ∧ Hid (∀ j (hj : j < xs.length), j < k → p xs[j] = false) ∧ Below w.heap.size w wr') (fun iv _ => xs.length - (intOf iv).toNat)
 case atStart => exact ⟨0, by omega, rfl, hide (fun j _ hj => absurd hj (by omega)), Below.refl _ _⟩
 case round =>
  obtain ⟨k, hk, rfl, HM, hB⟩ := hrel
  by_cases hlt : k < xs.length
  ·have k1 : (k : Int) < xs.length := by omega
   obtain ⟨b, off, rfl, hb, hre⟩ := RowsAt.elem (hx.below hB) k hlt
   have hre : wr.rangeAt b (off + k * 2) (WdE.f xs[k]) := hre
   have hpk := fun w0 h0 => hp xs[k] (List.getElem_mem hlt) w0 h0
   have HT : Hid (p xs[k] = false → ∀ j (hj : j < xs.length), j < k + 1 → p xs[j] = false) := hide (fun h j hj hjk => by
    by_cases e : j = k
    ·subst e; exact h
    ·exact HM.out j hj (by omega))
   have HF : Hid (p xs[k] = true → sb = true) := hide (fun h => by
    rw [← hsb.out]
    rw [List.any_eq_true]
    exact ⟨xs[k], List.getElem_mem hlt, h⟩)
   obtain ⟨gx, hX⟩ : ∃ g, Hid (xs[k] = g) := ⟨_, hide rfl⟩
   rw [hX.out] at hre hpk HT HF
   clear hX HM
   generalize p gx = pb at *
   have c7 := hpk wr hB
   clear hpk hp hsb hx
   have iu : (Tryz.prog.info? 79).map (·.size) = some (WdE.f gx).length := iszW
   have c7' : Calls Tryz.prog 36 #[.agg (WdE.f gx).toArray] wr _ := c7
   clear c7
   generalize WdE.f gx = u at *
   go_wp2_with (refine wpList_load_mid rfl 79 _ rfl _ _ rfl u _ hre Tryz.underlying79 rfl iu ?_)
   have c7 := c7'
   clear c7'
   refine c7.mono ?_
   rintro e8 w8 ⟨rfl, hb8⟩
   have hB8 := hB.trans (hb8.mono hB.size)
   clear c7 hb8 hre
   cases pb
   ·have HT' := hide (HT.out rfl)
    clear HF HT
    go_wp2
    go_roundw
    case rel => exact ⟨k + 1, by omega, by go_num, HT', hB8⟩
    case measure => simp [intOf]; omega
   ·have HF' := hide (HF.out rfl)
    clear HF HT
    go_wp2
    go_ret
    exact ⟨(k : Int), rfl, hide (by rw [HF'.out]; exact decide_eq_true (by omega)), hB8⟩
  ·have k1 : ¬ (k : Int) < xs.length := by omega
   have HE : Hid (sb = false) := hide (by
    rw [← hsb.out]
    rw [List.any_eq_false]
    intro y hy
    obtain ⟨j, hj, rfl⟩ := List.mem_iff_getElem.1 hy
    rw [HM.out j hj (by omega)]
    simp)
   clear HM hsb hp hx
   go_wp2
   go_ret
   exact ⟨-1, rfl, hide (by rw [HE.out]; rfl), hB⟩
set_option maxRecDepth 100000 in
theorem contW_any (x : Sl Wd) (p : Wd → Bool) (w : World) (hx : x.At WdE w) (hp : ∀ y ∈ x.xs, ∀ w0, Below w.heap.size w w0 → Calls Tryz.prog 36 #[.agg y.cells.toArray] w0 fun e w' => e = .returned (.bool (p y)) ∧ Below w0.heap.size w0 w') :
  Calls Tryz.prog 35 #[x.val, .func (.func 36) #[] #[]] w fun e w' => e = .returned (.bool (x.xs.any p)) ∧ Below w.heap.size w w' := by
 have c1 := idxW_any x p w hx hp
 clear hx hp
 obtain ⟨sb, hsb⟩ : ∃ sb, Hid (x.xs.any p = sb) := ⟨_, hide rfl⟩
 rw [hsb.out] at c1 ⊢
 clear hsb
 obtain ⟨vx, hvx⟩ : ∃ v, x.val = v := ⟨_, rfl⟩
 rw [hvx] at c1 ⊢
 clear hvx
 go_enter Tryz.func35, Tryz.ntmps35
 go_wp2_with fail
 refine c1.mono ?_
 rintro e1 w1 ⟨r, rfl, hr, hb⟩
 by_cases h0 : 0 ≤ r
 ·have hr' := hide (hr.out.symm.trans (decide_eq_true h0))
  clear hr c1
  go_wp2
  go_ret
  exact ⟨by rw [hr'.out]; rfl, hb⟩
 ·have hr' := hide (hr.out.symm.trans (decide_eq_false h0))
  clear hr c1
  go_wp2
  go_ret
  exact ⟨by rw [hr'.out]; show Ending.returned (.bool (decide (0 ≤ r))) = _; rw [decide_eq_false (by omega)], hb⟩
set_option maxRecDepth 100000 in
set_option maxHeartbeats 2000000 in
theorem idxI_any (x : Sl Int) (p : Int → Bool) (w : World) (hx : x.At PnE w) (hp : ∀ y ∈ x.xs, ∀ w0, Below w.heap.size w w0 → Calls Tryz.prog 38 #[.int .i64 y] w0 fun e w' => e = .returned (.bool (p y)) ∧ Below w0.heap.size w0 w') :
  Calls Tryz.prog 77 #[x.val, .func (.func 38) #[] #[]] w fun e w' => ∃ r : Int, e = .returned (.int .i64 r) ∧ Hid (decide (0 ≤ r) = x.xs.any p) ∧ Below w.heap.size w w' := by
 obtain ⟨a, cap, xs⟩ := x
 have hml : xs.length ≤ maxLen := hx.1
 unfold maxLen at hml
 simp only [Sl.val]
 obtain ⟨sb, hsb⟩ : ∃ sb, Hid (xs.any p = sb) := ⟨_, hide rfl⟩
 rw [hsb.out]
 go_enter Tryz.func77, Tryz.ntmps77
 go_wp2
 go_loopw [8] (fun iv wr' => ∃ k : Nat, k ≤ xs.length ∧ iv = .int .i64 (k : Int) ∧ Hid (∀ j (hj : j < xs.length), j < k → p xs[j] = false) ∧ Below w.heap.size w wr') (fun iv _ => xs.length - (intOf iv).toNat)
 case atStart => exact ⟨0, by omega, rfl, hide (fun j _ hj => absurd hj (by omega)), Below.refl _ _⟩
 case round =>
  obtain ⟨k, hk, rfl, HM, hB⟩ := hrel
  by_cases hlt : k < xs.length
  ·have k1 : (k : Int) < xs.length := by omega
   obtain ⟨b, off, rfl, hb, hre⟩ := RowsAt.elem (hx.below hB) k hlt
   have hre : wr.rangeAt b (off + k * 1) (PnE.f xs[k]) := hre
   have hpk := fun w0 h0 => hp xs[k] (List.getElem_mem hlt) w0 h0
   have HT : Hid (p xs[k] = false → ∀ j (hj : j < xs.length), j < k + 1 → p xs[j] = false) := hide (fun h j hj hjk => by
    by_cases e : j = k
    ·subst e; exact h
    ·exact HM.out j hj (by omega))
   have HF : Hid (p xs[k] = true → sb = true) := hide (fun h => by
    rw [← hsb.out]
    rw [List.any_eq_true]
    exact ⟨xs[k], List.getElem_mem hlt, h⟩)
   obtain ⟨gx, hX⟩ : ∃ g, Hid (xs[k] = g) := ⟨_, hide rfl⟩
   rw [hX.out] at hre hpk HT HF
   clear hX HM
   generalize p gx = pb at *
   have c7 := hpk wr hB
   clear hpk hp hsb hx
   have hre : wr.cell? ⟨b, off + k, none⟩ = some (.int .i64 gx) := by have := hre 0 _ rfl; simpa using this
   go_wp2_with fail
   refine c7.mono ?_
   rintro e8 w8 ⟨rfl, hb8⟩
   have hB8 := hB.trans (hb8.mono hB.size)
   clear c7 hb8 hre
   cases pb
   ·have HT' := hide (HT.out rfl)
    clear HF HT
    go_wp2
    go_roundw
    case rel => exact ⟨k + 1, by omega, by go_num, HT', hB8⟩
    case measure => simp [intOf]; omega
   ·have HF' := hide (HF.out rfl)
    clear HF HT
    go_wp2
    go_ret
    exact ⟨(k : Int), rfl, hide (by rw [HF'.out]; exact decide_eq_true (by omega)), hB8⟩
  ·have k1 : ¬ (k : Int) < xs.length := by omega
   have HE : Hid (sb = false) := hide (by
    rw [← hsb.out]
    rw [List.any_eq_false]
    intro y hy
    obtain ⟨j, hj, rfl⟩ := List.mem_iff_getElem.1 hy
    rw [HM.out j hj (by omega)]
    simp)
   clear HM hsb hp hx
   go_wp2
   go_ret
   exact ⟨-1, rfl, hide (by rw [HE.out]; rfl), hB⟩
set_option maxRecDepth 100000 in
theorem contI_any (x : Sl Int) (p : Int → Bool) (w : World) (hx : x.At PnE w) (hp : ∀ y ∈ x.xs, ∀ w0, Below w.heap.size w w0 → Calls Tryz.prog 38 #[.int .i64 y] w0 fun e w' => e = .returned (.bool (p y)) ∧ Below w0.heap.size w0 w') :
  Calls Tryz.prog 37 #[x.val, .func (.func 38) #[] #[]] w fun e w' => e = .returned (.bool (x.xs.any p)) ∧ Below w.heap.size w w' := by
 have c1 := idxI_any x p w hx hp
 clear hx hp
 obtain ⟨sb, hsb⟩ : ∃ sb, Hid (x.xs.any p = sb) := ⟨_, hide rfl⟩
 rw [hsb.out] at c1 ⊢
 clear hsb
 obtain ⟨vx, hvx⟩ : ∃ v, x.val = v := ⟨_, rfl⟩
 rw [hvx] at c1 ⊢
 clear hvx
 go_enter Tryz.func37, Tryz.ntmps37
 go_wp2_with fail
 refine c1.mono ?_
 rintro e1 w1 ⟨r, rfl, hr, hb⟩
 by_cases h0 : 0 ≤ r
 ·have hr' := hide (hr.out.symm.trans (decide_eq_true h0))
  clear hr c1
  go_wp2
  go_ret
  exact ⟨by rw [hr'.out]; rfl, hb⟩
 ·have hr' := hide (hr.out.symm.trans (decide_eq_false h0))
  clear hr c1
  go_wp2
  go_ret
  exact ⟨by rw [hr'.out]; show Ending.returned (.bool (decide (0 ≤ r))) = _; rw [decide_eq_false (by omega)], hb⟩
open Go.RowKit
open Sha Tal
set_option linter.unusedVariables false
set_option linter.unusedSimpArgs false
structure Stt where
 e : Int
 n : Int
 c : Int
 d : List Int
 ws : Sl Wd
 ps : Sl Int
def Stt.cells (s : Stt) : List Value := [.int .i64 s.e, .int .i64 s.n, .int .i64 s.c] ++ (v8 s.d ++ [s.ws.val, s.ps.val])
structure Stt.ok (s : Stt) : Prop where
 e0 : -9223372036854775808 ≤ s.e
 e1 : s.e ≤ 9223372036854775807
 n0 : -9223372036854775808 ≤ s.n
 n1 : s.n ≤ 9223372036854775807
 c0 : -9223372036854775808 ≤ s.c
 c1 : s.c ≤ 9223372036854775807
 dl : s.d.length = 32
 db : ∀ z ∈ s.d, 0 ≤ z ∧ z < 256
structure Stt.At (s : Stt) (w : World) : Prop where
 ws : s.ws.At WdE w
 ps : s.ps.At PnE w
theorem Stt.At.below {s : Stt} {w w' : World} (h : s.At w) (hb : Below w.heap.size w w') : s.At w' := ⟨h.ws.below hb, h.ps.below hb⟩
theorem Stt.len {s : Stt} (h : s.ok) : s.cells.length = 37 := by
 unfold Stt.cells
 rw [List.length_append, List.length_append, v8_length, h.dl]
 rfl
theorem Stt.one (s : Stt) : ∀ v ∈ s.cells, v.oneCell' = true := fun v hv => by
 unfold Stt.cells at hv
 rcases List.mem_append.1 hv with g | g
 ·simp only [List.mem_cons, List.not_mem_nil, or_false] at g
  rcases g with rfl | rfl | rfl <;> rfl
 ·rcases List.mem_append.1 g with g | g
  ·obtain ⟨z, _, rfl⟩ := List.mem_map.1 g
   rfl
  ·simp only [List.mem_cons, List.not_mem_nil, or_false] at g
   rcases g with rfl | rfl <;> rfl
theorem iszSt : (Tryz.prog.info? 36).map (·.size) = some 37 := by kernel_rfl
structure StP (w : World) (b : Nat) (s : Stt) : Prop where
 e : w.cell? ⟨b, 0, none⟩ = some (.int .i64 s.e)
 n : w.cell? ⟨b, 1, none⟩ = some (.int .i64 s.n)
 c : w.cell? ⟨b, 2, none⟩ = some (.int .i64 s.c)
 d : w.rangeAt b 3 (v8 s.d)
 ws : w.cell? ⟨b, 35, none⟩ = some s.ws.val
 ps : w.cell? ⟨b, 36, none⟩ = some s.ps.val
theorem st_parts {w : World} {b : Nat} {s : Stt} (h : s.ok) (hr : w.rangeAt b 0 s.cells) : StP w b s := by
 have k : w.rangeAt b 3 (v8 s.d ++ [s.ws.val, s.ps.val]) := range_right (cs := [.int .i64 s.e, .int .i64 s.n, .int .i64 s.c]) hr
 have k2 : w.rangeAt b (3 + (v8 s.d).length) [s.ws.val, s.ps.val] := range_right k
 rw [v8_length, h.dl] at k2
 exact ⟨hr 0 _ rfl, hr 1 _ rfl, hr 2 _ rfl, range_left k, k2 0 _ rfl, k2 1 _ rfl⟩
theorem two_box2 (q q' : List Value) (t t' : TypeId) (w : World) : ((w.alloc (.cells q.toArray t)).alloc (.cells q'.toArray t')).rangeAt w.heap.size 0 q ∧ ((w.alloc (.cells q.toArray t)).alloc (.cells q'.toArray t')).rangeAt (w.heap.size + 1) 0 q' ∧ Below w.heap.size w ((w.alloc (.cells q.toArray t)).alloc (.cells q'.toArray t')) ∧ w.heap.size + 2 ≤ ((w.alloc (.cells q.toArray t)).alloc (.cells q'.toArray t')).heap.size := by
 have hB : Below w.heap.size w (w.alloc (.cells q.toArray t)) := (Below.refl _ _).alloc (Nat.le_refl _) _
 have hB2 : Below (w.alloc (.cells q.toArray t)).heap.size (w.alloc (.cells q.toArray t)) ((w.alloc (.cells q.toArray t)).alloc (.cells q'.toArray t')) := (Below.refl _ _).alloc (Nat.le_refl _) _
 have h1 := range_new w q.toArray t
 have h2 := range_new (w.alloc (.cells q.toArray t)) q'.toArray t'
 rw [World.size_alloc] at h2
 exact ⟨range_below (by simpa using h1) hB2 (by simp), by simpa using h2, hB.trans (hB2.mono (by simp)), by simp⟩
def cfgL (c : Ld.Cfg) : List Value := [.int .i64 c.n, .int .i64 c.cl, .int .i64 c.wi, .int .i64 c.bu, .int .i64 c.ca, .int .i64 c.sl, .int .i64 c.rq, .int .i64 c.ti, .int .i64 c.pe, .int .i64 c.la]
theorem iszCf (c : Ld.Cfg) : (Tryz.prog.info? 23).map (·.size) = some (cfgL c).length := by kernel_rfl
def Stt.nums (c : Ld.Cfg) (s : Stt) : Bool := decide (1 ≤ s.e ∧ s.e ≤ c.la + 1) && (decide (1 ≤ s.n ∧ s.n ≤ 1099511627776) && decide (0 ≤ s.c ∧ s.c ≤ 1099511627776))
def Stt.lens (c : Ld.Cfg) (s : Stt) : Bool := decide ((s.ws.xs.length : Int) = c.cl) && decide ((s.ps.xs.length : Int) = c.n)
def Stt.good (c : Ld.Cfg) (s : Stt) : Bool := Ld.goodC c && (s.nums c && (s.lens c && (s.ws.xs.all Wd.good && s.ps.xs.all pnGood)))
theorem any_not {α : Type} (p : α → Bool) (xs : List α) : (xs.any fun y => !p y) = !xs.all p := by
  induction xs with
  | nil => rfl
  | cons x xs ih => simp [List.any_cons, List.all_cons, ih]
theorem goodC_la {c : Ld.Cfg} (h : Ld.goodC c = true) : 1 ≤ c.la ∧ c.la ≤ 1048576 := by
 simp only [Ld.goodC, Bool.and_eq_true, Ld.inB, decide_eq_true_eq] at h
 omega
set_option maxRecDepth 100000 in
set_option maxHeartbeats 1000000 in
theorem sgood_any (c : Ld.Cfg) (s : Stt) (w : World) (h : s.ok) (hs : s.At w) : Calls Tryz.prog 10 #[(.agg #[.int .i64 c.n, .int .i64 c.cl, .int .i64 c.wi, .int .i64 c.bu, .int .i64 c.ca, .int .i64 c.sl, .int .i64 c.rq, .int .i64 c.ti, .int .i64 c.pe, .int .i64 c.la]), .agg s.cells.toArray] w fun e w' => e = .returned (.bool (s.good c)) ∧ Below w.heap.size w w' := by
 obtain ⟨hc, hr, hB, hz⟩ := two_box2 (cfgL c) s.cells 23 36 w
 have hp := st_parts h hr
 have hc0 := hc 0 _ rfl
 have hc1 := hc 1 _ rfl
 have hc9 := hc 9 _ rfl
 simp only [Nat.zero_add, Nat.add_zero] at hc0 hc1 hc9
 have iu := iszCf c
 have cg : ∀ w0, Calls Tryz.prog 34 #[.agg (cfgL c).toArray] w0 _ := fun w0 => Ld.lgood_any c w0
 have cw : ∀ w0, Below w.heap.size w w0 → Calls Tryz.prog 35 #[s.ws.val, .func (.func 36) #[] #[]] w0 fun e w' => e = .returned (.bool (!s.ws.xs.all Wd.good)) ∧ Below w0.heap.size w0 w' := fun w0 hb0 => by
  have := contW_any s.ws (fun y => !y.good) w0 (hs.ws.below hb0) (fun y hy w1 _ => wmay_any y w1 (hs.ws.2.1 y hy))
  rwa [any_not] at this
 have cp : ∀ w0, Below w.heap.size w w0 → Calls Tryz.prog 37 #[s.ps.val, .func (.func 38) #[] #[]] w0 fun e w' => e = .returned (.bool (!s.ps.xs.all pnGood)) ∧ Below w0.heap.size w0 w' := fun w0 hb0 => by
  have := contI_any s.ps (fun y => !pnGood y) w0 (hs.ps.below hb0) (fun y hy w1 _ => pmay_any y w1)
  rwa [any_not] at this
 have hla := fun hg => goodC_la (c := c) hg
 have lw : s.ws.xs.length ≤ maxLen := hs.ws.1
 have lp : s.ps.xs.length ≤ maxLen := hs.ps.1
 unfold maxLen at lw lp
 obtain ⟨pe, pn, pc, -, pw, pp⟩ := hp
 have ok := h
 obtain ⟨e0, e1, n0, n1, c0, c1, -, -⟩ := h
 obtain ⟨g, hg⟩ : ∃ g, Hid (s.good c = g) := ⟨_, hide rfl⟩
 rw [hg.out]
 obtain ⟨W, hW⟩ : ∃ W, Hid ((w.alloc (.cells (cfgL c).toArray 23)).alloc (.cells s.cells.toArray 36) = W) := ⟨_, hide rfl⟩
 rw [hW.out] at hc hr hB hz hc0 hc1 hc9 pe pn pc pw pp
 unfold Stt.good Stt.nums Stt.lens at hg
 have hcv : (Value.agg #[.int .i64 c.n, .int .i64 c.cl, .int .i64 c.wi, .int .i64 c.bu, .int .i64 c.ca, .int .i64 c.sl, .int .i64 c.rq, .int .i64 c.ti, .int .i64 c.pe, .int .i64 c.la]) = .agg (cfgL c).toArray := rfl
 rw [hcv]
 unfold Ld.errC at cg
 obtain ⟨E, N, C, D, ⟨wa, wcap, wx⟩, ⟨pa, pcap, px⟩⟩ := s
 simp only [Sl.val] at pw pp cw cp
 clear hr hcv hs ok
 simp only at *
 generalize Stt.cells _ = q at *
 generalize wx.all Wd.good = gw at *
 generalize px.all pnGood = gp at *
 generalize hcl : c.cl = ccl at *
 generalize hcn : c.n = ccn at *
 generalize hcla : c.la = cla at *
 clear hcl hcn hcla
 generalize cfgL c = u at *
 generalize Ld.goodC c = gc at *
 clear c
 go_enter Tryz.func10, Tryz.ntmps10
 go_upto_region 1 with fail
 go_name_world w1 hw1
 obtain rfl : W = w1 := hW.out.symm.trans hw1
 clear hw1 hW
 go_wp2_with (first | (refine wpList_load_mid rfl 23 _ rfl _ _ rfl u _ hc Tryz.underlying23 rfl iu ?_))
 refine (cg _).mono ?_
 rintro e2 w2 ⟨rfl, hb2⟩
 have k := fun (p : Addr) (hp : p.block < W.heap.size) => hb2.cell (p := p) hp
 have pe := (k ⟨w.heap.size + 1, 0, none⟩ (by simp; omega)).trans pe
 have pn := (k ⟨w.heap.size + 1, 1, none⟩ (by simp; omega)).trans pn
 have pc := (k ⟨w.heap.size + 1, 2, none⟩ (by simp; omega)).trans pc
 have pw := (k ⟨w.heap.size + 1, 35, none⟩ (by simp; omega)).trans pw
 have pp := (k ⟨w.heap.size + 1, 36, none⟩ (by simp; omega)).trans pp
 have hc0 := (k ⟨w.heap.size, 0, none⟩ (by simp; omega)).trans hc0
 have hc1 := (k ⟨w.heap.size, 1, none⟩ (by simp; omega)).trans hc1
 have hc9 := (k ⟨w.heap.size, 9, none⟩ (by simp; omega)).trans hc9
 have hB := hB.trans (hb2.mono (by omega))
 have hz := Nat.le_trans hz hb2.size
 clear k cg hb2 hc iu
 cases gc
 ·obtain rfl : g = false := by rw [← hg.out]; rfl
  clear hg cw cp hla pe pn pc pw pp hc0 hc1 hc9
  go_wp2
  go_ret
  exact ⟨rfl, hB⟩
 have hla := hla rfl
 obtain ⟨la0, la1⟩ := hla
 by_cases k1 : 1 ≤ E
 rotate_left
 ·obtain rfl : g = false := by rw [← hg.out]; simp only [show ¬(1 ≤ E ∧ E ≤ cla + 1) by omega, decide_false, Bool.false_and, Bool.and_false]
  clear hg cw cp
  go_wp2
  go_ret
  exact ⟨rfl, hB⟩
 by_cases k2 : E ≤ cla + 1
 rotate_left
 ·obtain rfl : g = false := by rw [← hg.out]; simp only [show ¬(1 ≤ E ∧ E ≤ cla + 1) by omega, decide_false, Bool.false_and, Bool.and_false]
  clear hg cw cp
  go_wp2
  go_ret
  exact ⟨rfl, hB⟩
 by_cases k3 : 1 ≤ N
 rotate_left
 ·obtain rfl : g = false := by rw [← hg.out]; simp only [show ¬(1 ≤ N ∧ N ≤ 1099511627776) by omega, decide_false, Bool.false_and, Bool.and_false]
  clear hg cw cp
  go_wp2
  go_ret
  exact ⟨rfl, hB⟩
 by_cases k4 : N ≤ 1099511627776
 rotate_left
 ·obtain rfl : g = false := by rw [← hg.out]; simp only [show ¬(1 ≤ N ∧ N ≤ 1099511627776) by omega, decide_false, Bool.false_and, Bool.and_false]
  clear hg cw cp
  go_wp2
  go_ret
  exact ⟨rfl, hB⟩
 by_cases k5 : 0 ≤ C
 rotate_left
 ·obtain rfl : g = false := by rw [← hg.out]; simp only [show ¬(0 ≤ C ∧ C ≤ 1099511627776) by omega, decide_false, Bool.false_and, Bool.and_false]
  clear hg cw cp
  go_wp2
  go_ret
  exact ⟨rfl, hB⟩
 by_cases k6 : C ≤ 1099511627776
 rotate_left
 ·obtain rfl : g = false := by rw [← hg.out]; simp only [show ¬(0 ≤ C ∧ C ≤ 1099511627776) by omega, decide_false, Bool.false_and, Bool.and_false]
  clear hg cw cp
  go_wp2
  go_ret
  exact ⟨rfl, hB⟩
 by_cases k7 : (wx.length : Int) = ccl
 rotate_left
 ·obtain rfl : g = false := by rw [← hg.out]; simp only [k7, decide_false, Bool.false_and, Bool.and_false]
  have e0 : ((wx.length : Int) == ccl) = false := by simp; omega
  clear hg cw cp k7
  go_wp2
  go_ret
  exact ⟨rfl, hB⟩
 subst k7
 by_cases k8 : (px.length : Int) = ccn
 rotate_left
 ·obtain rfl : g = false := by rw [← hg.out]; simp only [k8, decide_false, Bool.false_and, Bool.and_false]
  have e0 : ((px.length : Int) == ccn) = false := by simp; omega
  clear hg cw cp k8
  go_wp2
  go_ret
  exact ⟨rfl, hB⟩
 subst k8
 have HG : Hid (g = (gw && gp)) := hide (by rw [← hg.out, show decide (1 ≤ E ∧ E ≤ cla + 1) = true from decide_eq_true ⟨k1, k2⟩, show decide (1 ≤ N ∧ N ≤ 1099511627776) = true from decide_eq_true ⟨k3, k4⟩, show decide (0 ≤ C ∧ C ≤ 1099511627776) = true from decide_eq_true ⟨k5, k6⟩, show decide ((wx.length : Int) = (wx.length : Int)) = true from decide_eq_true rfl, show decide ((px.length : Int) = (px.length : Int)) = true from decide_eq_true rfl]; rfl)
 clear hg
 go_wp2_with fail
 refine (cw _ hB).mono ?_
 rintro e3 w3 ⟨rfl, hb3⟩
 have pp := (hb3.cell (p := ⟨w.heap.size + 1, 36, none⟩) (by simp; omega)).trans pp
 have hB := hB.trans (hb3.mono (by omega))
 clear cw hb3
 cases gw
 ·have HG' := hide HG.out
  clear HG cp
  go_wp2
  go_ret
  exact ⟨by rw [HG'.out]; rfl, hB⟩
 ·go_wp2_with fail
  refine (cp _ hB).mono ?_
  rintro e4 w4 ⟨rfl, hb4⟩
  have hB := hB.trans (hb4.mono (by have := hB.size; omega))
  clear cp hb4
  have HG' := hide HG.out
  clear HG
  cases gp
  ·go_wp2
   go_ret
   exact ⟨by rw [HG'.out]; rfl, hB⟩
  ·go_wp2
   go_ret
   exact ⟨by rw [HG'.out]; rfl, hB⟩
open Go.RowKit
open Sha Tal
set_option linter.unusedVariables false
set_option linter.unusedSimpArgs false
theorem refGoodWd_any (x : Wd) (w : World) (h : x.ok) : Calls Tryz.prog 88 #[.agg x.cells.toArray] w fun e w' => e = .returned (.bool x.good) ∧ Below w.heap.size w w' := Wn.refGoodW_any x.b x.m h.ml w
def mayB (c : Ld.Cfg) (n : Int) (ws : List Wd) : Bool := decide ((ws.length : Int) = c.cl) && (decide (0 ≤ n ∧ n ≤ 1099511627776) && ws.all Wd.good)
set_option maxRecDepth 100000 in
set_option maxHeartbeats 1000000 in
theorem may21_any (c : Ld.Cfg) (n : Int) (x : Sl Wd) (w : World) (hx : x.At WdE w) : Calls Tryz.prog 90 #[(.agg #[.int .i64 c.n, .int .i64 c.cl, .int .i64 c.wi, .int .i64 c.bu, .int .i64 c.ca, .int .i64 c.sl, .int .i64 c.rq, .int .i64 c.ti, .int .i64 c.pe, .int .i64 c.la]), .int .i64 n, x.val] w fun e w' => e = .returned (.bool (mayB c n x.xs)) ∧ Below w.heap.size w w' := by
 obtain ⟨hB, hc, hs⟩ := boxed_new w (cfgL c) 23
 have hc1 := hc 1 _ rfl
 simp only [Nat.zero_add, Nat.add_zero] at hc1
 have hcv : (Value.agg #[.int .i64 c.n, .int .i64 c.cl, .int .i64 c.wi, .int .i64 c.bu, .int .i64 c.ca, .int .i64 c.sl, .int .i64 c.rq, .int .i64 c.ti, .int .i64 c.pe, .int .i64 c.la]) = .agg (cfgL c).toArray := rfl
 rw [hcv]
 clear hcv hc
 have hx1 := hx.below hB
 have lw : x.xs.length ≤ maxLen := hx.1
 unfold maxLen at lw
 have hg0 := fun w0 y hy => refGoodWd_any y w0 (hx.2.1 y hy)
 clear hx
 unfold mayB
 obtain ⟨a, cap, xs⟩ := x
 simp only [Sl.val]
 obtain ⟨sb, hsb⟩ : ∃ sb, Hid (xs.all Wd.good = sb) := ⟨_, hide rfl⟩
 simp only [hsb.out]
 obtain ⟨W, hW⟩ : ∃ W, Hid (w.alloc (.cells (cfgL c).toArray 23) = W) := ⟨_, hide rfl⟩
 rw [hW.out] at hB hs hc1 hx1
 generalize c.cl = ccl at *
 generalize cfgL c = u at *
 clear c
 obtain ⟨g, hg⟩ : ∃ g, Hid ((decide ((xs.length : Int) = ccl) && (decide (0 ≤ n ∧ n ≤ 1099511627776) && sb)) = g) := ⟨_, hide rfl⟩
 rw [hg.out]
 go_enter Tryz.func90, Tryz.ntmps90
 go_upto_region 1 with fail
 go_name_world w1 hw1
 obtain rfl : W = w1 := hW.out.symm.trans hw1
 clear hw1 hW
 by_cases k7 : (xs.length : Int) = ccl
 rotate_left
 ·obtain rfl : g = false := by rw [← hg.out]; simp only [k7, decide_false, Bool.false_and]
  have e0 : ((xs.length : Int) != ccl) = true := by simp; omega
  clear hg hg0 hsb hx1 k7
  go_wp2
  go_ret
  exact ⟨rfl, hB⟩
 subst k7
 by_cases k5 : 0 ≤ n
 rotate_left
 ·obtain rfl : g = false := by rw [← hg.out]; simp only [show ¬(0 ≤ n ∧ n ≤ 1099511627776) by omega, decide_false, Bool.false_and, Bool.and_false]
  clear hg hg0 hsb hx1
  go_wp2
  go_ret
  exact ⟨rfl, hB⟩
 by_cases k6 : n ≤ 1099511627776
 rotate_left
 ·obtain rfl : g = false := by rw [← hg.out]; simp only [show ¬(0 ≤ n ∧ n ≤ 1099511627776) by omega, decide_false, Bool.false_and, Bool.and_false]
  clear hg hg0 hsb hx1
  go_wp2
  go_ret
  exact ⟨rfl, hB⟩
 obtain rfl : g = sb := by rw [← hg.out, show decide ((xs.length : Int) = (xs.length : Int)) = true from decide_eq_true rfl, show decide (0 ≤ n ∧ n ≤ 1099511627776) = true from decide_eq_true ⟨k5, k6⟩]; rfl
 clear hg
 go_upto_region 4 with fail
 clear hc1
 go_loopw [7] (fun iv wr' => ∃ k : Nat, k ≤ xs.length ∧ iv = .int .i64 (k : Int) ∧ Hid (∀ j (hj : j < xs.length), j < k → xs[j].good = true) ∧ Below W.heap.size W wr') (fun iv _ => xs.length - (intOf iv).toNat)
 case atStart => exact ⟨0, by omega, rfl, hide (fun j _ hj => absurd hj (by omega)), Below.refl _ _⟩
 case round =>
  obtain ⟨k, hk, rfl, HM, hB2⟩ := hrel
  have hB3 := hB.trans (hB2.mono (by omega))
  by_cases hlt : k < xs.length
  ·have k1 : (k : Int) < xs.length := by omega
   obtain ⟨b, off, rfl, hb, hre⟩ := RowsAt.elem (hx1.below hB2) k hlt
   have hre : wr.rangeAt b (off + k * 2) (WdE.f xs[k]) := hre
   have hpk := fun w0 => hg0 w0 xs[k] (List.getElem_mem hlt)
   have HT : Hid (xs[k].good = true → ∀ j (hj : j < xs.length), j < k + 1 → xs[j].good = true) := hide (fun h j hj hjk => by
    by_cases e : j = k
    ·subst e; exact h
    ·exact HM.out j hj (by omega))
   have HF : Hid (xs[k].good = false → g = false) := hide (fun h => by
    rw [← hsb.out]
    rw [List.all_eq_false]
    exact ⟨xs[k], List.getElem_mem hlt, by rw [h]; simp⟩)
   obtain ⟨gx, hX⟩ : ∃ g, Hid (xs[k] = g) := ⟨_, hide rfl⟩
   rw [hX.out] at hre hpk HT HF
   clear hX HM
   generalize gx.good = pb at *
   have iu : (Tryz.prog.info? 79).map (·.size) = some (WdE.f gx).length := iszW
   have c7 : Calls Tryz.prog 88 #[.agg (WdE.f gx).toArray] wr _ := hpk wr
   clear hpk hg0 hsb hx1
   generalize WdE.f gx = v at *
   go_wp2_with (refine wpList_load_mid rfl 79 _ rfl _ _ rfl v _ hre Tryz.underlying79 rfl iu ?_)
   refine c7.mono ?_
   rintro e8 w8 ⟨rfl, hb8⟩
   have hB8 := hB3.trans (hb8.mono hB3.size)
   have hB9 := hB2.trans (hb8.mono hB2.size)
   clear c7 hb8 hre
   cases pb
   ·have HF' := hide (HF.out rfl)
    clear HF HT
    go_wp2
    go_ret
    exact ⟨by rw [HF'.out]; rfl, hB8⟩
   ·have HT' := hide (HT.out rfl)
    clear HF HT
    go_wp2
    go_roundw
    case rel => exact ⟨k + 1, by omega, by go_num, HT', hB9⟩
    case measure => simp [intOf]; omega
  ·have k1 : ¬ (k : Int) < xs.length := by omega
   have HE : Hid (g = true) := hide (by
    rw [← hsb.out]
    rw [List.all_eq_true]
    intro y hy
    obtain ⟨j, hj, rfl⟩ := List.mem_iff_getElem.1 hy
    exact HM.out j hj (by omega))
   clear HM hsb hg0 hx1
   go_wp2
   go_ret
   exact ⟨by rw [HE.out]; rfl, hB3⟩
theorem good_shape (c : Ld.Cfg) (s : Stt) : s.good c = ((Ld.goodC c && (decide (1 ≤ s.e ∧ s.e ≤ c.la + 1) && decide (1 ≤ s.n ∧ s.n ≤ 1099511627776))) && ((mayB c s.c s.ws.xs && decide ((s.ps.xs.length : Int) = c.n)) && s.ps.xs.all pnGood)) := by
 unfold Stt.good Stt.nums Stt.lens mayB
 ac_rfl
set_option maxRecDepth 100000 in
set_option maxHeartbeats 1000000 in
theorem xsgood_any (c : Ld.Cfg) (s : Stt) (w : World) (h : s.ok) (hs : s.At w) : Calls Tryz.prog 54 #[(.agg #[.int .i64 c.n, .int .i64 c.cl, .int .i64 c.wi, .int .i64 c.bu, .int .i64 c.ca, .int .i64 c.sl, .int .i64 c.rq, .int .i64 c.ti, .int .i64 c.pe, .int .i64 c.la]), .agg s.cells.toArray] w fun e w' => e = .returned (.bool (s.good c)) ∧ Below w.heap.size w w' := by
 obtain ⟨hc, hr, hB, hz⟩ := two_box2 (cfgL c) s.cells 23 36 w
 have hp := st_parts h hr
 have hc0 := hc 0 _ rfl
 have hc9 := hc 9 _ rfl
 simp only [Nat.zero_add, Nat.add_zero] at hc0 hc9
 have iu := iszCf c
 have cg : ∀ w0, Calls Tryz.prog 89 #[.agg (cfgL c).toArray] w0 _ := fun w0 => Ld.rlgood_any c w0
 have cm : ∀ w0, Below w.heap.size w w0 → Calls Tryz.prog 90 #[.agg (cfgL c).toArray, .int .i64 s.c, s.ws.val] w0 _ := fun w0 hb0 => may21_any c s.c s.ws w0 (hs.ws.below hb0)
 have hla := fun hg => goodC_la (c := c) hg
 have hps := hs.ps
 have lw : s.ws.xs.length ≤ maxLen := hs.ws.1
 have lp : s.ps.xs.length ≤ maxLen := hs.ps.1
 unfold maxLen at lw lp
 obtain ⟨pe, pn, pc, -, pw, pp⟩ := hp
 obtain ⟨e0, e1, n0, n1, c0, c1, -, -⟩ := h
 obtain ⟨g, hg⟩ : ∃ g, Hid (s.good c = g) := ⟨_, hide rfl⟩
 rw [hg.out]
 obtain ⟨W, hW⟩ : ∃ W, Hid ((w.alloc (.cells (cfgL c).toArray 23)).alloc (.cells s.cells.toArray 36) = W) := ⟨_, hide rfl⟩
 rw [hW.out] at hc hr hB hz hc0 hc9 pe pn pc pw pp
 rw [good_shape] at hg
 have hcv : (Value.agg #[.int .i64 c.n, .int .i64 c.cl, .int .i64 c.wi, .int .i64 c.bu, .int .i64 c.ca, .int .i64 c.sl, .int .i64 c.rq, .int .i64 c.ti, .int .i64 c.pe, .int .i64 c.la]) = .agg (cfgL c).toArray := rfl
 rw [hcv]
 unfold Ld.errC at cg
 obtain ⟨E, N, C, D, ws, ⟨pa, pcap, px⟩⟩ := s
 simp only [Sl.val] at pp
 clear hr hcv hs
 simp only at *
 obtain ⟨wv, hwv⟩ : ∃ v, Hid (ws.val = v) := ⟨_, hide rfl⟩
 rw [hwv.out] at pw cm
 clear hwv
 generalize Stt.cells _ = q at *
 obtain ⟨gp, hgp⟩ : ∃ sb, Hid (px.all pnGood = sb) := ⟨_, hide rfl⟩
 rw [hgp.out] at hg
 generalize mayB c C ws.xs = gm at *
 generalize hcn : c.n = ccn at *
 generalize hcla : c.la = cla at *
 clear hcn hcla
 generalize cfgL c = u at *
 generalize Ld.goodC c = gc at *
 clear c lw
 go_enter Tryz.func54, Tryz.ntmps54
 go_upto_region 1 with fail
 go_name_world w1 hw1
 obtain rfl : W = w1 := hW.out.symm.trans hw1
 clear hw1 hW
 go_wp2_with (first | (refine wpList_load_mid rfl 23 _ rfl _ _ rfl u _ hc Tryz.underlying23 rfl iu ?_))
 refine (cg _).mono ?_
 rintro e2 w2 ⟨rfl, hb2⟩
 have k := fun (p : Addr) (hp : p.block < W.heap.size) => hb2.cell (p := p) hp
 have pe := (k ⟨w.heap.size + 1, 0, none⟩ (by simp; omega)).trans pe
 have pn := (k ⟨w.heap.size + 1, 1, none⟩ (by simp; omega)).trans pn
 have pc := (k ⟨w.heap.size + 1, 2, none⟩ (by simp; omega)).trans pc
 have pw := (k ⟨w.heap.size + 1, 35, none⟩ (by simp; omega)).trans pw
 have pp := (k ⟨w.heap.size + 1, 36, none⟩ (by simp; omega)).trans pp
 have hc0 := (k ⟨w.heap.size, 0, none⟩ (by simp; omega)).trans hc0
 have hc9 := (k ⟨w.heap.size, 9, none⟩ (by simp; omega)).trans hc9
 have hc := range_below hc hb2 (by omega)
 have hB := hB.trans (hb2.mono (by omega))
 have hz := Nat.le_trans hz hb2.size
 clear k cg hb2
 cases gc
 ·obtain rfl : g = false := by rw [← hg.out]; rfl
  clear hg cm hla pe pn pc pw pp hc0 hc9 hps hgp hc
  go_wp2
  go_ret
  exact ⟨rfl, hB⟩
 have hla := hla rfl
 obtain ⟨la0, la1⟩ := hla
 by_cases k1 : 1 ≤ E
 rotate_left
 ·obtain rfl : g = false := by rw [← hg.out]; simp only [show ¬(1 ≤ E ∧ E ≤ cla + 1) by omega, decide_false, Bool.false_and, Bool.and_false]
  clear hg cm hps hgp hc
  go_wp2
  go_ret
  exact ⟨rfl, hB⟩
 by_cases k2 : E ≤ cla + 1
 rotate_left
 ·obtain rfl : g = false := by rw [← hg.out]; simp only [show ¬(1 ≤ E ∧ E ≤ cla + 1) by omega, decide_false, Bool.false_and, Bool.and_false]
  clear hg cm hps hgp hc
  go_wp2
  go_ret
  exact ⟨rfl, hB⟩
 by_cases k3 : 1 ≤ N
 rotate_left
 ·obtain rfl : g = false := by rw [← hg.out]; simp only [show ¬(1 ≤ N ∧ N ≤ 1099511627776) by omega, decide_false, Bool.false_and, Bool.and_false]
  clear hg cm hps hgp hc
  go_wp2
  go_ret
  exact ⟨rfl, hB⟩
 by_cases k4 : N ≤ 1099511627776
 rotate_left
 ·obtain rfl : g = false := by rw [← hg.out]; simp only [show ¬(1 ≤ N ∧ N ≤ 1099511627776) by omega, decide_false, Bool.false_and, Bool.and_false]
  clear hg cm hps hgp hc
  go_wp2
  go_ret
  exact ⟨rfl, hB⟩
 have HG : Hid (g = ((gm && decide ((px.length : Int) = ccn)) && gp)) := hide (by rw [← hg.out, show decide (1 ≤ E ∧ E ≤ cla + 1) = true from decide_eq_true ⟨k1, k2⟩, show decide (1 ≤ N ∧ N ≤ 1099511627776) = true from decide_eq_true ⟨k3, k4⟩]; rfl)
 clear hg
 go_wp2_with (first | (refine wpList_load_mid rfl 23 _ rfl _ _ rfl u _ hc Tryz.underlying23 rfl iu ?_))
 refine (cm _ hB).mono ?_
 rintro e3 w3 ⟨rfl, hb3⟩
 have pp := (hb3.cell (p := ⟨w.heap.size + 1, 36, none⟩) (by simp; omega)).trans pp
 have hc0 := (hb3.cell (p := ⟨w.heap.size, 0, none⟩) (by simp; omega)).trans hc0
 have hB := hB.trans (hb3.mono (by omega))
 have hz := Nat.le_trans hz hb3.size
 clear cm hb3 hc iu pe pn pc pw hc9
 cases gm
 ·have HG' := hide HG.out
  clear HG hps hgp
  go_wp2
  go_ret
  exact ⟨by rw [HG'.out]; rfl, hB⟩
 by_cases k8 : (px.length : Int) = ccn
 rotate_left
 ·obtain rfl : g = false := by rw [HG.out]; simp only [k8, decide_false, Bool.false_and, Bool.and_false]
  have e0 : ((px.length : Int) != ccn) = true := by simp; omega
  clear HG hps hgp k8
  go_wp2
  go_ret
  exact ⟨rfl, hB⟩
 subst k8
 obtain rfl : g = gp := by rw [HG.out, show decide ((px.length : Int) = (px.length : Int)) = true from decide_eq_true rfl]; rfl
 clear HG
 go_wp2
 clear hc0
 go_loopw [5] (fun iv wr' => ∃ k : Nat, k ≤ px.length ∧ iv = .int .i64 (k : Int) ∧ Hid (∀ j (hj : j < px.length), j < k → pnGood px[j] = true) ∧ Below w3.heap.size w3 wr') (fun iv _ => px.length - (intOf iv).toNat)
 case atStart => exact ⟨0, by omega, rfl, hide (fun j _ hj => absurd hj (by omega)), Below.refl _ _⟩
 case round =>
  obtain ⟨k, hk, rfl, HM, hB2⟩ := hrel
  have hB3 := hB.trans (hB2.mono hB.size)
  have pp := (hB2.cell (p := ⟨w.heap.size + 1, 36, none⟩) (by simp; omega)).trans pp
  by_cases hlt : k < px.length
  ·have k1 : (k : Int) < px.length := by omega
   obtain ⟨b, off, rfl, hb, hre⟩ := RowsAt.elem (RowsAt.below hps hB3) k hlt
   have hre := hre 0 _ rfl
   have HT : Hid (pnGood px[k] = true → ∀ j (hj : j < px.length), j < k + 1 → pnGood px[j] = true) := hide (fun h j hj hjk => by
    by_cases e : j = k
    ·subst e; exact h
    ·exact HM.out j hj (by omega))
   have HF : Hid (pnGood px[k] = false → g = false) := hide (fun h => by
    rw [← hgp.out]
    rw [List.all_eq_false]
    exact ⟨px[k], List.getElem_mem hlt, by rw [h]; simp⟩)
   obtain ⟨z, hX⟩ : ∃ g, Hid (px[k] = g) := ⟨_, hide rfl⟩
   rw [hX.out] at hre HT HF
   have hre : wr.cell? ⟨b, off + k, none⟩ = some (.int .i64 z) := by simpa [PnE] using hre
   clear hX HM hps hgp
   by_cases z0 : 0 ≤ z
   ·by_cases z1 : z ≤ 1048592
    ·have HT' := hide (HT.out (decide_eq_true ⟨z0, z1⟩))
     clear HF HT
     go_wp2
     go_roundw
     case rel => exact ⟨k + 1, by omega, by go_num, HT', hB2⟩
     case measure => simp [intOf]; omega
    ·have HF' := hide (HF.out (decide_eq_false (by omega)))
     clear HF HT
     go_wp2
     go_ret
     exact ⟨by rw [HF'.out]; rfl, hB3⟩
   ·have HF' := hide (HF.out (decide_eq_false (by omega)))
    clear HF HT
    go_wp2
    go_ret
    exact ⟨by rw [HF'.out]; rfl, hB3⟩
  ·have k1 : ¬ (k : Int) < px.length := by omega
   have HE : Hid (g = true) := hide (by
    rw [← hgp.out]
    rw [List.all_eq_true]
    intro y hy
    obtain ⟨j, hj, rfl⟩ := List.mem_iff_getElem.1 hy
    exact HM.out j hj (by omega))
   clear HM hgp hps
   go_wp2
   go_ret
   exact ⟨by rw [HE.out]; rfl, hB3⟩
open Go.RowKit
open Sha Tal
set_option linter.unusedVariables false
set_option linter.unusedSimpArgs false
theorem below_drewN {n : Nat} {a w : World} (h : Below n a w) (k : Nat) : Below n a (w.drewN k) := ⟨h.os, h.tape, h.output, h.size, h.block⟩
open Go.RowKit
open Sha Tal
set_option linter.unusedVariables false
set_option linter.unusedSimpArgs false
def Stt.B (s t : Stt) : Bool := decide (s.e = t.e) && (decide (s.n = t.n) && (decide (s.c = t.c) && ((s.d == t.d) && (sameL Wd.B s.ws.xs t.ws.xs && decide (s.ps.xs = t.ps.xs)))))
open Go.RowKit
open Sha Tal
set_option maxHeartbeats 800000 in
theorem refRead_any (a : Option Addr) (cap : Nat) (zs : List Int) (w : World) (h : RowAt w a zs) (hl : zs.length ≤ 40000) :
  Calls Tryz.prog 49 #[.slice a zs.length cap] w fun e w' => ∃ X, e = .returned (.pointer (some ⟨X, 0, none⟩)) ∧ w.heap.size ≤ X ∧ RSt w.heap.size w' X zs 0 ∧ Below w.heap.size w w' := by
 obtain ⟨i0, hi, hz0, hz1, hz2⟩ := info_parts info8
 go_enter Tryz.func49, Tryz.ntmps49
 go_wp2_with (at_builtin; refine wpList_append_own_src _ rfl _ _ 57 57 rfl w.heap.size 5 i0 (.int .u8 0) 1 1 Tryz.underlying57 hi hz0 hz1 hz2 rfl _ 0 [] rfl (World.ownsRow_made w #[] 0 (Nat.le_refl _) (by simp) (by simp)) (.slice a zs.length cap) zs.length (zs.map (Value.int .u8)) rfl ((h.below ((Below.refl _ _).alloc (Nat.le_refl _) _)).src cap) ?c1 ?c2 ?c3 ?_)
 case c1 => unfold maxLen; omega
 case c2 => omega
 case c3 => simp
 intro v' w1 hown hgrow
 have hb : Below w.heap.size w w1 := ((Below.refl _ _).alloc (Nat.le_refl _) _).grown hgrow (by simp) (fun k hk => by simp [Value.ownBlock] at hk; omega)
 have hmine : Mine w1 w.heap.size v' zs := ⟨by simpa using hown, h.2.1⟩
 clear hown hgrow
 obtain ⟨a', cap', rfl, hc1, hc2, hr⟩ := hmine.rowAt (by unfold maxLen; omega)
 have hblk : ∀ x, a' = some x → w.heap.size ≤ x.block ∧ x.block < w1.heap.size := fun x hx => hmine.1.lt x.block (by simp [hx, Value.ownBlock])
 have hb2 : Below w1.heap.size w1 (w1.alloc (.cells #[.slice a' zs.length cap', .int .i64 0, .int .i64 0] 110)) := (Below.refl _ _).alloc (Nat.le_refl _) _
 have hSt : RSt w.heap.size (w1.alloc (.cells #[.slice a' zs.length cap', .int .i64 0, .int .i64 0] 110)) w1.heap.size zs 0 := by
  have cs : ∀ j, (w1.alloc (.cells #[.slice a' zs.length cap', .int .i64 0, .int .i64 0] 110)).cell? ⟨w1.heap.size, j, none⟩ = (#[.slice a' zs.length cap', .int .i64 0, .int .i64 0] : Array Value)[j]? := fun j => World.cell?_alloc_at _ _ _ _ rfl
  have fs : ∀ j, (w1.alloc (.cells #[.slice a' zs.length cap', .int .i64 0, .int .i64 0] 110)).frozen? ⟨w1.heap.size, j, none⟩ = false := fun j => World.frozen?_alloc_at _ _ _ _ rfl
  exact ⟨zs, 0, ⟨by simp, ⟨a', cap', cs 0, hc1, hc2, hr.below hb2, hblk⟩, cs 1, cs 2, fs 0, fs 1, fs 2, Nat.zero_le _, hl⟩, fun _ => rfl⟩
 go_wp2_with fail
 go_ret
 exact ⟨_, rfl, hb.size, hSt, hb.trans (hb2.mono hb.size)⟩
open Go Go.RowKit
section
variable {P : Program} {ops : Array Oper} {Q : Exit → Act → World → Prop} {md : Region.Mode}
def Held (P : Program) (ops : Array Oper) (Q : Exit → Act → World → Prop) (w0 : World) (fuel : Nat) (listed : Array Bool) (a : Act) (w : World) : Prop :=
 wpAnyH P .any ops (NoPanic Q) (fun w' => Below w0.heap.size w0 w') fuel listed a w
theorem held_begin {id : Nat} {a : Act} {w : World} (n : Nat) (hn : ops.size = n) (hm : P.follows .mixedOrders = true) (h : Held P ops Q w.drew n (Array.replicate n false) a w.drew) : (Code.region id ops true).wp P Q a w := by
 subst hn
 exact wp_region_noPanic (wp_region_held hm h)
theorem held_take {i : Nat} {oi : Oper} {d : Option Nat} {v : Value} {fuel : Nat} {listed : Array Bool} {a : Act} {w w0 : World} (hi : ops[i]? = some oi)
  (hs : Region.noSelect ops = true) (hf : Region.free .any ops listed i = true) (hr : (Region.ready .any ops listed).contains i = true)
  (hw : Region.wanted oi (yielded ops a.tmps) = true) (hy : ∀ w', Below w0.heap.size w0 w' → (execOp a.eval oi).run P w' = .ok (.value v) w') (hS : Below w0.heap.size w0 w) (hdst : oi.dst = d)
  (h : Held P ops Q w0 fuel (listed.setIfInBounds i true) (a.put d v) w) : Held P ops Q w0 (fuel + 1) listed a w := by
 subst hdst
 exact wpAnyH_take hi hs hf hr (fun _ _ _ h => h) (Or.inl ⟨hw, hy⟩) hS h
theorem held_run {i : Nat} {oi : Oper} {d : Option Nat} {v : Value} {fuel : Nat} {listed : Array Bool} {a : Act} {w w' w0 : World} (hi : ops[i]? = some oi)
  (hr : Region.ready .any ops listed = [i]) (hw : Region.wanted oi (yielded ops a.tmps) = true) (hy : (execOp a.eval oi).run P w = .ok (.value v) w') (hdst : oi.dst = d)
  (hS : Below w0.heap.size w0 w') (h : Held P ops Q w0 fuel (listed.setIfInBounds i true) (a.put d v) w') : Held P ops Q w0 (fuel + 1) listed a w := by
 subst hdst
 refine wpAnyH_all hr (by simp) ?_
 intro j hj
 obtain rfl : j = i := by simpa using hj
 unfold wpOp
 simp only [hi, hw, if_true]
 left
 unfold Oper.wp
 rw [hy]
 exact ⟨hS, h⟩
theorem exec_append {o : Oper} {a : Act} {w w' : World} {s x : Operand} {t tx : TypeId} {v xv v' : Value} (ho : o.op = .call { callee := .builtin .append, args := #[s, x], argTypes := #[t, tx] }) (hs : a.eval s = v) (hx : a.eval x = xv)
    (hr : (Builtin.append_ #[t, tx] o.type #[v, xv]).run P w = .ok v' w') : (execOp a.eval o).run P w = .ok (.value v') w' := by
  unfold execOp
  simp only [ho, resolve, invoke, builtin, Sem.run_bind, Sem.run_pure, Result.andThen_ok, List.map_toArray, List.map_cons, List.map_nil, hs, hx, hr]
theorem held_done {fuel : Nat} {listed : Array Bool} {a : Act} {w w0 : World} (hr : Region.ready .any ops listed = []) (h : Q .normal a w) : Held P ops Q w0 fuel listed a w :=
 wpAnyH_done hr (NoPanic.normal h) fuel
end
end Go.Proofs.YtnfijfnnpbenfaaGreatDoor
namespace Go.Proofs.YtnfijfnnpbenfaaGreatDoor
open Go.RowKit
open Sha Tal
variable {B : Nat}
set_option maxRecDepth 100000 in
set_option maxHeartbeats 1600000 in
theorem refRaw_good (X : Nat) (zs : List Int) (p : Nat) (w : World) (hR : Rf B w X zs p 0) (m : Nat) (hmc : p + m ≤ zs.length) :
  Calls Tryz.prog 51 #[.pointer (some ⟨X, 0, none⟩), .int .i64 (m : Int)] w fun en w' => ∃ v, en = .returned v ∧ Mine w' w.heap.size v ((zs.drop p).take m) ∧ RSt B w' X (zs.drop (p + m)) 0 ∧ w.grownBy w' (some X) := by
 obtain ⟨i0, hi, hz0, hz1, hz2⟩ := info_parts info8
 have hl5 := hR.2.2.2.2.2.2.2.2
 have hpl := hR.2.2.2.2.2.2.2.1
 have h2 := hR.2.2.2.1
 have f1 := hR.2.2.2.2.2.1
 have h1 := hR.2.2.1
 obtain ⟨a, cap, h0, hc, hm, hrow, hne⟩ := id hR.2.1
 unfold maxLen at hm
 have hfew : ¬ ((zs.length : Int) - p < m) := by omega
 have hn0 : ¬ ((m : Int) < 0) := by omega
 go_enter Tryz.func51, Tryz.ntmps51
 go_wp2_with fail
 go_quiet (fail)
 go_wp2_with fail
 have hwrap : IntKind.i64.wrap (p : Int) = p := by
  have e : (p : Int) % 2 ^ 64 = p := by omega
  simp only [IntKind.wrap, IntKind.bits, IntKind.signed, e]
  rw [if_neg (by simp; omega)]
 have hRf : Rf B ((w.drewN nq).setCell ⟨X, 1, none⟩ (.int .i64 ((p : Int) + m))) X zs (p + m) 0 := by
  have := (hR.drewN nq).set1 (p + m) hmc
  have e : ((p + m : Nat) : Int) = (p : Int) + m := by omega
  rw [e] at this; exact this
 have hgW : w.grownBy ((w.drewN nq).setCell ⟨X, 1, none⟩ (.int .i64 ((p : Int) + m))) (some X) := gb_trans (gbz_drewN w nq _) (gb_set _ X 1 _)
 have HC0 : ((w.drewN nq).setCell ⟨X, 1, none⟩ (.int .i64 ((p : Int) + m))).drew.cell? ⟨X, 0, none⟩ = some (.slice a zs.length cap) := by
  have : (w.drewN nq).cell? ⟨X, 0, none⟩ = some (.slice a zs.length cap) := by simpa using h0
  exact (World.cell?_setCell_other _ _ _ _ (by simp)).trans this
 generalize (w.drewN nq).setCell ⟨X, 1, none⟩ (.int .i64 ((p : Int) + m)) = W at *
 have hW : Below W.heap.size W W.drew := (Below.refl _ _).drew
 have hRd : Rf B W.drew X zs (p + m) 0 := hRf.below hW
 have hrd : RowAt W.drew a zs := (hrow.gb hgW (.inr (suc_ne hne))).below hW
 have hsz : w.heap.size ≤ W.drew.heap.size := hgW.size
 clear h0 h1 h2 f1 hrow
 have hk0 : ∀ w', Below W.drew.heap.size W.drew w' → w'.cell? ⟨X, 0, none⟩ = some (.slice a zs.length cap) := by
  intro w' hw
  have hb := (cell_block (j := 0) (hw.block X hRd.1)).1
  rw [hb]; exact HC0
 have hk1 : ∀ w', Below W.drew.heap.size W.drew w' → w'.cell? ⟨X, 1, none⟩ = some (.int .i64 ((p : Int) + m)) := by
  intro w' hw
  have hb := (cell_block (j := 1) (hw.block X hRd.1)).1
  have := hRd.2.2.1
  have e : ((p + m : Nat) : Int) = (p : Int) + m := by omega
  rw [hb, this, e]
 have hsrc : Src Tryz.prog 1 57 (.slice (cutA a cap p) m (cap - p)) m (((zs.drop p).take m).map (Value.int .u8)) (W.drew.alloc (.cells #[] 5)) := by
  have hr := (((hrd.drop p cap hpl hc).take m).below ((Below.refl _ _).alloc (Nat.le_refl _) (.cells #[] 5))).src (cap - p)
  have el : ((zs.drop p).take m).length = m := by rw [List.length_take, List.length_drop]; omega
  rw [el] at hr; exact hr
 refine held_begin 18 rfl (by kernel_rfl) ?_
 have hS := Below.refl (W.drew).heap.size W.drew
 refine held_take (i := 1) (d := some 40) (v := ?_) rfl (by kernel_rfl) (by kernel_rfl) (by kernel_rfl) (by rfl) ?_ (by assumption) rfl ?_
 rotate_left
 ·intro w' hw
  go_simp
  try with_reducible rfl
 simp only [nz]
 refine held_take (i := 2) (d := some 41) (v := ?_) rfl (by kernel_rfl) (by kernel_rfl) (by kernel_rfl) (by rfl) ?_ (by assumption) rfl ?_
 rotate_left
 ·intro w' hw
  go_simp
  try with_reducible rfl
 simp only [nz]
 refine held_take (i := 3) (d := some 42) (v := ?_) rfl (by kernel_rfl) (by kernel_rfl) (by kernel_rfl) (by rfl) ?_ (by assumption) rfl ?_
 rotate_left
 ·intro w' hw
  go_simp
  try with_reducible rfl
 simp only [nz]
 refine held_take (i := 4) (d := some 43) (v := ?_) rfl (by kernel_rfl) (by kernel_rfl) (by kernel_rfl) (by rfl) ?_ (by assumption) rfl ?_
 rotate_left
 ·intro w' hw
  have c0 := hk0 w' hw
  have c1 := hk1 w' hw
  go_simp
  try with_reducible rfl
 simp only [nz]
 refine held_take (i := 5) (d := some 44) (v := ?_) rfl (by kernel_rfl) (by kernel_rfl) (by kernel_rfl) (by rfl) ?_ (by assumption) rfl ?_
 rotate_left
 ·intro w' hw
  go_simp
  try with_reducible rfl
 simp only [nz]
 refine held_take (i := 6) (d := some 45) (v := ?_) rfl (by kernel_rfl) (by kernel_rfl) (by kernel_rfl) (by rfl) ?_ (by assumption) rfl ?_
 rotate_left
 ·intro w' hw
  go_simp
  try with_reducible rfl
 simp only [nz]
 refine held_take (i := 7) (d := some 46) (v := ?_) rfl (by kernel_rfl) (by kernel_rfl) (by kernel_rfl) (by rfl) ?_ (by assumption) rfl ?_
 rotate_left
 ·intro w' hw
  go_simp
  try with_reducible rfl
 simp only [nz]
 refine held_take (i := 8) (d := some 47) (v := ?_) rfl (by kernel_rfl) (by kernel_rfl) (by kernel_rfl) (by rfl) ?_ (by assumption) rfl ?_
 rotate_left
 ·intro w' hw
  have c0 := hk0 w' hw
  have c1 := hk1 w' hw
  go_simp
  try with_reducible rfl
 simp only [nz]
 refine held_take (i := 9) (d := some 48) (v := ?_) rfl (by kernel_rfl) (by kernel_rfl) (by kernel_rfl) (by rfl) ?_ (by assumption) rfl ?_
 rotate_left
 ·intro w' hw
  go_simp
  try with_reducible rfl
 simp only [nz]
 refine held_take (i := 10) (d := some 49) (v := .int .i64 (p : Int)) rfl (by kernel_rfl) (by kernel_rfl) (by kernel_rfl) (by rfl) ?_ (by assumption) rfl ?_
 ·intro w' hw
  go_simp
 simp only [nz]
 refine held_take (i := 11) (d := some 50) (v := ?_) rfl (by kernel_rfl) (by kernel_rfl) (by kernel_rfl) (by rfl) ?_ (by assumption) rfl ?_
 rotate_left
 ·intro w' hw
  go_simp
  try with_reducible rfl
 simp only [nz]
 refine held_take (i := 12) (d := some 51) (v := ?_) rfl (by kernel_rfl) (by kernel_rfl) (by kernel_rfl) (by rfl) ?_ (by assumption) rfl ?_
 rotate_left
 ·intro w' hw
  go_simp
  try with_reducible rfl
 simp only [nz]
 refine held_take (i := 13) (d := some 52) (v := ?_) rfl (by kernel_rfl) (by kernel_rfl) (by kernel_rfl) (by rfl) ?_ (by assumption) rfl ?_
 rotate_left
 ·intro w' hw
  go_simp
  try with_reducible rfl
 simp only [nz]
 refine held_take (i := 14) (d := some 53) (v := ?_) rfl (by kernel_rfl) (by kernel_rfl) (by kernel_rfl) (by rfl) ?_ (by assumption) rfl ?_
 rotate_left
 ·intro w' hw
  have c0 := hk0 w' hw
  have c1 := hk1 w' hw
  go_simp
  try with_reducible rfl
 simp only [nz]
 refine held_take (i := 15) (d := some 54) (v := .slice (cutA a cap p) m (cap - p)) rfl (by kernel_rfl) (by kernel_rfl) (by kernel_rfl) (by rfl) ?_ (by assumption) rfl ?_
 ·intro w' hw
  go_simp
  rw [if_pos (by omega), if_pos (by omega)]
  have e1 : ((p : Int) + m).toNat - p = m := by omega
  rw [e1]
  simp only [cutA]
 simp only [nz]
 refine held_run (i := 0) (d := some 39) (v := .slice (some ⟨W.drew.heap.size, 0, none⟩) 0 0) (w' := W.drew.alloc (.cells #[] 5)) rfl (by kernel_rfl) (by rfl) (by go_simp; try with_reducible rfl) rfl ?_ ?_
 ·exact (Below.refl _ _).alloc (Nat.le_refl _) _
 simp only [nz]
 obtain ⟨v', w', hrun, hown, hgrow⟩ := run_append_own_src (P := Tryz.prog) (W.drew.alloc (.cells #[] 5)) W.drew.heap.size 57 57 57 5 i0 (.int .u8 0) 1 1 Tryz.underlying57 hi hz0 hz1 hz2 rfl (.slice (some ⟨W.drew.heap.size, 0, none⟩) 0 0) 0 [] (World.ownsRow_made W.drew #[] 0 (Nat.le_refl _) (by simp) (by simp)) (.slice (cutA a cap p) m (cap - p)) m (((zs.drop p).take m).map (Value.int .u8)) hsrc (by unfold maxLen; omega) (by omega) (by simp)
 have hb1 : Below W.drew.heap.size W.drew w' := ((Below.refl _ _).alloc (Nat.le_refl _) _).grown hgrow (by simp) (fun k hk => by simp [Value.ownBlock] at hk; have : W.drew.heap.size = W.heap.size := rfl; omega)
 refine held_run (i := 16) (d := some 55) (v := v') (w' := w') rfl (by kernel_rfl) (by rfl) (exec_append rfl rfl rfl hrun) rfl hb1 ?_
 simp only [nz]
 refine held_take (i := 17) (d := some 4) (v := ?_) rfl (by kernel_rfl) (by kernel_rfl) (by kernel_rfl) (by rfl) ?_ (by assumption) rfl ?_
 rotate_left
 ·intro w' hw
  go_simp
  try with_reducible rfl
 simp only [nz]
 refine held_done (by kernel_rfl) ?_
 go_wp2_with fail
 go_ret
 have el : ((zs.drop p).take m).length = m := by rw [List.length_take, List.length_drop]; omega
 have hM : Mine w' W.drew.heap.size v' ((zs.drop p).take m) := Mine.mk' _ hown (by rw [el]; omega) (by simp) (fun z hz => hrd.2.1 z (List.mem_of_mem_drop (List.mem_of_mem_take hz)))
 exact ⟨_, rfl, hM.mono' hsz, ⟨zs, p + m, hRd.below hb1, fun _ => rfl⟩, gb_trans hgW (gb_below (hW.trans hb1) _)⟩
set_option maxRecDepth 100000 in
set_option maxHeartbeats 1600000 in
theorem refRaw_any (X : Nat) (rest : List Int) (e n : Int) (w : World) (h : RSt B w X rest e) :
  Calls Tryz.prog 51 #[.pointer (some ⟨X, 0, none⟩), .int .i64 n] w fun en w' => ∃ v, en = .returned v ∧ Mine w' w.heap.size v (rawS rest e n).1 ∧ RSt B w' X (rawS rest e n).2.1 (rawS rest e n).2.2 ∧ w.grownBy w' (some X) := by
 obtain ⟨zs, p, hR, hd⟩ := h
 have hl5 := hR.2.2.2.2.2.2.2.2
 have hpl := hR.2.2.2.2.2.2.2.1
 by_cases he : e = 0
 ·subst he
  have hd := hd rfl
  subst hd
  by_cases hn : n < 0
  ·have HS : Hid (rawS (zs.drop p) 0 n = ([], zs.drop p, 2)) := by show _ = _; unfold rawS; rw [if_pos rfl, if_pos hn]
   have h2 := hR.2.2.2.1
   have f2 := hR.2.2.2.2.2.2.1
   go_enter Tryz.func51, Tryz.ntmps51
   go_wp2_with fail
   go_ret
   rw [HS.out]
   exact ⟨_, rfl, Mine.nil _ _, ⟨zs, p, hR.set2 2, fun h => by cases h⟩, gb_set _ X 2 _⟩
  ·by_cases hf : (zs.length : Int) - p < n
   ·have HS : Hid (rawS (zs.drop p) 0 n = ([], zs.drop p, 10)) := by show _ = _; unfold rawS; rw [if_pos rfl, if_neg hn, if_pos (by rw [List.length_drop]; omega)]
    have h2 := hR.2.2.2.1
    have h1 := hR.2.2.1
    have f2 := hR.2.2.2.2.2.2.1
    obtain ⟨a, cap, h0, hc, hm, hr⟩ := hR.rest
    go_enter Tryz.func51, Tryz.ntmps51
    go_wp2_with fail
    go_quiet (fail)
    go_wp2_with fail
    go_ret
    rw [HS.out]
    exact ⟨_, rfl, Mine.nil _ _, ⟨zs, p, (hR.drewN nq).set2 10, fun h => by cases h⟩, gb_trans (gbz_drewN w nq _) (gb_set _ X 2 _)⟩
   ·obtain ⟨m, rfl⟩ := Int.eq_ofNat_of_zero_le (Int.not_lt.1 hn)
    have e1 : rawS (zs.drop p) 0 (m : Int) = ((zs.drop p).take m, zs.drop (p + m), 0) := by
     unfold rawS; rw [if_pos rfl, if_neg hn, if_neg (by rw [List.length_drop]; omega), Int.toNat_natCast, List.drop_drop]
    rw [e1]
    exact refRaw_good X zs p w hR m (by omega)
 ·have HS : Hid (rawS rest e n = ([], rest, e)) := by show _ = _; unfold rawS; rw [if_neg he]
  have he' : (e == 0) = false := by simpa using he
  have h2 := hR.2.2.2.1
  go_enter Tryz.func51, Tryz.ntmps51
  go_wp2_with fail
  go_ret
  rw [HS.out]
  exact ⟨_, rfl, Mine.nil _ _, ⟨zs, p, hR, fun h => absurd h he⟩, gb_refl _ _⟩
end Go.Proofs.YtnfijfnnpbenfaaGreatDoor
namespace Go.Proofs.YtnfijfnnpbenfaaGreatDoor
open Go.RowKit
open Sha Tal
theorem RdE.gb {w w' : World} {R : Nat} {e : Int} {r : Option Nat} (h : RdE w R e) (hg : w.grownBy w' r) (hr : some R ≠ r) : RdE w' R e :=
 h.below (hg.block R h.1 hr) hg.size
theorem St.gb {w w' : World} {R g : Nat} {rest : List Int} {e : Int} (h : St w R rest e) (hg : w.grownBy w' (some g)) (hr : R < g) : St w' R rest e := by
 refine ⟨h.1.gb hg (by intro q; injection q with q; omega), fun he => ?_⟩
 obtain ⟨a, cap, h0, hc, hm, hrow, hlt⟩ := h.2 he
 refine ⟨a, cap, (cell_block (hg.block R h.1.1 (by intro q; injection q with q; omega))).1.trans h0, hc, hm, hrow.gb hg (.inr (fun x hx => by have := hlt x hx; omega)), hlt⟩
theorem RSt.gb {B : Nat} {w w' : World} {X g : Nat} {rest : List Int} {e : Int} (h : RSt B w X rest e) (hg : w.grownBy w' (some g)) (hr : g < B ∧ g ≠ X ∨ X < g) : RSt B w' X rest e := by
 obtain ⟨zs, p, ⟨hX, ⟨a, cap, h0, hc, hm, hrow, hlt⟩, h1, h2, f0, f1, f2, hp, hl⟩, hd⟩ := h
 have hne : some X ≠ some g := by intro q; injection q with q; omega
 have hk := fun j => @cell_block w w' X j (hg.block X hX hne)
 exact ⟨zs, p, ⟨Nat.lt_of_lt_of_le hX hg.size, ⟨a, cap, (hk 0).1.trans h0, hc, hm, hrow.gb hg (.inr (fun x hx => by have := hlt x hx; omega)), hlt⟩, (hk 1).1.trans h1, (hk 2).1.trans h2, (hk 0).2.trans f0, (hk 1).2.trans f1, (hk 2).2.trans f2, hp, hl⟩, hd⟩
structure Kept (w : World) (R X : Nat) (W : World) : Prop where
 os : W.os = w.os
 tape : W.tape = w.tape
 output : W.output = w.output
 size : w.heap.size ≤ W.heap.size
 block : ∀ k, k < w.heap.size → k ≠ R → k ≠ X → W.heap[k]? = w.heap[k]?
structure Two (B : Nat) (w : World) (R X : Nat) (W : World) (rest : List Int) (e : Int) : Prop where
 own : St W R rest e
 doc : RSt B W X rest e
 kept : Kept w R X W
theorem numR_nonneg (zs : List Int) (hz : ∀ z ∈ zs, 0 ≤ z ∧ z < 256) : 0 ≤ (numR zs).1 := by
  cases zs with
  | nil => simp [numR]
  | cons k tl =>
    simp only [numR]
    split
    · simp
    · split
      · simp
      · split
        · have hb := val_bound (tl.take k.toNat) (fun z hzz => hz z (List.mem_cons_of_mem _ (List.mem_of_mem_take hzz)))
          simp only [valR]
          split
          · simp
          · exact hb.1
        · simp
end Go.Proofs.YtnfijfnnpbenfaaGreatDoor
namespace Go.Proofs.YtnfijfnnpbenfaaGreatDoor.Wn
set_option maxRecDepth 100000
open Go.RowKit
open Tal
def winL (B : Int) (m : Nat) : List Int := putL B ++ putL ((m / 4294967296 : Nat) : Int) ++ putL ((m % 4294967296 : Nat) : Int)
structure Got where
 base : Int
 high : Nat
 low : Nat
 rest : List Int
 err : Int
theorem numS_le (rest : List Int) (e most : Int) (h : 0 ≤ most) : (numS rest e most).1 ≤ most := by
 unfold numS
 split
 ·split
  ·split
   ·exact h
   ·show (numR rest).1 ≤ most; omega
  ·exact h
 ·exact h
def ByteL (e : Int) (rest : List Int) : Prop := e = 0 → ∀ z ∈ rest, 0 ≤ z ∧ z < 256
theorem numS_pos {rest : List Int} {e : Int} (most : Int) (hz : ByteL e rest) : 0 ≤ (numS rest e most).1 := by
 unfold numS
 split
 ·rename_i he
  split
  ·split
   ·exact Int.le_refl _
   ·exact numR_nonneg rest (hz he)
  ·exact Int.le_refl _
 ·exact Int.le_refl _
theorem numS_bytes {rest : List Int} {e : Int} (most : Int) (hz : ByteL e rest) : ByteL (numS rest e most).2.2 (numS rest e most).2.1 := by
 unfold numS
 split
 ·rename_i he
  split
  ·split
   ·exact fun _ => hz he
   ·exact fun _ z hm => hz he z (List.mem_of_mem_drop hm)
  ·exact fun _ => hz he
 ·rename_i he
  exact fun h => absurd h he
theorem St.bytes {w : World} {R : Nat} {rest : List Int} {e : Int} (h : St w R rest e) : ByteL e rest := by
 intro he
 obtain ⟨a, cap, _, _, _, hrow, _⟩ := h.2 he
 exact hrow.2.1
theorem or_hl (hi lo : Nat) (h : lo < 4294967296) (h2 : hi < 4294967296) : bits BinOp.or IntKind.u64 ((hi : Int) * 4294967296) (lo : Int) = ((hi * 4294967296 + lo : Nat) : Int) := by
 have e : ((hi : Int) * 4294967296) = ((hi * 4294967296 : Nat) : Int) := by omega
 rw [e, or_nat _ _ (by omega) (by omega)]
 congr 1
 have := Nat.two_pow_add_eq_or_of_lt (i := 32) (b := lo) (by omega) hi
 rw [show hi * 4294967296 = 2 ^ 32 * hi by omega, ← this]
def getR (rest : List Int) (e : Int) : Got :=
  ⟨(numS rest e 1099511627777).1,
   (numS (numS rest e 1099511627777).2.1 (numS rest e 1099511627777).2.2 4294967295).1.toNat,
   (numS (numS (numS rest e 1099511627777).2.1 (numS rest e 1099511627777).2.2 4294967295).2.1 (numS (numS rest e 1099511627777).2.1 (numS rest e 1099511627777).2.2 4294967295).2.2 4294967295).1.toNat,
   (numS (numS (numS rest e 1099511627777).2.1 (numS rest e 1099511627777).2.2 4294967295).2.1 (numS (numS rest e 1099511627777).2.1 (numS rest e 1099511627777).2.2 4294967295).2.2 4294967295).2.1,
   (numS (numS (numS rest e 1099511627777).2.1 (numS rest e 1099511627777).2.2 4294967295).2.1 (numS (numS rest e 1099511627777).2.1 (numS rest e 1099511627777).2.2 4294967295).2.2 4294967295).2.2⟩
def getOk (g : Got) : Bool := decide (g.err = 0) && goodW g.base (g.high * 4294967296 + g.low)
def getB (g : Got) : Int := if getOk g then g.base else 0
def getM (g : Got) : Nat := if getOk g then g.high * 4294967296 + g.low else 0
theorem there_gb {w w' : World} {R b n : Nat} (h : w.there b 0 n) (hg : w.grownBy w' (some R)) (hb : b < w.heap.size) (hne : b ≠ R) : w'.there b 0 n := fun j hj => by
 have hk := @cell_block w w' b (0 + j) (hg.block b hb (by intro q; injection q with q; exact hne q))
 exact ⟨by rw [hk.1]; exact (h j hj).1, by rw [hk.2]; exact (h j hj).2⟩
theorem gb_on {w W W' : World} {R B : Nat} (h : w.grownBy W (some R)) (hb : Below B W W') (hB : w.heap.size ≤ B) : w.grownBy W' (some R) :=
 ⟨hb.os.trans h.os, hb.tape.trans h.tape, hb.output.trans h.output, Nat.le_trans h.size hb.size, fun i hi hr => (hb.block i (by omega)).trans (h.block i hi hr)⟩
theorem gb_sets (W : World) (b : Nat) : ∀ (vs : List Value) (o : Nat), W.grownBy (W.setCells b o vs) (some b) := by
  intro vs
  induction vs generalizing W with
  | nil => intro o; exact gb_refl _ _
  | cons v vs ih => intro o; exact gb_trans (gb_set W b o v) (ih _ (o + 1))
set_option maxHeartbeats 2000000 in
theorem wget_any (R : Nat) (rest : List Int) (e : Int) (w : World) (h : St w R rest e) :
  Calls Tryz.prog 108 #[.pointer (some ⟨R, 0, none⟩)] w fun en w' => en = .returned (winV (getB (getR rest e)) (getM (getR rest e) : Int)) ∧ St w' R (getR rest e).rest (getR rest e).err ∧ w.grownBy w' (some R) := by
 have hRw := h.1.1
 have hz := St.bytes h
 have p1 := numS_pos 1099511627777 hz
 have u1 := numS_le rest e 1099511627777 (by decide)
 have hz1 := numS_bytes 1099511627777 hz
 have bA : Below w.heap.size w (w.alloc (.cells #[.int .i64 0, .int .u64 0] 79)) := (Below.refl _ _).alloc (Nat.le_refl _) _
 have tA := there_new w #[.int .i64 0, .int .u64 0] 79
 have sA : (w.alloc (.cells #[.int .i64 0, .int .u64 0] 79)).heap.size = w.heap.size + 1 := World.size_alloc _ _
 have c1 := num_any R rest e 1099511627777 _ (h.below bA)
 have g0 := gb_below bA (some R)
 obtain ⟨G, hG⟩ : ∃ G, Hid (getR rest e = G) := ⟨_, rfl⟩
 have G1 : Hid (G.base = (numS rest e 1099511627777).1) := hide (by rw [← hG.out]; rfl)
 have G2 : Hid (G.high = (numS (numS rest e 1099511627777).2.1 (numS rest e 1099511627777).2.2 4294967295).1.toNat) := hide (by rw [← hG.out]; rfl)
 have G3 : Hid (G.low = (numS (numS (numS rest e 1099511627777).2.1 (numS rest e 1099511627777).2.2 4294967295).2.1 (numS (numS rest e 1099511627777).2.1 (numS rest e 1099511627777).2.2 4294967295).2.2 4294967295).1.toNat) := hide (by rw [← hG.out]; rfl)
 have G4 : Hid (G.rest = (numS (numS (numS rest e 1099511627777).2.1 (numS rest e 1099511627777).2.2 4294967295).2.1 (numS (numS rest e 1099511627777).2.1 (numS rest e 1099511627777).2.2 4294967295).2.2 4294967295).2.1) := hide (by rw [← hG.out]; rfl)
 have G5 : Hid (G.err = (numS (numS (numS rest e 1099511627777).2.1 (numS rest e 1099511627777).2.2 4294967295).2.1 (numS (numS rest e 1099511627777).2.1 (numS rest e 1099511627777).2.2 4294967295).2.2 4294967295).2.2) := hide (by rw [← hG.out]; rfl)
 rw [hG.out]
 clear hG
 obtain ⟨b0, hb0⟩ : ∃ x, Hid ((numS rest e 1099511627777).1 = x) := ⟨_, rfl⟩
 obtain ⟨r1, hr1⟩ : ∃ x, Hid ((numS rest e 1099511627777).2.1 = x) := ⟨_, rfl⟩
 obtain ⟨e1, he1⟩ : ∃ x, Hid ((numS rest e 1099511627777).2.2 = x) := ⟨_, rfl⟩
 rw [hb0.out] at p1 u1 G1
 rw [hr1.out, he1.out] at hz1 G2 G3 G4 G5
 rw [hb0.out, hr1.out, he1.out] at c1
 have p2 := numS_pos 4294967295 hz1
 have u2 := numS_le r1 e1 4294967295 (by decide)
 have hz2 := numS_bytes 4294967295 hz1
 obtain ⟨b1, hb1⟩ : ∃ x, Hid ((numS r1 e1 4294967295).1 = x) := ⟨_, rfl⟩
 obtain ⟨r2, hr2⟩ : ∃ x, Hid ((numS r1 e1 4294967295).2.1 = x) := ⟨_, rfl⟩
 obtain ⟨e2, he2⟩ : ∃ x, Hid ((numS r1 e1 4294967295).2.2 = x) := ⟨_, rfl⟩
 rw [hb1.out] at p2 u2 G2
 rw [hr2.out, he2.out] at hz2 G3 G4 G5
 have p3 := numS_pos 4294967295 hz2
 have u3 := numS_le r2 e2 4294967295 (by decide)
 obtain ⟨b2, hb2⟩ : ∃ x, Hid ((numS r2 e2 4294967295).1 = x) := ⟨_, rfl⟩
 obtain ⟨r3, hr3⟩ : ∃ x, Hid ((numS r2 e2 4294967295).2.1 = x) := ⟨_, rfl⟩
 obtain ⟨e3, he3⟩ : ∃ x, Hid ((numS r2 e2 4294967295).2.2 = x) := ⟨_, rfl⟩
 rw [hb2.out] at p3 u3 G3
 rw [hr3.out] at G4
 rw [he3.out] at G5
 clear hz hz1 hz2 h
 go_enter Tryz.func108, Tryz.ntmps108
 go_wp2_with fail
 obtain ⟨w0, hw0⟩ : ∃ w0, w.alloc (.cells #[.int .i64 0, .int .u64 0] 79) = w0 := ⟨_, rfl⟩
 rw [hw0] at c1 g0 tA sA
 rw [hw0]
 clear hw0 bA
 refine c1.mono ?_
 rintro en w1 ⟨rfl, s1, g1⟩
 have t1 := there_gb tA g1 (by omega) (by omega)
 have z1 := g1.size
 have gg1 := gb_trans g0 g1
 have c2 := num_any R r1 e1 4294967295 w1 s1
 rw [hb1.out, hr2.out, he2.out] at c2
 clear c1 g1 g0 tA
 go_wp2_with fail
 refine c2.mono ?_
 rintro en w2 ⟨rfl, s2, g2⟩
 have t2 := there_gb t1 g2 (by omega) (by omega)
 have z2 := g2.size
 have gg2 := gb_trans gg1 g2
 have c3 := num_any R r2 e2 4294967295 w2 s2
 rw [hb2.out, hr3.out, he3.out] at c3
 clear c2 g2 gg1 t1 s1
 go_wp2_with fail
 refine c3.mono ?_
 rintro en w3 ⟨rfl, s3, g3⟩
 have t3 := there_gb t2 g3 (by omega) (by omega)
 have z3 := g3.size
 have gg3 := gb_trans gg2 g3
 clear c3 g3 gg2 t2 s2
 obtain ⟨hi, rfl⟩ := Int.eq_ofNat_of_zero_le p2
 obtain ⟨lo, rfl⟩ := Int.eq_ofNat_of_zero_le p3
 have hor := or_hl hi lo (by omega) (by omega)
 have uh : IntKind.u64.wrap (hi : Int) = (hi : Int) := by rw [IntKind.wrap_u64]; omega
 have ul : IntKind.u64.wrap (lo : Int) = (lo : Int) := by rw [IntKind.wrap_u64]; omega
 have us : IntKind.u64.wrap ((hi : Int) * 4294967296) = (hi : Int) * 4294967296 := by rw [IntKind.wrap_u64]; omega
 -- END
 go_wp2_with fail
 obtain ⟨M, hM⟩ : ∃ M : Nat, Hid (M = hi * 4294967296 + lo) := ⟨_, rfl⟩
 have hMi : (hi : Int) * 4294967296 + (lo : Int) = (M : Int) := by rw [hM.out]; omega
 have hMlt : M < 2 ^ 64 := by rw [hM.out]; omega
 rw [hMi]
 have hok : Hid (getOk G = (decide (e3 = 0) && goodW b0 M)) := hide (by unfold getOk; rw [G1.out, G2.out, G3.out, G5.out, hM.out]; rfl)
 have hbs : Hid (getB G = if getOk G then b0 else 0) := hide (by unfold getB; rw [G1.out])
 have hms : Hid (getM G = if getOk G then M else 0) := hide (by unfold getM; rw [G2.out, G3.out, hM.out]; rfl)
 clear hor uh ul us hMi hM G1 G2 G3 p2 p3 u2 u3
 have b4 : Below w3.heap.size w3 (w3.alloc (.cells #[.int .i64 b0, .int .u64 (M : Int)] 79)) := (Below.refl _ _).alloc (Nat.le_refl _) _
 have s4 := s3.below b4
 have t4 := there_below t3 b4 (by omega)
 have gg4 := gb_on gg3 b4 (by omega)
 have v4 := range_new w3 #[.int .i64 b0, .int .u64 (M : Int)] 79
 have z4 : (w3.alloc (.cells #[.int .i64 b0, .int .u64 (M : Int)] 79)).heap.size = w3.heap.size + 1 := World.size_alloc _ _
 obtain ⟨P, hP⟩ : ∃ P, w3.heap.size = P := ⟨_, rfl⟩
 obtain ⟨w4, hw4⟩ : ∃ w4, w3.alloc (.cells #[.int .i64 b0, .int .u64 (M : Int)] 79) = w4 := ⟨_, rfl⟩
 rw [hw4] at s4 t4 gg4
 rw [hw4, hP] at v4 z4
 rw [hP] at z3
 rw [hw4, hP]
 clear s3 t3 gg3 b4 hP hw4
 have ce := err_made R e3 w4 s4.1
 by_cases he : e3 = 0
 ·subst he
  have cg := good_any b0 M hMlt w4
  refine ce.mono ?_
  rintro en wx ⟨rfl, hx⟩
  obtain rfl := hx.symm
  clear hx ce
  have q0 : w4.cell? ⟨P, 0, none⟩ = some (.int .i64 b0) := v4 0 _ rfl
  have q1 : w4.cell? ⟨P, 1, none⟩ = some (.int .u64 (M : Int)) := v4 1 _ rfl
  cases hg : goodW b0 M with
  | false =>
   have EB : Hid (getB G = 0) := hide (by rw [hbs.out, hok.out, hg]; rfl)
   have EM : Hid (getM G = 0) := hide (by rw [hms.out, hok.out, hg]; rfl)
   rw [hg] at cg
   clear hok hbs hms hg
   go_wp2_with fail
   refine cg.mono ?_
   rintro en w5 ⟨rfl, b5⟩
   have t5 := there_below t4 b5 (by omega)
   have s5 := s4.below b5
   have gg5 := gb_on gg4 b5 (by omega)
   clear cg q0 q1 t4 s4 gg4 v4
   have hrs := win_load (win_set (B := 0) (m := 0) t5)
   have gf := gb_on gg5 (below_sets (B := w.heap.size) (b := w.heap.size) (Nat.le_refl _) (winC 0 0) 0 _ (Below.refl _ w5)) (Nat.le_refl _)
   have sf := s5.gb (gb_sets w5 w.heap.size (winC 0 0) 0) hRw
   go_wp2_with (refine wpList_store_mid (op := ⟨none, .store 79 (.tmp 2) (.tmp 29), _, _, _, none⟩) rfl 79 _ _ rfl _ _ #[.int .i64 0, .int .u64 0] rfl rfl t5 infoW (two_cells _ _) ?_)
   refine bodyPost_ret (v := winV 0 0) ?_ rfl ?_
   ·simp [results, Tryz.results108, Act.put, asAddr, hrs]
   ·exact ⟨by rw [EB.out, EM.out]; rfl, by rw [G4.out, G5.out]; exact sf, gf⟩
  | true =>
   have EB : Hid (getB G = b0) := hide (by rw [hbs.out, hok.out, hg]; rfl)
   have EM : Hid (getM G = M) := hide (by rw [hms.out, hok.out, hg]; rfl)
   rw [hg] at cg
   clear hok hbs hms hg
   go_wp2_with fail
   refine cg.mono ?_
   rintro en w5 ⟨rfl, b5⟩
   have t5 := there_below t4 b5 (by omega)
   have s5 := s4.below b5
   have gg5 := gb_on gg4 b5 (by omega)
   have v5 := range_below v4 b5 (by omega)
   clear cg q0 q1 t4 s4 gg4 v4
   have q0 : w5.cell? ⟨P, 0, none⟩ = some (.int .i64 b0) := v5 0 _ rfl
   have q1 : w5.cell? ⟨P, 1, none⟩ = some (.int .u64 (M : Int)) := v5 1 _ rfl
   have hrs := win_load (win_set (B := b0) (m := (M : Int)) t5)
   have gf := gb_on gg5 (below_sets (B := w.heap.size) (b := w.heap.size) (Nat.le_refl _) (winC b0 (M : Int)) 0 _ (Below.refl _ w5)) (Nat.le_refl _)
   have sf := s5.gb (gb_sets w5 w.heap.size (winC b0 (M : Int)) 0) hRw
   go_wp2_with (refine wpList_store_mid (op := ⟨none, .store 79 (.tmp 2) (.tmp 30), _, _, _, none⟩) rfl 79 _ _ rfl _ _ #[.int .i64 b0, .int .u64 (M : Int)] rfl rfl t5 infoW (two_cells _ _) ?_)
   refine bodyPost_ret (v := winV b0 (M : Int)) ?_ rfl ?_
   ·simp [results, Tryz.results108, Act.put, asAddr, hrs]
   ·exact ⟨by rw [EB.out, EM.out], by rw [G4.out, G5.out]; exact sf, gf⟩
 ·have EB : Hid (getB G = 0) := hide (by rw [hbs.out, hok.out, decide_eq_false he]; rfl)
  have EM : Hid (getM G = 0) := hide (by rw [hms.out, hok.out, decide_eq_false he]; rfl)
  clear hok hbs hms
  refine ce.mono ?_
  rintro en w5 ⟨rfl, hx⟩
  obtain rfl := hx
  clear ce
  have t5 := t4
  have s5 := s4
  have gg5 := gg4
  clear t4 s4 gg4 v4
  have hrs := win_load (win_set (B := 0) (m := 0) t5)
  have gf := gb_on gg5 (below_sets (B := w.heap.size) (b := w.heap.size) (Nat.le_refl _) (winC 0 0) 0 _ (Below.refl _ w5)) (Nat.le_refl _)
  have sf := s5.gb (gb_sets w5 w.heap.size (winC 0 0) 0) hRw
  go_wp2_with (refine wpList_store_mid (op := ⟨none, .store 79 (.tmp 2) (.tmp 29), _, _, _, none⟩) rfl 79 _ _ rfl _ _ #[.int .i64 0, .int .u64 0] rfl rfl t5 infoW (two_cells _ _) ?_)
  refine bodyPost_ret (v := winV 0 0) ?_ rfl ?_
  ·simp [results, Tryz.results108, Act.put, asAddr, hrs]
  ·exact ⟨by rw [EB.out, EM.out]; rfl, by rw [G4.out, G5.out]; exact sf, gf⟩
end Go.Proofs.YtnfijfnnpbenfaaGreatDoor.Wn
