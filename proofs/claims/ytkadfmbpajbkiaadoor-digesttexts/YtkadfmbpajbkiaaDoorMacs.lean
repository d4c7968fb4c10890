/- the law of macs: the walk -/
import Derived.Test.YtkadfmbpajbkiaaDoorRefMac
import Derived.Test.YtkadfmbpajbkiaaDoorLives4
import Derived.Test.YtkadfmbpajbkiaaDoorEql
namespace Go.Proofs.YtkadfmbpajbkiaaDoor
open Go.RowKit
open Sha
theorem RowAt.none_nil {w : World} {zs : List Int} (h : RowAt w none zs) : zs = [] := by
  rcases h.2.2 with h | ⟨b, off, hx, _⟩
  · exact h
  · cases hx
theorem RowAt.str {w : World} {a : Option Addr} {zs : List Int} (h : RowAt w a zs) (cap : Nat) : (convert 27 9 (.slice a zs.length cap)).run Tryd.prog w = .ok (.string (strOf zs)) w := by
  rcases h.2.2 with rfl | ⟨b, off, rfl, _, hr⟩
  · rw [List.length_nil, run_convert_bytes_string w 27 9 5 a 0 cap Tryd.underlying27 Tryd.underlying5 Tryd.underlying9]
    cases a <;> rfl
  · exact row_str hr
theorem nil_bytes (w : World) : (w.alloc (.cells #[] 5)).ownsRow w.heap.size 5 1 (.slice (some ⟨w.heap.size, 0, none⟩) 0 0) 0 [] := World.ownsRow_made w #[] 0 (Nat.le_refl _) (by simp) (by simp)
set_option maxRecDepth 20000 in
set_option maxHeartbeats 4000000 in
theorem macs_walk (a0 : Option Addr) (c0 : Nat) (key : List Int) (a1 : Option Addr) (c1 : Nat) (xs : List Int) (a2 : Option Addr) (c2 : Nat) (ys : List Int) (w : World) (hG : Glob w)
    (h0 : RowAt w a0 key) (h1 : RowAt w a1 xs) (hc1 : xs.length ≤ c1) (hm1 : c1 ≤ maxLen) (h2 : RowAt w a2 ys) (hc2 : ys.length ≤ c2) (hm2 : c2 ≤ maxLen) (l0 : key.length ≤ 2000) (l1 : xs.length ≤ 2000) (l2 : ys.length ≤ 2000) :
   Calls Tryd.prog 8 #[.slice a0 key.length c0, .slice a1 xs.length c1, .slice a2 ys.length c2] w fun e w' => e = .returned (.bool true) ∧ Below w.heap.size w w' := by
  have t0 : ¬ (2000 : Int) < key.length := by omega
  have t1 : ¬ (2000 : Int) < xs.length := by omega
  have t2 : ¬ (2000 : Int) < ys.length := by omega
  obtain ⟨i0, hi, hz0, hz1, hz2⟩ := info_parts info8
  have hB0 : Below w.heap.size w (w.alloc (.cells #[] 5)) := (Below.refl _ _).alloc (Nat.le_refl _) _
  have hsrc := (h0.below hB0).src c0
  go_enter Tryd.func8, Tryd.ntmps8
  go_wp2_with (at_builtin; refine wpList_append_own_src _ rfl _ _ 27 27 rfl w.heap.size 5 i0 (.int .u8 0) 1 1 Tryd.underlying27 hi hz0 hz1 hz2 rfl _ 0 [] rfl (nil_bytes w) _ key.length _ rfl hsrc ?c1 ?c2 ?c3 ?_)
  case c1 => unfold maxLen; omega
  case c2 => omega
  intro v1 w1 hown1 hgr1
  have hown1' : w1.ownsRow w.heap.size 5 1 v1 key.length (v8 key) := by simpa using hown1
  have hB1 : Below w.heap.size w w1 := hB0.grown hgr1 hB0.size (own_low (nil_bytes w))
  obtain ⟨a', c', rfl, hc', hm', hrow1⟩ := own_bytes hown1' h0.2.1 h0.1
  clear hown1 hown1' hgr1 hsrc hi hz0 hz1 hz2 hB0
  have hp1 : (⟨a1, c1, xs⟩ : Part).at w1 := Part.at.below (w := w) ⟨h1, hc1, hm1⟩ hB1
  have hp2 : (⟨a2, c2, ys⟩ : Part).at w1 := Part.at.below (w := w) ⟨h2, hc2, hm2⟩ hB1
  have hP := two_parts w1 _ _ hp1 hp2
  have hBp : Below w1.heap.size w1 (w1.alloc (.cells #[Part.val ⟨a1, c1, xs⟩, Part.val ⟨a2, c2, ys⟩] 27)) := (Below.refl _ _).alloc (Nat.le_refl _) _
  have hBp' := hB1.trans (hBp.mono hB1.size)
  have ec : cat [(⟨a1, c1, xs⟩ : Part), ⟨a2, c2, ys⟩] = xs ++ ys := by simp [cat]
  have cm := mac_any a' c' key _ 2 _ _ (hG.below hBp') (hrow1.below hBp) hc' hm' (by omega) hP (by rw [ec, List.length_append]; omega) (by simp)
  rw [ec] at cm
  obtain ⟨m, hm⟩ : ∃ m, Hid (mac key (xs ++ ys) = m) := ⟨_, rfl⟩
  have hml : m.length = 32 := by rw [← hm.out]; exact mac_length _ _
  rw [hm.out] at cm
  simp only [List.length_cons, List.length_nil, Nat.zero_add] at cm
  unfold Part.val at cm hBp hBp'
  clear ec hP hp1 hp2
  go_wp2_with fail
  refine cm.mono ?_
  rintro e w2 ⟨rfl, hw2⟩
  clear cm
  have hW2 := hBp.trans (hw2.mono hBp.size)
  have hB2 := hB1.trans (hW2.mono hB1.size)
  clear hw2 hBp hBp'
  have F := fresh_store w2 (Array.replicate 32 (.int .u8 0)) 24 (v8 m) (by rw [v8_length, hml]; rfl)
  have hN := there24 w2 m hml
  have hi := info24 m hml
  have h1c := all_oneCell_toArray (v8_one m)
  go_upto_region 5 with (refine wpList_store_mid (op := ⟨none, .store 24 (.tmp 8) (.tmp 30), _, _, _, none⟩) rfl 24 _ _ rfl _ _ (v8 m).toArray rfl rfl hN hi h1c ?_)
  go_name_world w3 hw3
  rw [show (w2.alloc (.cells (Array.replicate 32 (.int .u8 0)) 24)).setCells w2.heap.size 0 (v8 m) = w3 from hw3] at F
  obtain ⟨hR3, hB3', hz3', _⟩ := F
  have hz3 : w2.heap.size < w3.heap.size := by omega
  have hW3 := hW2.trans (hB3'.mono hW2.size)
  have hB3 := hB2.trans (hB3'.mono hB2.size)
  clear hz3' hw3 hN h1c
  try simp only [Act.put]
  obtain ⟨X, hX⟩ : ∃ X, w2.heap.size = X := ⟨_, rfl⟩
  rw [hX] at hR3 hz3 ⊢
  have hi' : (Tryd.prog.info? 24).map (·.size) = some (v8 m).length := by simpa using hi
  have hB4 : Below w.heap.size w w3.drew := hB3.drew
  have hR4 : w3.drew.rangeAt X 0 (v8 m) := (World.rangeAt_drew _ _ _ _).2 hR3
  have hX4 : X < w3.drew.heap.size := hz3
  have hk4 := h0.below hB4
  have ho4 : RowAt w3.drew a' key := hrow1.below hW3.drew
  clear hX hB3' hR3 hz3 hB2 hi hW2 hrow1 hB1 hB3 hW3
  go_wp2_with fail
  obtain ⟨w5, hw5⟩ : ∃ w5, w3.drew = w5 := ⟨_, rfl⟩
  rw [hw5] at hB4 hR4 hX4 hk4 ho4
  refine hs_begin (S := (Below w5.heap.size w5)) 20 rfl (by kernel_rfl) ?_
  rw [hw5]
  clear hw5
  have hS : (Below w5.heap.size w5) w5 := Below.refl _ _
  refine hs_take (i := 0) (d := some 31) (v := .agg (v8 m).toArray) rfl (by kernel_rfl) (by kernel_rfl) (by kernel_rfl) (by rfl) (fun w' hw => exec_load rfl rfl (run_loadVar_mid (P := Tryd.prog) w' X 0 24 (v8 m) _ (range_below hR4 hw hX4) Tryd.underlying24 rfl hi')) hS rfl ?_
  simp only [Act.put, List.setIfInBounds_toArray, List.set_cons_zero, List.set_cons_succ]
  refine hs_take (i := 1) (d := some 32) (v := ?_) rfl (by kernel_rfl) (by kernel_rfl) (by kernel_rfl) (by rfl) ?_ hS rfl ?_
  rotate_left
  · intro w' hw
    go_simp
    try with_reducible rfl
  simp only [Act.put, List.setIfInBounds_toArray, List.set_cons_zero, List.set_cons_succ]
  refine hs_take (i := 3) (d := some 34) (v := ?_) rfl (by kernel_rfl) (by kernel_rfl) (by kernel_rfl) (by rfl) ?_ hS rfl ?_
  rotate_left
  · intro w' hw
    go_simp
    try with_reducible rfl
  simp only [Act.put, List.setIfInBounds_toArray, List.set_cons_zero, List.set_cons_succ]
  refine hs_take (i := 5) (d := some 36) (v := ?_) rfl (by kernel_rfl) (by kernel_rfl) (by kernel_rfl) (by rfl) ?_ hS rfl ?_
  rotate_left
  · intro w' hw
    go_simp
    try with_reducible rfl
  simp only [Act.put, List.setIfInBounds_toArray, List.set_cons_zero, List.set_cons_succ]
  have hS : (Below w5.heap.size w5) (w5.alloc (.cells #[] 5)) := (Below.refl _ _).alloc (Nat.le_refl _) _
  refine hs_run (i := 2) (d := some 33) (v := .slice (some ⟨w5.heap.size, 0, none⟩) 0 0) (w' := (w5.alloc (.cells #[] 5))) rfl (by kernel_rfl) (by rfl) (by go_simp; try with_reducible rfl) rfl hS ?_
  simp only [Act.put, List.setIfInBounds_toArray, List.set_cons_zero, List.set_cons_succ]
  have hown6 := nil_bytes w5
  generalize w5.alloc (.cells #[] 5) = w6 at hS hown6 ⊢
  obtain ⟨a7, c7, w7, hr7, hown7, _, _, _, hgr7⟩ := append_bytes (zs := []) (cap := c1) 27 hS.size (by simpa [v8] using hown6) (by simp) ((h1.below hB4).below hS) (by simp; omega)
  rw [List.nil_append] at hr7 hown7
  have hS : (Below w5.heap.size w5) w7 := hS.grown hgr7 hS.size (own_low hown6)
  refine hs_run (i := 4) (d := some 35) (v := .slice a7 xs.length c7) (w' := w7) rfl (by kernel_rfl) (by rfl) (exec_append rfl rfl rfl hr7) rfl hS ?_
  simp only [Act.put, List.setIfInBounds_toArray, List.set_cons_zero, List.set_cons_succ]
  clear hr7 hgr7 hown6
  obtain ⟨a8, c8, w8, hr8, hown8, hrow8, _, _, hgr8⟩ := append_bytes (cap := c2) 27 hS.size hown7 h1.2.1 ((h2.below hB4).below hS) (by omega)
  have hS : (Below w5.heap.size w5) w8 := hS.grown hgr8 hS.size (own_low hown7)
  refine hs_run (i := 6) (d := some 37) (v := .slice a8 (xs ++ ys).length c8) (w' := w8) rfl (by kernel_rfl) (by rfl) (exec_append rfl rfl rfl hr8) rfl hS ?_
  simp only [Act.put, List.setIfInBounds_toArray, List.set_cons_zero, List.set_cons_succ]
  clear hr8 hgr8 hown7 hown8
  have c9 := refMac_any a0 c0 key a8 c8 (xs ++ ys) w8 (hk4.below hS) (by omega) hrow8 (by rw [List.length_append]; omega)
  rw [hm.out] at c9
  generalize (xs ++ ys).length = n8 at *
  refine hs_call (i := 7) (d := some 38) rfl (by kernel_rfl) (by rfl) (by go_simp; first | done | exact ⟨rfl, rfl⟩ | with_reducible rfl) rfl ?_
  refine (c9).mono ?_
  rintro e' w9 ⟨rfl, hw9⟩
  have hS : (Below w5.heap.size w5) w9 := hS.trans (hw9.mono hS.size)
  refine ⟨_, rfl, hS, ?_⟩
  simp only [Act.put, List.setIfInBounds_toArray, List.set_cons_zero, List.set_cons_succ]
  clear c9 hw9 hrow8
  have heq := eql_digest m hml
  refine hs_take (i := 8) (d := some 39) (v := .bool true) rfl (by kernel_rfl) (by kernel_rfl) (by kernel_rfl) (by rfl) (fun w' hw => by go_simp) hS rfl ?_
  simp only [Act.put, List.setIfInBounds_toArray, List.set_cons_zero, List.set_cons_succ]
  refine hs_take (i := 9) (d := some 40) (v := ?_) rfl (by kernel_rfl) (by kernel_rfl) (by kernel_rfl) (by rfl) ?_ hS rfl ?_
  rotate_left
  · intro w' hw
    go_simp
    try with_reducible rfl
  simp only [Act.put, List.setIfInBounds_toArray, List.set_cons_zero, List.set_cons_succ]
  refine hs_take (i := 10) (d := some 41) (v := ?_) rfl (by kernel_rfl) (by kernel_rfl) (by kernel_rfl) (by rfl) ?_ hS rfl ?_
  rotate_left
  · intro w' hw
    go_simp
    try with_reducible rfl
  simp only [Act.put, List.setIfInBounds_toArray, List.set_cons_zero, List.set_cons_succ]
  refine hs_take (i := 12) (d := some 43) (v := ?_) rfl (by kernel_rfl) (by kernel_rfl) (by kernel_rfl) (by rfl) ?_ hS rfl ?_
  rotate_left
  · intro w' hw
    go_simp
    try with_reducible rfl
  simp only [Act.put, List.setIfInBounds_toArray, List.set_cons_zero, List.set_cons_succ]
  have str1 := fun w' (hw : Below w5.heap.size w5 w') => (ho4.below hw).str c'
  have str2 := fun w' (hw : Below w5.heap.size w5 w') => (hk4.below hw).str c0
  refine hs_take (i := 11) (d := some 42) (v := ?_) rfl (by kernel_rfl) (by kernel_rfl) (by kernel_rfl) (by rfl) ?_ hS rfl ?_
  rotate_left
  · intro w' hw
    have s1 := str1 w' hw
    go_simp
    try with_reducible rfl
  simp only [Act.put, List.setIfInBounds_toArray, List.set_cons_zero, List.set_cons_succ]
  refine hs_take (i := 13) (d := some 44) (v := ?_) rfl (by kernel_rfl) (by kernel_rfl) (by kernel_rfl) (by rfl) ?_ hS rfl ?_
  rotate_left
  · intro w' hw
    have s2 := str2 w' hw
    go_simp
    try with_reducible rfl
  simp only [Act.put, List.setIfInBounds_toArray, List.set_cons_zero, List.set_cons_succ]
  clear str1 str2
  refine hs_take (i := 14) (d := some 45) (v := ?_) rfl (by kernel_rfl) (by kernel_rfl) (by kernel_rfl) (by rfl) ?_ hS rfl ?_
  rotate_left
  · intro w' hw
    go_simp
    try with_reducible rfl
  simp only [Act.put, List.setIfInBounds_toArray, List.set_cons_zero, List.set_cons_succ]
  refine hs_take (i := 15) (d := some 46) (v := ?_) rfl (by kernel_rfl) (by kernel_rfl) (by kernel_rfl) (by rfl) ?_ hS rfl ?_
  rotate_left
  · intro w' hw
    go_simp
    try with_reducible rfl
  simp only [Act.put, List.setIfInBounds_toArray, List.set_cons_zero, List.set_cons_succ]
  refine hs_take (i := 16) (d := some 47) (v := ?_) rfl (by kernel_rfl) (by kernel_rfl) (by kernel_rfl) (by rfl) ?_ hS rfl ?_
  rotate_left
  · intro w' hw
    go_simp
    try with_reducible rfl
  simp only [Act.put, List.setIfInBounds_toArray, List.set_cons_zero, List.set_cons_succ]
  refine hs_call (i := 17) (d := some 48) rfl (by kernel_rfl) (by rfl) (by go_simp; first | done | exact ⟨rfl, rfl⟩ | with_reducible rfl) rfl ?_
  refine (lives4_any w9 (hG.below (hB4.trans (hS.mono hB4.size)))).mono ?_
  rintro e' w10 ⟨rfl, hw10⟩
  have hS : (Below w5.heap.size w5) w10 := hS.trans (hw10.mono hS.size)
  refine ⟨_, rfl, hS, ?_⟩
  simp only [Act.put, List.setIfInBounds_toArray, List.set_cons_zero, List.set_cons_succ]
  refine hs_take (i := 18) (d := some 49) (v := ?_) rfl (by kernel_rfl) (by kernel_rfl) (by kernel_rfl) (by rfl) ?_ hS rfl ?_
  rotate_left
  · intro w' hw
    go_simp
    try with_reducible rfl
  simp only [Act.put, List.setIfInBounds_toArray, List.set_cons_zero, List.set_cons_succ]
  have hfin := hB4.trans (hS.mono hB4.size)
  refine hs_take (i := 19) (d := some 6) (v := ?_) rfl (by kernel_rfl) (by kernel_rfl) (by kernel_rfl) (by rfl) ?_ hS rfl ?_
  rotate_left
  · intro w' hw
    go_simp
    try with_reducible rfl
  simp only [Act.put, List.setIfInBounds_toArray, List.set_cons_zero, List.set_cons_succ]
  refine hs_done (by kernel_rfl) ?_
  go_wp2
  go_ret
  exact ⟨rfl, hfin⟩
set_option maxHeartbeats 1000000 in
theorem macs_any (a0 : Option Addr) (c0 : Nat) (key : List Int) (a1 : Option Addr) (c1 : Nat) (xs : List Int) (a2 : Option Addr) (c2 : Nat) (ys : List Int) (w : World) (hG : Glob w)
    (h0 : RowAt w a0 key) (h1 : RowAt w a1 xs) (hc1 : xs.length ≤ c1) (hm1 : c1 ≤ maxLen) (h2 : RowAt w a2 ys) (hc2 : ys.length ≤ c2) (hm2 : c2 ≤ maxLen) :
   Calls Tryd.prog 8 #[.slice a0 key.length c0, .slice a1 xs.length c1, .slice a2 ys.length c2] w fun e w' => e = .returned (.bool true) ∧ Below w.heap.size w w' := by
  by_cases g0 : 2000 < key.length
  · have g0' : (2000 : Int) < key.length := by omega
    go_enter Tryd.func8, Tryd.ntmps8
    go_wp2_with (go_at_call 23; refine (lives4_any _ hG).mono ?_; rintro e w9 ⟨rfl, hw9⟩)
    go_ret
    exact ⟨rfl, hw9⟩
  · by_cases g1 : 2000 < xs.length
    · have g0' : ¬ (2000 : Int) < key.length := by omega
      have g1' : (2000 : Int) < xs.length := by omega
      go_enter Tryd.func8, Tryd.ntmps8
      go_wp2_with (go_at_call 23; refine (lives4_any _ hG).mono ?_; rintro e w9 ⟨rfl, hw9⟩)
      go_ret
      exact ⟨rfl, hw9⟩
    · by_cases g2 : 2000 < ys.length
      · have g0' : ¬ (2000 : Int) < key.length := by omega
        have g1' : ¬ (2000 : Int) < xs.length := by omega
        have g2' : (2000 : Int) < ys.length := by omega
        go_enter Tryd.func8, Tryd.ntmps8
        go_wp2_with (go_at_call 23; refine (lives4_any _ hG).mono ?_; rintro e w9 ⟨rfl, hw9⟩)
        go_ret
        exact ⟨rfl, hw9⟩
      · exact macs_walk a0 c0 key a1 c1 xs a2 c2 ys w hG h0 h1 hc1 hm1 h2 hc2 hm2 (by omega) (by omega) (by omega)
end Go.Proofs.YtkadfmbpajbkiaaDoor
