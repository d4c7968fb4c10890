/- digits, and the document's text of a digest -/
import Derived.Test.YtkadfmbpajbkiaaDoorOrdL
import Derived.Test.YtkadfmbpajbkiaaDoorMacs
namespace Go.Proofs.YtkadfmbpajbkiaaDoor
open Go.RowKit
open Sha
def valOf (c : Int) : Int := if 48 ≤ c ∧ c ≤ 57 then c - 48 else if 97 ≤ c ∧ c ≤ 102 then c - 87 else 16
theorem val_dec (c : Int) (h : 48 ≤ c ∧ c ≤ 57) : valOf c = c - 48 := if_pos h
theorem val_let (c : Int) (h : 97 ≤ c ∧ c ≤ 102) : valOf c = c - 87 := by unfold valOf; rw [if_neg (by omega), if_pos h]
theorem val_no (c : Int) (h : ¬ (48 ≤ c ∧ c ≤ 57)) (h2 : ¬ (97 ≤ c ∧ c ≤ 102)) : valOf c = 16 := by unfold valOf; rw [if_neg h, if_neg h2]
set_option maxHeartbeats 1000000 in
theorem digit_any (c : Int) (w : World) (h0 : 0 ≤ c ∧ c < 256) :
   Calls Tryd.prog 34 #[.int .u8 c] w fun e w' => (valOf c < 16 ∧ e = .returned (.tuple #[.int .u8 (valOf c), .bool true]) ∨ valOf c = 16 ∧ e = .returned (.tuple #[.int .u8 0, .bool false])) ∧ w' = w := by
  by_cases h1 : 48 ≤ c ∧ c ≤ 57
  · have e := val_dec c h1
    rw [e]
    obtain ⟨h2, h3⟩ := h1
    have hw : IntKind.u8.wrap (c - 48) = c - 48 := by rw [IntKind.wrap_u8]; omega
    have HF : Hid (c - 48 < 16) := show _ < _ by omega
    clear e
    go_enter Tryd.func34, Tryd.ntmps34
    go_wp2
    exact bodyPost_ret (v := .tuple #[.int .u8 (c - 48), .bool true]) (by simp [results, Tryd.results34]) rfl ⟨.inl ⟨HF.out, rfl⟩, rfl⟩
  · by_cases h2 : 97 ≤ c ∧ c ≤ 102
    · have e := val_let c h2
      rw [e]
      obtain ⟨h3, h4⟩ := h2
      have h5 : ¬ c ≤ 57 := by omega
      have h6 : (48 : Int) ≤ c := by omega
      have hw : IntKind.u8.wrap (c - 97) = c - 97 := by rw [IntKind.wrap_u8]; omega
      have hw2 : IntKind.u8.wrap (c - 97 + 10) = c - 87 := by rw [IntKind.wrap_u8]; omega
      have HF : Hid (c - 87 < 16) := show _ < _ by omega
      clear e h1
      go_enter Tryd.func34, Tryd.ntmps34
      go_wp2
      exact bodyPost_ret (v := .tuple #[.int .u8 (c - 87), .bool true]) (by simp [results, Tryd.results34]) rfl ⟨.inl ⟨HF.out, rfl⟩, rfl⟩
    · have e := val_no c h1 h2
      rw [e]
      clear e
      by_cases a1 : 48 ≤ c
      · have a2 : ¬ c ≤ 57 := fun h => h1 ⟨a1, h⟩
        clear h1
        by_cases a3 : 97 ≤ c
        · have a4 : ¬ c ≤ 102 := fun h => h2 ⟨a3, h⟩
          clear h2
          go_enter Tryd.func34, Tryd.ntmps34
          go_wp2
          exact bodyPost_ret (v := .tuple #[.int .u8 0, .bool false]) (by simp [results, Tryd.results34]) rfl ⟨rfl, rfl⟩
        · clear h2
          go_enter Tryd.func34, Tryd.ntmps34
          go_wp2
          exact bodyPost_ret (v := .tuple #[.int .u8 0, .bool false]) (by simp [results, Tryd.results34]) rfl ⟨rfl, rfl⟩
      · have a3 : ¬ 97 ≤ c := by omega
        clear h1 h2
        go_enter Tryd.func34, Tryd.ntmps34
        go_wp2
        exact bodyPost_ret (v := .tuple #[.int .u8 0, .bool false]) (by simp [results, Tryd.results34]) rfl ⟨rfl, rfl⟩
theorem digI : ∀ (n : Nat), n < 16 → ∀ (w : World), (Instr.index 9 (.string { data := #[48, 49, 50, 51, 52, 53, 54, 55, 56, 57, 97, 98, 99, 100, 101, 102] }) (.int .i64 (n : Int))).run Tryd.prog w = .ok (.int .u8 (dg.getD n 0)) w
  | 0, _, _ => by kernel_rfl
  | 1, _, _ => by kernel_rfl
  | 2, _, _ => by kernel_rfl
  | 3, _, _ => by kernel_rfl
  | 4, _, _ => by kernel_rfl
  | 5, _, _ => by kernel_rfl
  | 6, _, _ => by kernel_rfl
  | 7, _, _ => by kernel_rfl
  | 8, _, _ => by kernel_rfl
  | 9, _, _ => by kernel_rfl
  | 10, _, _ => by kernel_rfl
  | 11, _, _ => by kernel_rfl
  | 12, _, _ => by kernel_rfl
  | 13, _, _ => by kernel_rfl
  | 14, _, _ => by kernel_rfl
  | 15, _, _ => by kernel_rfl
  | n + 16, h, _ => absurd h (by omega)
theorem val_dg : ∀ k : Fin 16, valOf (dg.getD k.val 0) = k.val := by decide
theorem dg_val (c : Int) (h : ∀ j, j < 16 → dg.getD j 0 ≠ c) : valOf c = 16 := by
  by_cases h1 : 48 ≤ c ∧ c ≤ 57
  · exfalso
    have key : ∀ j : Fin 10, dg.getD j.val 0 = 48 + j.val := by decide
    have := key ⟨(c - 48).toNat, by omega⟩
    exact h (c - 48).toNat (by omega) (by rw [this]; show 48 + ((c - 48).toNat : Int) = c; omega)
  · by_cases h2 : 97 ≤ c ∧ c ≤ 102
    · exfalso
      have key : ∀ j : Fin 6, dg.getD (j.val + 10) 0 = 97 + j.val := by decide
      have := key ⟨(c - 97).toNat, by omega⟩
      exact h ((c - 97).toNat + 10) (by omega) (by rw [this]; show 97 + ((c - 97).toNat : Int) = c; omega)
    · exact val_no c h1 h2
set_option maxHeartbeats 1000000 in
theorem place_any (c : Int) (w : World) (_h0 : 0 ≤ c ∧ c < 256) :
   Calls Tryd.prog 35 #[.int .u8 c] w fun e w' => e = .returned (.int .i64 (valOf c)) ∧ w' = w := by
  obtain ⟨v, hv⟩ : ∃ v, Hid (valOf c = v) := ⟨_, rfl⟩
  rw [hv.out]
  go_enter Tryd.func35, Tryd.ntmps35
  go_wp2
  go_loop [3] (fun i => ∃ k : Nat, k ≤ 16 ∧ i = .int .i64 (k : Int) ∧ Hid (∀ j, j < k → dg.getD j 0 ≠ c)) (fun i => 16 - (intOf i).toNat)
  case atStart => exact ⟨0, by omega, rfl, fun j hj => by omega⟩
  case round =>
    obtain ⟨k, hk, rfl, hn⟩ := hrel
    by_cases hlt : k < 16
    · have hix := digI k hlt
      have hvd := val_dg ⟨k, hlt⟩
      have HV : Hid (dg.getD k 0 = c → v = (k : Int)) := fun e => by rw [← hv.out, ← e]; exact hvd
      have HN : Hid (dg.getD k 0 ≠ c → ∀ j, j < k + 1 → dg.getD j 0 ≠ c) := fun e j hj => by
        by_cases q : j = k
        · subst q; exact e
        · exact hn.out j (by omega)
      clear hvd hn
      generalize dg.getD k 0 = z at *
      by_cases e : z = c
      · subst e
        go_wp2
        go_ret
        exact ⟨by rw [HV.out trivial]; rfl, rfl⟩
      · go_wp2
        go_round
        case rel => exact ⟨k + 1, by omega, by go_num, HN.out e⟩
        case measure => simp [intOf]; omega
    · have hk' : k = 16 := by omega
      subst hk'
      have HV : Hid (v = 16) := by
        show v = 16
        rw [← hv.out]
        exact dg_val c hn.out
      clear hn
      go_wp2
      go_ret
      exact ⟨by rw [HV.out]; rfl, rfl⟩
theorem info2 (a b : Int) (w : World) (ha : 0 ≤ a ∧ a < 256) (hb : 0 ≤ b ∧ b < 256) : RowAt (w.alloc (.cells #[.int .u8 a, .int .u8 b] 5)) (some ⟨w.heap.size, 0, none⟩) [a, b] := by
  refine ⟨by unfold maxLen; simp, ?_, Or.inr ⟨w.heap.size, 0, rfl, by simp, range_new w #[.int .u8 a, .int .u8 b] 5⟩⟩
  intro z hz
  simp only [List.mem_cons, List.not_mem_nil, or_false] at hz
  rcases hz with rfl | rfl
  · exact ha
  · exact hb
set_option maxRecDepth 20000 in
set_option maxHeartbeats 2000000 in
theorem refText_any (d : List Int) (w : World) (hd : d.length = 32) (hb : ∀ z ∈ d, 0 ≤ z ∧ z < 256) :
   Calls Tryd.prog 22 #[.agg (v8 d).toArray] w fun e w' => e = .returned (.string (strOf (hex d))) ∧ Below w.heap.size w w' := by
  have B0 : Below w.heap.size w (w.alloc (.cells (v8 d).toArray 24)) := (Below.refl _ _).alloc (Nat.le_refl _) _
  have hR : (w.alloc (.cells (v8 d).toArray 24)).rangeAt w.heap.size 0 (v8 d) := by have := range_new w (v8 d).toArray 24; simpa using this
  have hz : w.heap.size < (w.alloc (.cells (v8 d).toArray 24)).heap.size := by simp
  go_enter Tryd.func22, Tryd.ntmps22
  go_wp2_with fail
  go_name_world w1 hw1
  rw [show w.alloc (.cells (v8 d).toArray 24) = w1 from hw1] at B0 hR hz
  clear hw1
  go_loopw [3, 4] (fun v i wr => ∃ k : Nat, k ≤ 32 ∧ i = .int .i64 (k : Int) ∧ wr.ownsRow w1.heap.size 5 1 v (hex (d.take k)).length (v8 (hex (d.take k))) ∧ Below w1.heap.size w1 wr) (fun _ i _ => 32 - (intOf i).toNat)
  case atStart => exact ⟨0, by omega, rfl, World.ownsRow_nil _ _ _ _, Below.refl _ _⟩
  case round =>
    obtain ⟨k, hk, rfl, hown, hW⟩ := hrel
    have hWW := B0.trans (hW.mono B0.size)
    have hll : (hex (d.take k)).length = 2 * k := by rw [hex_length, List.length_take]; omega
    have hok : ∀ z ∈ hex (d.take k), 0 ≤ z ∧ z < 256 := hex_ok _ (fun z hz => hb z (List.mem_of_mem_take hz))
    by_cases hlt : k < 32
    · have hcx : ∀ w', Below w1.heap.size w1 w' → w'.cell? ⟨w.heap.size, k, none⟩ = some (.int .u8 (d.getD k 0)) := fun w' hw' => by
        have := get8 (range_below hR hw' (by omega)) (i := k) (by omega)
        rwa [Nat.zero_add] at this
      have hzb := byte_ok hb k
      have HX : Hid (hex (d.take (k + 1)) = hex (d.take k) ++ hex2 (d.getD k 0)) := by
        show _ = _
        have h1 : k < d.length := by omega
        rw [List.take_succ_eq_append_getElem h1, hex_snoc]
        congr 2
        simp [List.getD_eq_getElem?_getD, List.getElem?_eq_getElem h1]
      obtain ⟨z, hz'⟩ : ∃ z, Hid (d.getD k 0 = z) := ⟨_, rfl⟩
      rw [hz'.out] at hcx hzb HX
      obtain ⟨hs, hhs⟩ : ∃ hs, Hid (hex (d.take k) = hs) := ⟨_, rfl⟩
      rw [hhs.out] at hown hll hok HX
      have ix1 := dig_at (z / 16) (by omega) (by omega)
      have ix2 := dig_at (z % 16) (by omega) (by omega)
      have HX2 : Hid (hex (d.take (k + 1)) = hs ++ [dg.getD (z / 16).toNat 0, dg.getD (z % 16).toNat 0]) := by rw [HX.out]; rfl
      have g1 := dg_ok (z / 16).toNat
      have g2 := dg_ok (z % 16).toNat
      generalize dg.getD (z / 16).toNat 0 = d1 at ix1 HX2 g1
      generalize dg.getD (z % 16).toNat 0 = d2 at ix2 HX2 g2
      have hlk : (k : Int) < 32 := by omega
      have own4 : wr.drew.ownsRow w1.heap.size 5 1 _ hs.length (v8 hs) := owns_below hown (Below.refl wr.heap.size wr).drew
      have hW4 := hW.drew
      have HLL : Hid (hs.length = 2 * k) := hll
      clear HX hown hz' hhs hll
      go_wp2_with fail
      obtain ⟨w5, hw5⟩ : ∃ w5, wr.drew = w5 := ⟨_, rfl⟩
      rw [hw5] at own4 hW4
      refine hs_begin (S := (Below w1.heap.size w1)) 14 rfl (by kernel_rfl) ?_
      rw [hw5]
      clear hw5
      have hS : (Below w1.heap.size w1) w5 := hW4
      refine hs_take (i := 0) (d := some 9) (v := ?_) rfl (by kernel_rfl) (by kernel_rfl) (by kernel_rfl) (by rfl) ?_ hS rfl ?_
      rotate_left
      · intro w' hw
        go_simp
        try with_reducible rfl
      simp only [Act.put, List.setIfInBounds_toArray, List.set_cons_zero, List.set_cons_succ]
      refine hs_take (i := 1) (d := some 10) (v := ?_) rfl (by kernel_rfl) (by kernel_rfl) (by kernel_rfl) (by rfl) ?_ hS rfl ?_
      rotate_left
      · intro w' hw
        go_simp
        try with_reducible rfl
      simp only [Act.put, List.setIfInBounds_toArray, List.set_cons_zero, List.set_cons_succ]
      refine hs_take (i := 2) (d := some 11) (v := ?_) rfl (by kernel_rfl) (by kernel_rfl) (by kernel_rfl) (by rfl) ?_ hS rfl ?_
      rotate_left
      · intro w' hw
        go_simp
        try with_reducible rfl
      simp only [Act.put, List.setIfInBounds_toArray, List.set_cons_zero, List.set_cons_succ]
      refine hs_take (i := 3) (d := some 12) (v := ?_) rfl (by kernel_rfl) (by kernel_rfl) (by kernel_rfl) (by rfl) ?_ hS rfl ?_
      rotate_left
      · intro w' hw
        have hc := hcx w' hw
        go_simp
        try with_reducible rfl
      simp only [Act.put, List.setIfInBounds_toArray, List.set_cons_zero, List.set_cons_succ]
      refine hs_take (i := 4) (d := some 13) (v := .int .u8 (z / 16)) rfl (by kernel_rfl) (by kernel_rfl) (by kernel_rfl) (by rfl) (fun w' hw => by go_simp; rw [Int.tdiv_eq_ediv_of_nonneg hzb.1, IntKind.wrap_u8]; omega) hS rfl ?_
      simp only [Act.put, List.setIfInBounds_toArray, List.set_cons_zero, List.set_cons_succ]
      refine hs_take (i := 5) (d := some 14) (v := .int .u8 d1) rfl (by kernel_rfl) (by kernel_rfl) (by kernel_rfl) (by rfl) (fun w' hw => by have hq := ix1 w'; go_simp) hS rfl ?_
      simp only [Act.put, List.setIfInBounds_toArray, List.set_cons_zero, List.set_cons_succ]
      refine hs_take (i := 6) (d := some 15) (v := ?_) rfl (by kernel_rfl) (by kernel_rfl) (by kernel_rfl) (by rfl) ?_ hS rfl ?_
      rotate_left
      · intro w' hw
        go_simp
        try with_reducible rfl
      simp only [Act.put, List.setIfInBounds_toArray, List.set_cons_zero, List.set_cons_succ]
      refine hs_take (i := 7) (d := some 16) (v := ?_) rfl (by kernel_rfl) (by kernel_rfl) (by kernel_rfl) (by rfl) ?_ hS rfl ?_
      rotate_left
      · intro w' hw
        go_simp
        try with_reducible rfl
      simp only [Act.put, List.setIfInBounds_toArray, List.set_cons_zero, List.set_cons_succ]
      refine hs_take (i := 8) (d := some 17) (v := ?_) rfl (by kernel_rfl) (by kernel_rfl) (by kernel_rfl) (by rfl) ?_ hS rfl ?_
      rotate_left
      · intro w' hw
        have hc := hcx w' hw
        go_simp
        try with_reducible rfl
      simp only [Act.put, List.setIfInBounds_toArray, List.set_cons_zero, List.set_cons_succ]
      refine hs_take (i := 9) (d := some 18) (v := .int .u8 (z % 16)) rfl (by kernel_rfl) (by kernel_rfl) (by kernel_rfl) (by rfl) (fun w' hw => by go_simp; exact Int.tmod_eq_emod_of_nonneg hzb.1) hS rfl ?_
      simp only [Act.put, List.setIfInBounds_toArray, List.set_cons_zero, List.set_cons_succ]
      refine hs_take (i := 10) (d := some 19) (v := .int .u8 d2) rfl (by kernel_rfl) (by kernel_rfl) (by kernel_rfl) (by rfl) (fun w' hw => by have hq := ix2 w'; go_simp) hS rfl ?_
      simp only [Act.put, List.setIfInBounds_toArray, List.set_cons_zero, List.set_cons_succ]
      have hS : (Below w1.heap.size w1) (w5.alloc (.cells #[.int .u8 d1, .int .u8 d2] 5)) := hW4.alloc hW4.size _
      refine hs_run (i := 11) (d := some 20) (v := .slice (some ⟨w5.heap.size, 0, none⟩) 2 2) (w' := (w5.alloc (.cells #[.int .u8 d1, .int .u8 d2] 5))) rfl (by kernel_rfl) (by rfl) (by go_simp; try with_reducible rfl) rfl hS ?_
      simp only [Act.put, List.setIfInBounds_toArray, List.set_cons_zero, List.set_cons_succ]
      have hrow6 := info2 d1 d2 w5 g1 g2
      have own6 := owns_below own4 ((Below.refl w5.heap.size w5).alloc (Nat.le_refl _) (.cells #[.int .u8 d1, .int .u8 d2] 5))
      obtain ⟨a7, c7, w7, hr7, hown7, _, _, _, hgr7⟩ := append_bytes (cap := 2) 27 hS.size own6 hok hrow6 (by rw [HLL.out]; simp; omega)
      have hS : (Below w1.heap.size w1) w7 := hS.grown hgr7 hS.size (own_low own6)
      refine hs_run (i := 12) (d := some 21) (v := .slice a7 (hs ++ [d1, d2]).length c7) (w' := w7) rfl (by kernel_rfl) (by rfl) (exec_append rfl rfl rfl hr7) rfl hS ?_
      simp only [Act.put, List.setIfInBounds_toArray, List.set_cons_zero, List.set_cons_succ]
      clear hr7 hgr7 own6 own4 hrow6
      refine hs_take (i := 13) (d := some 3) (v := ?_) rfl (by kernel_rfl) (by kernel_rfl) (by kernel_rfl) (by rfl) ?_ hS rfl ?_
      rotate_left
      · intro w' hw
        go_simp
        try with_reducible rfl
      simp only [Act.put, List.setIfInBounds_toArray, List.set_cons_zero, List.set_cons_succ]
      refine hs_done (by kernel_rfl) ?_
      have hW7 := hS
      go_wp2_with fail
      go_roundw
      case rel =>
        have e : (hs ++ [d1, d2]).length = hs.length + 2 := by simp
        refine ⟨k + 1, by omega, by go_num, ?_, hW7⟩
        rw [HX2.out]
        rw [e] at hown7 ⊢
        exact hown7
      case measure => simp [intOf]; omega
    · have hk' : k = 32 := by omega
      subst hk'
      rw [List.take_of_length_le (by omega)] at hown hok hll
      obtain ⟨a1, c1, rfl, hc1, hm1, hrow1⟩ := own_bytes hown hok (by unfold maxLen; omega)
      have hstr := hrow1.str c1
      obtain ⟨st, hst⟩ : ∃ st, Hid (strOf (hex d) = st) := ⟨_, rfl⟩
      rw [hst.out] at hstr
      generalize (hex d).length = n at *
      clear hown hrow1 hok hll hc1
      go_wp2
      go_ret
      exact ⟨by rw [hst.out]; rfl, hWW⟩
end Go.Proofs.YtkadfmbpajbkiaaDoor
