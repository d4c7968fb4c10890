/- request.Put: the contract the document's Put of a request: the contract request.Get: its contract. The law RequestBack: its walk. -/
import Derived.Test.YtinpbnkmpplkiaaDoorJRn
namespace Go.Proofs.YtinpbnkmpplkiaaDoor
open Go.RowKit
open Sha Tal
set_option maxRecDepth 100000 in
set_option maxHeartbeats 2000000 in
theorem rput_any (a : Option Addr) (cap : Nat) (zs : List Int) (c n : Int) (s : ByteArray) (t : List Int) (w : World) (h : RowAt w a zs) (hz : zs.length ≤ 1000000) (ht : t.length = 16) (htb : ∀ z ∈ t, 0 ≤ z ∧ z < 256) (hc : c ≤ 9223372036854775807) (hn : n ≤ 9223372036854775807) (hs : s.size ≤ 1000000) :
   Calls Tryd.prog 64 #[.slice a zs.length cap, .agg (reqL c n s t).toArray] w fun e w' => ∃ v, e = .returned v ∧ Mine w' w.heap.size v (zs ++ (putL c ++ putL n ++ textL s) ++ t) ∧ Below w.heap.size w w' := by
  obtain ⟨i0, hi, hz0, hz1, hz2⟩ := info_parts info8
  have hB1 : Below w.heap.size w (w.alloc (.cells (reqL c n s t).toArray 60)) := (Below.refl _ _).alloc (Nat.le_refl _) _
  have hR1 := req_cells w c n s t
  have hz1' : w.heap.size < (w.alloc (.cells (reqL c n s t).toArray 60)).heap.size := by simp
  have hiq : (Tryd.prog.info? 60).map (·.size) = some (reqL c n s t).length := by rw [reqL_length c n s t ht]; exact iszR
  have cf := fun w0 => fields_any none 0 [] c n s t w0 (nil_row w0) (by simp) hc hn hs
  simp only [List.nil_append, List.length_nil] at cf
  have htg := fun (w0 : World) (b0 : Nat) h1 => @reqL_tag w0 b0 c n s t h1
  have lF : (putL c ++ putL n ++ textL s).length ≤ 1000100 := by
    have h1 := putL_length c (by omega)
    have h2 := putL_length n (by omega)
    have h3 := putL_length s.size (by omega)
    simp only [textL, List.length_append, strL_length]
    omega
  obtain ⟨F, hF⟩ : ∃ F, Hid (putL c ++ putL n ++ textL s = F) := ⟨_, hide rfl⟩
  simp only [hF.out] at cf
  rw [hF.out] at lF ⊢
  obtain ⟨q, hq⟩ : ∃ q, Hid (reqL c n s t = q) := ⟨_, hide rfl⟩
  rw [hq.out] at hB1 hR1 hz1' hiq ⊢
  simp only [hq.out] at cf htg
  go_enter Tryd.func64, Tryd.ntmps64
  go_upto_region 1 with fail
  go_name_world w1 hw1
  rw [hw1] at hB1 hR1 hz1'
  clear hw1
  obtain ⟨X, hX⟩ : ∃ X, Hid (w.heap.size = X) := ⟨_, hide rfl⟩
  rw [hX.out] at hR1 hz1' ⊢
  try simp only [Act.put]
  refine wp_region_list ?_
  refine wpList_load_mid rfl 60 _ rfl _ _ rfl q _ hR1 Tryd.underlying60 rfl hiq ?_
  go_wp2_with fail
  refine (cf w1).mono ?_
  rintro e w2 ⟨v2, rfl, m2, hw2⟩
  have hB2 := hB1.trans (hw2.mono hB1.size)
  have hR2 := range_below hR1 hw2 hz1'
  have hX2 := Nat.lt_of_lt_of_le hz1' hw2.size
  obtain ⟨a2, cap2, rfl, _, _, row2⟩ := m2.rowAt (by unfold maxLen; omega)
  have mF := m2.2
  clear cf m2 hw2 hB1 hR1 hz1'
  go_wp2_with (first
    | refine wpList_make_own _ rfl _ _ 39 rfl w2.heap.size 5 i0 (.int .u8 0) 1 Tryd.underlying39 hi hz0 hz1 .i64 .i64 _ (zs.length + F.length + 16) rfl rfl ?d1 ?d2 ?d3 ?d4 ?_)
  case d1 => omega
  case d2 => rw [hz2]; omega
  case d3 => unfold maxLen; omega
  case d4 => exact Nat.le_refl _
  intro w3 hown3 hgrow3
  have hb3 : Below w2.heap.size w2 w3 := (Below.refl _ _).grown hgrow3 (Nat.le_refl _) (fun k hk => by cases hk)
  go_wp2_with (at_builtin; refine wpList_append_own_src _ rfl _ _ 39 39 rfl w2.heap.size 5 i0 (.int .u8 0) 1 1 Tryd.underlying39 hi hz0 hz1 hz2 rfl _ 0 [] rfl hown3 (.slice a zs.length cap) zs.length (v8 zs) rfl ((h.below (hB2.trans (hb3.mono hB2.size))).src cap) ?c1 ?c2 ?c3 ?_)
  case c1 => unfold maxLen; omega
  case c2 => omega
  case c3 => exact hb3.size
  intro v4 w4 hown4 hgrow4
  have hb4 := below_grown hb3 hb3.size hown3 hgrow4
  have hown4' : w4.ownsRow w2.heap.size 5 1 v4 zs.length (v8 zs) := by simpa using hown4
  obtain ⟨b4, cp4, rfl⟩ : ∃ b cp, v4 = .slice b zs.length cp := by
    rcases hown4'.2 with ⟨rfl, h0⟩ | ⟨g, cp, cur, rfl, _⟩
    · exact ⟨none, 0, by rw [h0]⟩
    · exact ⟨_, _, rfl⟩
  clear hown3 hgrow3 hown4 hgrow4 hb3
  go_wp2_with (at_builtin; refine wpList_append_own_src _ rfl _ _ 39 39 rfl w2.heap.size 5 i0 (.int .u8 0) 1 1 Tryd.underlying39 hi hz0 hz1 hz2 rfl _ zs.length (v8 zs) rfl hown4' (.slice a2 F.length cap2) F.length (v8 F) rfl ((row2.below hb4).src cap2) ?c1 ?c2 ?c3 ?_)
  case c1 => unfold maxLen; omega
  case c2 => omega
  case c3 => exact hb4.size
  intro v5 w5 hown5 hgrow5
  have hb5 := below_grown hb4 hb4.size hown4' hgrow5
  obtain ⟨b5, cp5, rfl⟩ : ∃ b cp, v5 = .slice b (zs.length + F.length) cp := by
    rcases hown5.2 with ⟨rfl, h0⟩ | ⟨g, cp, cur, rfl, _⟩
    · exact ⟨none, 0, by rw [h0]⟩
    · exact ⟨_, _, rfl⟩
  have hR5 := htg w5 X (range_below hR2 hb5 hX2)
  have hX5 := Nat.lt_of_lt_of_le hX2 hb5.size
  have rowT : RowAt w5 (some ⟨X, 3, none⟩) t := ⟨by unfold maxLen; omega, htb, Or.inr ⟨X, 3, rfl, hX5, hR5⟩⟩
  have srcT := rowT.src 16
  rw [ht] at srcT
  have hsl := fun w0 => slice_all (P := Tryd.prog) Tryd.underlying58 isz8 X 3 (by decide) w0
  clear hown4' hgrow5 hb4 row2 hR2
  go_wp2_with (at_builtin; refine wpList_append_own_src _ rfl _ _ 39 39 rfl w2.heap.size 5 i0 (.int .u8 0) 1 1 Tryd.underlying39 hi hz0 hz1 hz2 rfl _ (zs.length + F.length) (v8 zs ++ v8 F) rfl hown5 (.slice (some ⟨X, 3, none⟩) 16 16) 16 (v8 t) rfl srcT ?c1 ?c2 ?c3 ?_)
  case c1 => unfold maxLen; omega
  case c2 => omega
  case c3 => exact hb5.size
  intro v6 w6 hown6 hgrow6
  have hb6 := below_grown hb5 hb5.size hown5 hgrow6
  go_wp2_with fail
  go_ret
  refine ⟨_, rfl, ?_, hB2.trans (hb6.mono hB2.size)⟩
  have hm := Mine.mk' (zs ++ F ++ t) hown6 (by simp [ht]; omega) (by simp [v8]) (by
    intro z hz'
    rcases List.mem_append.1 hz' with hz' | hz'
    · rcases List.mem_append.1 hz' with hz' | hz'
      · exact h.2.1 z hz'
      · exact mF z hz'
    · exact htb z hz')
  exact hm.mono' hB2.size
end Go.Proofs.YtinpbnkmpplkiaaDoor
namespace Go.Proofs.YtinpbnkmpplkiaaDoor
open Go.RowKit
open Sha Tal
set_option maxRecDepth 100000 in
set_option maxHeartbeats 2000000 in
theorem refRPut_any (a : Option Addr) (cap : Nat) (zs : List Int) (c n : Int) (s : ByteArray) (t : List Int) (w : World) (h : RowAt w a zs) (hz : zs.length ≤ 1000000) (ht : t.length = 16) (htb : ∀ z ∈ t, 0 ≤ z ∧ z < 256) (hc : c ≤ 9223372036854775807) (hn : n ≤ 9223372036854775807) (hs : s.size ≤ 100000) :
   Calls Tryd.prog 45 #[.slice a zs.length cap, .agg (reqL c n s t).toArray] w fun e w' => ∃ v, e = .returned v ∧ Mine w' w.heap.size v (zs ++ (putL c ++ putL n ++ textL s) ++ t) ∧ Below w.heap.size w w' := by
  obtain ⟨i0, hi, hz0, hz1, hz2⟩ := info_parts info8
  have hB1 : Below w.heap.size w (w.alloc (.cells (reqL c n s t).toArray 60)) := (Below.refl _ _).alloc (Nat.le_refl _) _
  have hR1 := req_cells w c n s t
  have hz1' : w.heap.size < (w.alloc (.cells (reqL c n s t).toArray 60)).heap.size := by simp
  have hq0 := fun (w0 : World) (b0 : Nat) h0 => @reqL_0 w0 b0 c n s t h0
  have htg := fun (w0 : World) (b0 : Nat) h1 => @reqL_tag w0 b0 c n s t h1
  have l1 := putL_length c (by omega)
  have l2 := putL_length n (by omega)
  have l3 := putL_length s.size (by omega)
  have c1 := fun w0 h0 => refPut_any a cap zs c w0 h0 (by omega) hc
  have c2 := fun a0 cap0 w0 h0 => refPut_any a0 cap0 (zs ++ putL c) n w0 h0 (by rw [List.length_append]; omega) hn
  have c3 := fun a0 cap0 w0 h0 => refPutText_any a0 cap0 (zs ++ putL c ++ putL n) s w0 h0 (by rw [List.length_append, List.length_append]; omega) (by omega)
  have e1 : (zs ++ putL c).length ≤ 1000100 := by rw [List.length_append]; omega
  have e2 : (zs ++ putL c ++ putL n).length ≤ 1000200 := by rw [List.length_append, List.length_append]; omega
  have e3 : (zs ++ putL c ++ putL n ++ textL s).length ≤ 2000000 := by simp only [textL, List.length_append, strL_length]; omega
  obtain ⟨L1, hL1⟩ : ∃ L1, Hid (zs ++ putL c = L1) := ⟨_, hide rfl⟩
  simp only [hL1.out] at c1 c2 c3
  rw [hL1.out] at e1 e2 e3
  obtain ⟨L2, hL2⟩ : ∃ L2, Hid (L1 ++ putL n = L2) := ⟨_, hide rfl⟩
  simp only [hL2.out] at c2 c3
  rw [hL2.out] at e2 e3
  obtain ⟨L3, hL3⟩ : ∃ L3, Hid (L2 ++ textL s = L3) := ⟨_, hide rfl⟩
  simp only [hL3.out] at c3
  rw [hL3.out] at e3
  clear l1 l2 l3
  obtain ⟨q, hq⟩ : ∃ q, Hid (reqL c n s t = q) := ⟨_, hide rfl⟩
  rw [hq.out] at hB1 hR1 hz1' ⊢
  simp only [hq.out] at hq0 htg
  go_enter Tryd.func45, Tryd.ntmps45
  go_upto_region 1 with fail
  go_name_world w1 hw1
  rw [hw1] at hB1 hR1 hz1'
  clear hw1
  obtain ⟨X, hX⟩ : ∃ X, Hid (w.heap.size = X) := ⟨_, hide rfl⟩
  rw [hX.out] at hR1 hz1' ⊢
  have hB4 := hB1.drew
  have hR4 : w1.drew.rangeAt X 0 q := (World.rangeAt_drew _ _ _ _).2 hR1
  have hX4 : X < w1.drew.heap.size := hz1'
  clear hB1 hR1 hz1'
  try simp only [Act.put]
  obtain ⟨w5, hw5⟩ : ∃ w5, w1.drew = w5 := ⟨_, rfl⟩
  rw [hw5] at hB4 hR4 hX4
  refine hs_begin (S := (Below w5.heap.size w5)) 11 rfl (by kernel_rfl) ?_
  rw [hw5]
  clear hw5
  have hS : (Below w5.heap.size w5) w5 := Below.refl _ _
  have qc : ∀ w', Below w5.heap.size w5 w' → w'.cell? ⟨X, 0, none⟩ = some (.int .i64 c) := fun w' hw' => (hq0 w' X (range_below hR4 hw' hX4)).1
  have qn : ∀ w', Below w5.heap.size w5 w' → w'.cell? ⟨X, 1, none⟩ = some (.int .i64 n) := fun w' hw' => (hq0 w' X (range_below hR4 hw' hX4)).2.1
  have qs : ∀ w', Below w5.heap.size w5 w' → w'.cell? ⟨X, 2, none⟩ = some (.string s) := fun w' hw' => (hq0 w' X (range_below hR4 hw' hX4)).2.2
  refine hs_take (i := 0) (d := some 6) (v := ?_) rfl (by kernel_rfl) (by kernel_rfl) (by kernel_rfl) (by rfl) ?_ hS rfl ?_
  rotate_left
  · intro w' hw
    go_simp
    try with_reducible rfl
  simp only [Act.put, List.setIfInBounds_toArray, List.set_cons_zero, List.set_cons_succ]
  refine hs_take (i := 1) (d := some 7) (v := ?_) rfl (by kernel_rfl) (by kernel_rfl) (by kernel_rfl) (by rfl) ?_ hS rfl ?_
  rotate_left
  · intro w' hw
    go_simp
    try with_reducible rfl
  simp only [Act.put, List.setIfInBounds_toArray, List.set_cons_zero, List.set_cons_succ]
  refine hs_take (i := 2) (d := some 8) (v := ?_) rfl (by kernel_rfl) (by kernel_rfl) (by kernel_rfl) (by rfl) ?_ hS rfl ?_
  rotate_left
  · intro w' hw
    have h := qc w' hw
    go_simp
    try with_reducible rfl
  simp only [Act.put, List.setIfInBounds_toArray, List.set_cons_zero, List.set_cons_succ]
  refine hs_take (i := 4) (d := some 10) (v := ?_) rfl (by kernel_rfl) (by kernel_rfl) (by kernel_rfl) (by rfl) ?_ hS rfl ?_
  rotate_left
  · intro w' hw
    go_simp
    try with_reducible rfl
  simp only [Act.put, List.setIfInBounds_toArray, List.set_cons_zero, List.set_cons_succ]
  refine hs_take (i := 5) (d := some 11) (v := ?_) rfl (by kernel_rfl) (by kernel_rfl) (by kernel_rfl) (by rfl) ?_ hS rfl ?_
  rotate_left
  · intro w' hw
    have h := qn w' hw
    go_simp
    try with_reducible rfl
  simp only [Act.put, List.setIfInBounds_toArray, List.set_cons_zero, List.set_cons_succ]
  refine hs_take (i := 7) (d := some 13) (v := ?_) rfl (by kernel_rfl) (by kernel_rfl) (by kernel_rfl) (by rfl) ?_ hS rfl ?_
  rotate_left
  · intro w' hw
    go_simp
    try with_reducible rfl
  simp only [Act.put, List.setIfInBounds_toArray, List.set_cons_zero, List.set_cons_succ]
  refine hs_take (i := 8) (d := some 14) (v := ?_) rfl (by kernel_rfl) (by kernel_rfl) (by kernel_rfl) (by rfl) ?_ hS rfl ?_
  rotate_left
  · intro w' hw
    have h := qs w' hw
    go_simp
    try with_reducible rfl
  simp only [Act.put, List.setIfInBounds_toArray, List.set_cons_zero, List.set_cons_succ]
  refine hs_call (i := 3) (d := some 9) rfl (by kernel_rfl) (by rfl) (by go_simp; first | done | exact ⟨rfl, rfl⟩ | with_reducible rfl) rfl ?_
  refine (c1 w5 (h.below hB4)).mono ?_
  rintro e' w6 ⟨v1, rfl, m1, hw6⟩
  have hS : (Below w5.heap.size w5) w6 := hS.trans (hw6.mono hS.size)
  refine ⟨_, rfl, hS, ?_⟩
  simp only [Act.put, List.setIfInBounds_toArray, List.set_cons_zero, List.set_cons_succ]
  obtain ⟨a1, cap1, rfl, _, _, row1⟩ := m1.rowAt (by unfold maxLen; omega)
  clear m1 c1
  refine hs_call (i := 6) (d := some 12) rfl (by kernel_rfl) (by rfl) (by go_simp; first | done | exact ⟨rfl, rfl⟩ | with_reducible rfl) rfl ?_
  refine (c2 a1 cap1 w6 row1).mono ?_
  rintro e' w7 ⟨v2, rfl, m2, hw7⟩
  have hS : (Below w5.heap.size w5) w7 := hS.trans (hw7.mono hS.size)
  refine ⟨_, rfl, hS, ?_⟩
  simp only [Act.put, List.setIfInBounds_toArray, List.set_cons_zero, List.set_cons_succ]
  obtain ⟨a2, cap2, rfl, _, _, row2⟩ := m2.rowAt (by unfold maxLen; omega)
  clear m2 c2 row1
  refine hs_call (i := 9) (d := some 15) rfl (by kernel_rfl) (by rfl) (by go_simp; first | done | exact ⟨rfl, rfl⟩ | with_reducible rfl) rfl ?_
  refine (c3 a2 cap2 w7 row2).mono ?_
  rintro e' w8 ⟨v3, rfl, m3, hw8⟩
  have hS : (Below w5.heap.size w5) w8 := hS.trans (hw8.mono hS.size)
  refine ⟨_, rfl, hS, ?_⟩
  simp only [Act.put, List.setIfInBounds_toArray, List.set_cons_zero, List.set_cons_succ]
  have hB8 := hB4.trans (hS.mono hB4.size)
  have hm8 := m3.mono' (B' := X + 1) (by have := hw6.size; have := hw7.size; omega)
  have hR8 := htg w8 X (range_below hR4 hS hX4)
  have hX8 := Nat.lt_of_lt_of_le hX4 hS.size
  clear c3 row2 m3 hw7 hw8
  refine hs_take (i := 10) (d := some 0) (v := ?_) rfl (by kernel_rfl) (by kernel_rfl) (by kernel_rfl) (by rfl) ?_ hS rfl ?_
  rotate_left
  · intro w' hw
    go_simp
    try with_reducible rfl
  simp only [Act.put, List.setIfInBounds_toArray, List.set_cons_zero]
  refine hs_done (by kernel_rfl) ?_
  clear hS qc qn qs hq0 hR4 hX4 hB4 hw6
  have eL : Hid (L3 = zs ++ (putL c ++ putL n ++ textL s)) := by show _ = _; rw [← hL3.out, ← hL2.out, ← hL1.out]; simp
  have hwX : w.heap.size ≤ X := by rw [hX.out]; exact Nat.le_refl _
  obtain ⟨a3, cap3, rfl⟩ : ∃ a cp, v3 = .slice a L3.length cp := by
    rcases hm8.1.2 with ⟨rfl, h0⟩ | ⟨g, cp, cur, rfl, _⟩
    · exact ⟨none, 0, by rw [h0]⟩
    · exact ⟨_, _, rfl⟩
  go_wp2_with fail
  go_loopw [0, 5] (fun v kv wr => ∃ k : Nat, k ≤ 16 ∧ kv = .int .i64 (k : Int) ∧ Mine wr (X + 1) v (L3 ++ t.take k) ∧ Below (X + 1) w8 wr) (fun _ kv _ => 16 - (intOf kv).toNat)
  case atStart => exact ⟨0, by omega, rfl, by simpa using hm8, Below.refl _ _⟩
  case round =>
    clear hm8
    obtain ⟨k, hk, rfl, hm, hB⟩ := hrel
    have lk : (L3 ++ t.take k).length ≤ 2000100 := by rw [List.length_append, List.length_take]; omega
    by_cases hlt : k < 16
    · have hkt : k < t.length := by omega
      have hR := range_below hR8 hB (by omega)
      have hcx := get8 hR hkt
      have hbx := htb _ (List.getElem_mem hkt)
      have hnx : Hid (L3 ++ t.take (k + 1) = (L3 ++ t.take k) ++ [t[k]]) := by show _ = _; rw [List.take_succ_eq_append_getElem hkt, List.append_assoc]
      have egd : t.getD k 0 = t[k] := by rw [List.getD_eq_getElem?_getD, List.getElem?_eq_getElem hkt]; rfl
      rw [egd] at hcx
      clear egd
      generalize t[k] = x at *
      obtain ⟨M, hM⟩ : ∃ M, Hid (L3 ++ t.take k = M) := ⟨_, hide rfl⟩
      rw [hM.out] at hm hnx lk
      obtain ⟨am, cm, rfl⟩ : ∃ a cp, u0 = .slice a M.length cp := by
        rcases hm.1.2 with ⟨rfl, h0⟩ | ⟨g, cp, cur, rfl, _⟩
        · exact ⟨none, 0, by rw [h0]⟩
        · exact ⟨_, _, rfl⟩
      have hsz := hB.size
      have hsrc : Src Tryd.prog 1 39 (.slice (some ⟨wr.heap.size, 0, none⟩) 1 1) 1 [.int .u8 x] (wr.alloc (.cells #[.int .u8 x] 5)) := Src.ofSlice _ Tryd.underlying39 ⟨wr.heap.size, 0, none⟩ 1 1 [.int .u8 x] (by simp) (fun j u hu => by rw [Addr.add_mid]; exact range_new wr #[.int .u8 x] 5 j u hu) (fun u hu => by obtain rfl := List.mem_singleton.1 hu; rfl)
      have hown := owns_below hm.1 ((Below.refl wr.heap.size wr).alloc (Nat.le_refl _) (.cells #[.int .u8 x] 5))
      go_wp2_with (at_builtin; refine wpList_append_own_src _ rfl _ _ 39 39 rfl (X + 1) 5 i0 (.int .u8 0) 1 1 Tryd.underlying39 hi hz0 hz1 hz2 rfl _ M.length _ rfl hown _ 1 _ rfl hsrc ?c1 ?c2 ?c3 ?_)
      case c1 => unfold maxLen; omega
      case c2 => omega
      case c3 => simp; omega
      intro v6 w6 hown6 hgr6
      have hB6 : Below (X + 1) w8 w6 := below_grown (hB.alloc (by omega) _) (by simp; omega) hown hgr6
      have hm6 := Mine.mk' (M ++ [x]) hown6 (by simp) (by simp) (by
        intro z hz'
        rcases List.mem_append.1 hz' with hz' | hz'
        · exact hm.2 z hz'
        · obtain rfl := List.mem_singleton.1 hz'; exact hbx)
      obtain ⟨a6, c6, rfl⟩ : ∃ a cp, v6 = .slice a (M ++ [x]).length cp := by
        rcases hm6.1.2 with ⟨rfl, h0⟩ | ⟨g, cp, cur, rfl, _⟩
        · exact ⟨none, 0, by rw [h0]⟩
        · exact ⟨_, _, rfl⟩
      go_wp2_with fail
      go_roundw
      case rel => exact ⟨k + 1, by omega, by go_num, by rw [hnx.out]; exact hm6, hB6⟩
      case measure => simp [intOf]; omega
    · obtain rfl : k = 16 := by omega
      have hfin : Hid (L3 ++ t.take 16 = zs ++ (putL c ++ putL n ++ textL s) ++ t) := by show _ = _; rw [List.take_of_length_le (by omega), eL.out]
      rw [hfin.out] at hm
      have hmf := hm.mono' (B' := w.heap.size) (by omega)
      go_wp2_with fail
      go_ret
      exact ⟨_, rfl, hmf, hB8.trans (hB.mono (by omega))⟩
end Go.Proofs.YtinpbnkmpplkiaaDoor
namespace Go.Proofs.YtinpbnkmpplkiaaDoor
open Go.RowKit
open Sha Tal
theorem gb_onR {w W W' : World} {R B : Nat} (h : w.grownBy W (some R)) (hb : Below B W W') (hB : w.heap.size ≤ B) : w.grownBy W' (some R) :=
  ⟨hb.os.trans h.os, hb.tape.trans h.tape, hb.output.trans h.output, Nat.le_trans h.size hb.size, fun i hi hr => (hb.block i (by omega)).trans (h.block i hi hr)⟩
theorem gb_setsR (W : World) (b : Nat) : ∀ (vs : List Value) (o : Nat), W.grownBy (W.setCells b o vs) (some b) := by
  intro vs
  induction vs generalizing W with
  | nil => intro o; exact gb_refl _ _
  | cons v vs ih => intro o; exact gb_trans (gb_set W b o v) (ih _ (o + 1))
theorem range_gbR {w w' : World} {R b : Nat} {cs : List Value} (h : w.rangeAt b 0 cs) (hg : w.grownBy w' (some R)) (hb : b < w.heap.size) (hne : b ≠ R) : w'.rangeAt b 0 cs := fun j v hv => by
  rw [(@cell_block w w' b (0 + j) (hg.block b hb (by intro q; injection q with q; exact hne q))).1]
  exact h j v hv
theorem there_gbR {w w' : World} {R b n : Nat} (h : w.there b 0 n) (hg : w.grownBy w' (some R)) (hb : b < w.heap.size) (hne : b ≠ R) : w'.there b 0 n := fun j hj => by
  have hk := @cell_block w w' b (0 + j) (hg.block b hb (by intro q; injection q with q; exact hne q))
  exact ⟨by rw [hk.1]; exact (h j hj).1, by rw [hk.2]; exact (h j hj).2⟩
/-- the request that is read, and the answer's memory ahead of it -/
structure GS (w : World) (R : Nat) (q : List Value) (W : World) : Prop where
  row : W.rangeAt (w.heap.size + 1) 0 q
  box : W.there (w.heap.size + 1) 0 19
  ans : W.there w.heap.size 0 19
  grown : w.grownBy W (some R)
  size : w.heap.size + 2 ≤ W.heap.size
theorem GS.gb {w W W' : World} {R : Nat} {q : List Value} (h : GS w R q W) (hR : R < w.heap.size) (hg : W.grownBy W' (some R)) : GS w R q W' := by
  have hs := h.size
  exact ⟨range_gbR h.row hg (by omega) (by omega), there_gbR h.box hg (by omega) (by omega), there_gbR h.ans hg (by omega) (by omega), gb_trans h.grown hg, Nat.le_trans hs hg.size⟩
theorem GS.set {w W : World} {R : Nat} {q : List Value} (h : GS w R q W) (i : Nat) (v : Value) : GS w R (q.set i v) (W.setCell ⟨w.heap.size + 1, i, none⟩ v) := by
  have hr := range_set h.row i v
  rw [Nat.zero_add] at hr
  exact ⟨hr, there_set h.box _ _, there_set h.ans _ _, gb_onR h.grown ((Below.refl w.heap.size W).setCell (p := ⟨w.heap.size + 1, i, none⟩) (by show w.heap.size ≤ w.heap.size + 1; omega) v) (Nat.le_refl _), by have := h.size; simp [World.setCell]; exact this⟩
theorem GS.drew {w W : World} {R : Nat} {q : List Value} (h : GS w R q W) : GS w R q W.drew :=
  ⟨(World.rangeAt_drew _ _ _ _).2 h.row, h.box, h.ans, gb_onR h.grown (Below.refl w.heap.size W).drew (Nat.le_refl _), h.size⟩
theorem GS.tag {w W : World} {R : Nat} {c n : Int} {s : ByteArray} {z t : List Int} (h : GS w R (reqL c n s z) W) (ht : t.length = 16) : GS w R (reqL c n s t) (W.setCells (w.heap.size + 1) 3 (v8 t)) := by
  have e1 : reqL c n s z = [.int .i64 c, .int .i64 n, .string s] ++ v8 z := rfl
  have e2 : reqL c n s t = [.int .i64 c, .int .i64 n, .string s] ++ v8 t := rfl
  have hr := h.row
  rw [e1] at hr
  have h1 := World.rangeAt_setCells_apart (range_left hr) (w.heap.size + 1) 3 (v8 t) (.inr (.inl (by simp)))
  have h2 := World.rangeAt_setCells_same W (w.heap.size + 1) 3 (v8 t) (by rw [v8_length, ht]; exact fun j hj => h.box (3 + j) (by omega) |> fun q => by simpa using q)
  refine ⟨by rw [e2]; exact range_join h1 h2, World.there_setCells h.box _ _ _, World.there_setCells h.ans _ _ _, gb_onR h.grown (below_sets (by omega) _ 3 _ (Below.refl w.heap.size W)) (Nat.le_refl _), by rw [size_sets]; exact h.size⟩
theorem exec_copy {P : Program} {o : Oper} {a : Act} {w w' : World} {s x : Operand} {t tx : TypeId} {v xv v' : Value} (ho : o.op = .call { callee := .builtin .copy, args := #[s, x], argTypes := #[t, tx] }) (hv : a.eval s = v) (hx : a.eval x = xv)
    (hr : (Builtin.copy_ #[t, tx] o.type #[v, xv]).run P w = .ok v' w') : (execOp a.eval o).run P w = .ok (.value v') w' := by
  unfold execOp
  simp only [ho, resolve, invoke, builtin, Sem.run_bind, Sem.run_pure, Result.andThen_ok, List.map_toArray, List.map_cons, List.map_nil, hv, hx, hr]
theorem numS_len (rest : List Int) (e most : Int) : (numS rest e most).2.1.length ≤ rest.length := by
  unfold numS
  split
  · split
    · split
      · exact Nat.le_refl _
      · show (rest.drop _).length ≤ _; rw [List.length_drop]; omega
    · exact Nat.le_refl _
  · exact Nat.le_refl _
theorem textS_len (rest : List Int) (e most : Int) : (textS rest e most).2.1.length ≤ rest.length := by
  have h := numS_len rest e 9223372036854775807
  unfold textS
  split
  · split
    · exact Nat.le_refl _
    · split
      · exact Nat.le_refl _
      · show ((numS rest e 9223372036854775807).2.1.drop _).length ≤ _; rw [List.length_drop]; omega
  · exact Nat.le_refl _
theorem rawS_16 (rest : List Int) (e : Int) : ((rawS rest e 16).1.length = 16 ∨ (rawS rest e 16).1 = []) ∧ ((rawS rest e 16).2.2 = 0 → (rawS rest e 16).1.length = 16) := by
  unfold rawS
  split
  · rename_i he
    rw [if_neg (by decide)]
    split
    · exact ⟨.inr rfl, fun h => by cases h⟩
    · have : (rest.take (16 : Int).toNat).length = 16 := by rw [List.length_take]; show min 16 rest.length = 16; omega
      exact ⟨.inl this, fun _ => this⟩
  · rename_i he
    exact ⟨.inr rfl, fun h => absurd h he⟩
theorem noReq_copy {w W : World} {R : Nat} {c n : Int} {s : ByteArray} {t : List Int} {a : Option Addr} {cap : Nat} (h : GS w R (reqL c n s zeros16) W) (hrow : RowAt W a t) (ht : t.length = 16 ∨ t = []) :
    ∃ W' z, (Builtin.copy_ #[39, 39] 3 #[.slice (some ⟨w.heap.size + 1, 3, none⟩) 16 16, .slice a t.length cap]).run Tryd.prog W = .ok (goInt t.length) W' ∧ GS w R (reqL c n s z) W' ∧ z.length = 16 ∧ (t.length = 16 → z = t) ∧ Below w.heap.size W W' ∧ W.grownBy W' (some (w.heap.size + 1)) := by
  rcases ht with ht | rfl
  · rcases hrow.2.2 with rfl | ⟨b, off, rfl, hb, hr⟩
    · cases ht
    · refine ⟨W.setCells (w.heap.size + 1) 3 (v8 t), t, ?_, h.tag ht, ht, fun _ => rfl, below_sets (by omega) _ 3 _ (Below.refl _ _), gb_setsR _ _ _ _⟩
      have := run_copy_cells (P := Tryd.prog) W 39 39 3 5 (w.heap.size + 1) 3 16 16 ⟨b, off, none⟩ t.length cap (v8 t) Tryd.underlying39 isz8 (by rw [v8_length, ht]; rfl) (fun j v hv => by rw [Addr.add_mid]; exact hr j v hv) (fun j hj => by rw [v8_length] at hj; have := h.box (3 + j) (by omega); rw [Nat.zero_add] at this; exact this.1) (fun j hj => by rw [v8_length] at hj; have := h.box (3 + j) (by omega); rw [Nat.zero_add] at this; exact this.2) (v8_one _)
      rw [v8_length] at this
      exact this
  · exact ⟨W, zeros16, run_copy_none (P := Tryd.prog) W 39 39 3 5 _ a 16 16 0 cap Tryd.underlying39 isz8 rfl, h, rfl, fun h => absurd h (by decide), Below.refl _ _, gb_refl _ _⟩
structure GotR where
  c : Int
  n : Int
  s : List Int
  t : List Int
  rest : List Int
  err : Int
def rgetR (rest : List Int) (e : Int) : GotR :=
  let x1 := numS rest e 8
  let x2 := numS x1.2.1 x1.2.2 1099511627776
  let x3 := textS x2.2.1 x2.2.2 64
  let x4 := rawS x3.2.1 x3.2.2 16
  ⟨x1.1, x2.1, x3.1, x4.1, x4.2.1, x4.2.2⟩
def rgetL (g : GotR) : List Value := if g.err = 0 then reqL g.c g.n (strOf g.s) g.t else noReq
set_option maxRecDepth 100000 in
set_option maxHeartbeats 4000000 in
theorem rget_any (R : Nat) (rest : List Int) (e : Int) (w : World) (h : St w R rest e) (hl : rest.length ≤ 5000) :
    Calls Tryd.prog 51 #[.pointer (some ⟨R, 0, none⟩)] w fun en w' => en = .returned (.agg (rgetL (rgetR rest e)).toArray) ∧ St w' R (rgetR rest e).rest (rgetR rest e).err ∧ w.grownBy w' (some R) := by
  have hRw := h.1.1
  obtain ⟨G, hG⟩ : ∃ G, Hid (rgetR rest e = G) := ⟨_, rfl⟩
  rw [hG.out]
  have k0 := hG.out
  unfold rgetR at k0
  simp only at k0
  clear hG
  have l1 := numS_len rest e 8
  have c1 := fun w0 h0 => num_any R rest e 8 w0 h0
  obtain ⟨v1, hv1⟩ : ∃ x, Hid ((numS rest e 8).1 = x) := ⟨_, rfl⟩
  obtain ⟨r1, hr1⟩ : ∃ x, Hid ((numS rest e 8).2.1 = x) := ⟨_, rfl⟩
  obtain ⟨e1, he1⟩ : ∃ x, Hid ((numS rest e 8).2.2 = x) := ⟨_, rfl⟩
  simp only [hv1.out, hr1.out, he1.out] at k0 l1 c1
  have l2 := numS_len r1 e1 1099511627776
  have c2 := fun w0 h0 => num_any R r1 e1 1099511627776 w0 h0
  obtain ⟨v2, hv2⟩ : ∃ x, Hid ((numS r1 e1 1099511627776).1 = x) := ⟨_, rfl⟩
  obtain ⟨r2, hr2⟩ : ∃ x, Hid ((numS r1 e1 1099511627776).2.1 = x) := ⟨_, rfl⟩
  obtain ⟨e2, he2⟩ : ∃ x, Hid ((numS r1 e1 1099511627776).2.2 = x) := ⟨_, rfl⟩
  simp only [hv2.out, hr2.out, he2.out] at k0 l2 c2
  have l3 := textS_len r2 e2 64
  have c3 := fun w0 h0 hp => text_any R r2 e2 64 w0 h0 hp
  obtain ⟨v3, hv3⟩ : ∃ x, Hid ((textS r2 e2 64).1 = x) := ⟨_, rfl⟩
  obtain ⟨r3, hr3⟩ : ∃ x, Hid ((textS r2 e2 64).2.1 = x) := ⟨_, rfl⟩
  obtain ⟨e3, he3⟩ : ∃ x, Hid ((textS r2 e2 64).2.2 = x) := ⟨_, rfl⟩
  simp only [hv3.out, hr3.out, he3.out] at k0 l3 c3
  have f4 := rawS_16 r3 e3
  have c4 := fun w0 h0 => raw_any R r3 e3 16 w0 h0 (by omega)
  obtain ⟨v4, hv4⟩ : ∃ x, Hid ((rawS r3 e3 16).1 = x) := ⟨_, rfl⟩
  obtain ⟨r4, hr4⟩ : ∃ x, Hid ((rawS r3 e3 16).2.1 = x) := ⟨_, rfl⟩
  obtain ⟨e4, he4⟩ : ∃ x, Hid ((rawS r3 e3 16).2.2 = x) := ⟨_, rfl⟩
  simp only [hv4.out, hr4.out, he4.out] at k0 f4 c4
  obtain ⟨hv4l, hv4e⟩ := f4
  have G1 : Hid (rgetL G = if e4 = 0 then reqL v1 v2 (strOf v3) v4 else noReq) := hide (by rw [← k0]; rfl)
  have G2 : Hid (G.rest = r4) := hide (by rw [← k0])
  have G3 : Hid (G.err = e4) := hide (by rw [← k0])
  clear k0 hv1 hr1 he1 hv2 hr2 he2 hv3 hr3 he3 hv4 hr4 he4 l1 l2 l3 hl
  generalize strOf v3 = sv at *
  have hb1 : Below w.heap.size w (w.alloc (.cells noReq.toArray 60)) := (Below.refl _ _).alloc (Nat.le_refl _) _
  have ht1 := there_new w noReq.toArray 60
  have hz1 : (w.alloc (.cells noReq.toArray 60)).heap.size = w.heap.size + 1 := World.size_alloc _ _
  have hb2 : Below (w.alloc (.cells noReq.toArray 60)).heap.size (w.alloc (.cells noReq.toArray 60)) ((w.alloc (.cells noReq.toArray 60)).alloc (.cells noReq.toArray 60)) := (Below.refl _ _).alloc (Nat.le_refl _) _
  have ht2 := there_new (w.alloc (.cells noReq.toArray 60)) noReq.toArray 60
  have hr2 := range_new (w.alloc (.cells noReq.toArray 60)) noReq.toArray 60
  have hz2 : ((w.alloc (.cells noReq.toArray 60)).alloc (.cells noReq.toArray 60)).heap.size = w.heap.size + 2 := by rw [World.size_alloc, hz1]
  rw [hz1] at ht2 hr2
  have hb12 : Below w.heap.size w ((w.alloc (.cells noReq.toArray 60)).alloc (.cells noReq.toArray 60)) := hb1.trans (hb2.mono hb1.size)
  have gs0 : GS w R noReq ((w.alloc (.cells noReq.toArray 60)).alloc (.cells noReq.toArray 60)) := ⟨by simpa using hr2, ht2, there_below ht1 hb2 (by omega), gb_below hb12 _, by omega⟩
  have s0 := h.below hb12
  clear hb1 ht1 hb2 ht2 hr2 hb12 hz1 hz2 h
  go_enter Tryd.func51, Tryd.ntmps51
  go_upto_region 2 with fail
  obtain ⟨w1, hw1⟩ : ∃ w1, (w.alloc (.cells noReq.toArray 60)).alloc (.cells noReq.toArray 60) = w1 := ⟨_, rfl⟩
  rw [hw1] at gs0 s0
  rw [litReq, hw1]
  clear hw1
  try simp only [Act.put]
  have hsz := gs0.size
  go_wp2_with fail
  refine (c1 w1 s0).mono ?_
  rintro en w2 ⟨rfl, s2, g2⟩
  have gs2 := gs0.gb hRw g2
  clear c1 gs0 s0 g2 hsz
  have hq : w2.cell? ⟨w.heap.size + 1, 0, none⟩ = some (.int .i64 0) := gs2.row 0 _ rfl
  have hf : w2.frozen? ⟨w.heap.size + 1, 0, none⟩ = false := (gs2.box 0 (by decide)).2
  have gs3 := gs2.set 0 (.int .i64 v1)
  have s3 := s2.gb (gb_set w2 (w.heap.size + 1) 0 (.int .i64 v1)) (by omega)
  go_wp2_with fail
  obtain ⟨w3, hw3⟩ : ∃ w3, w2.setCell ⟨w.heap.size + 1, 0, none⟩ (.int .i64 v1) = w3 := ⟨_, rfl⟩
  rw [hw3] at gs3 s3 ⊢
  clear hw3 gs2 s2 hq hf
  refine (c2 w3 s3).mono ?_
  rintro en w4 ⟨rfl, s4, g4⟩
  have gs4 := gs3.gb hRw g4
  clear c2 gs3 s3 g4
  have hq : w4.cell? ⟨w.heap.size + 1, 1, none⟩ = some (.int .i64 0) := gs4.row 1 _ rfl
  have hf : w4.frozen? ⟨w.heap.size + 1, 1, none⟩ = false := (gs4.box 1 (by decide)).2
  have gs5 := gs4.set 1 (.int .i64 v2)
  have s5 := s4.gb (gb_set w4 (w.heap.size + 1) 1 (.int .i64 v2)) (by omega)
  go_wp2_with fail
  obtain ⟨w5, hw5⟩ : ∃ w5, w4.setCell ⟨w.heap.size + 1, 1, none⟩ (.int .i64 v2) = w5 := ⟨_, rfl⟩
  rw [hw5] at gs5 s5 ⊢
  clear hw5 gs4 s4 hq hf
  refine (c3 w5 s5 s5.pos).mono ?_
  rintro en w6 ⟨rfl, s6, g6⟩
  have gs6 := gs5.gb hRw g6
  clear c3 gs5 s5 g6
  have hq : w6.cell? ⟨w.heap.size + 1, 2, none⟩ = some (.string ⟨#[]⟩) := gs6.row 2 _ rfl
  have hf : w6.frozen? ⟨w.heap.size + 1, 2, none⟩ = false := (gs6.box 2 (by decide)).2
  have gs7 : GS w R (reqL v1 v2 sv zeros16) (w6.setCell ⟨w.heap.size + 1, 2, none⟩ (.string sv)) := gs6.set 2 (.string sv)
  have s7 := s6.gb (gb_set w6 (w.heap.size + 1) 2 (.string sv)) (by omega)
  go_wp2_with fail
  obtain ⟨w7, hw7⟩ : ∃ w7, w6.setCell ⟨w.heap.size + 1, 2, none⟩ (.string sv) = w7 := ⟨_, rfl⟩
  rw [hw7] at gs7 s7 ⊢
  clear hw7 gs6 s6 hq hf
  obtain ⟨w8, hw8⟩ : ∃ w8, w7.drew = w8 := ⟨_, rfl⟩
  refine hs_begin (S := (fun _ => True)) 5 rfl (by kernel_rfl) ?_
  have gs8 : GS w R (reqL v1 v2 sv zeros16) w8 := by rw [← hw8]; exact gs7.drew
  have s8 : St w8 R r3 e3 := by rw [← hw8]; exact s7.below (Below.refl _ _).drew
  rw [hw8]
  clear hw8 gs7 s7
  have hS : (fun _ => True) w8 := trivial
  refine hs_take (i := 0) (d := some 13) (v := ?_) rfl (by kernel_rfl) (by kernel_rfl) (by kernel_rfl) (by rfl) ?_ hS rfl ?_
  rotate_left
  · intro w' hw
    go_simp
    try with_reducible rfl
  simp only [Act.put, List.setIfInBounds_toArray, List.set_cons_zero, List.set_cons_succ]
  refine hs_take (i := 1) (d := some 14) (v := .slice (some ⟨w.heap.size + 1, 3, none⟩) 16 16) rfl (by kernel_rfl) (by kernel_rfl) (by kernel_rfl) (by rfl) (fun w' hw => by have hsl := slice_all (P := Tryd.prog) Tryd.underlying58 isz8 (w.heap.size + 1) 3 (by decide) w'; go_simp) hS rfl ?_
  simp only [Act.put, List.setIfInBounds_toArray, List.set_cons_zero, List.set_cons_succ]
  refine hs_take (i := 2) (d := some 15) (v := ?_) rfl (by kernel_rfl) (by kernel_rfl) (by kernel_rfl) (by rfl) ?_ hS rfl ?_
  rotate_left
  · intro w' hw
    go_simp
    try with_reducible rfl
  simp only [Act.put, List.setIfInBounds_toArray, List.set_cons_zero, List.set_cons_succ]
  refine hs_call (i := 3) (d := some 16) rfl (by kernel_rfl) (by rfl) (by go_simp; first | done | exact ⟨rfl, rfl⟩ | with_reducible rfl) rfl ?_
  refine (c4 w8 s8).mono ?_
  rintro e' w9 ⟨v9, rfl, m9, s9, g9⟩
  have hS : (fun _ => True) w9 := trivial
  refine ⟨_, rfl, hS, ?_⟩
  simp only [Act.put, List.setIfInBounds_toArray, List.set_cons_zero, List.set_cons_succ]
  have gs9 := gs8.gb hRw g9
  obtain ⟨a9, cap9, rfl, _, _, row9⟩ := m9.rowAt (by unfold maxLen; rcases hv4l with q | q <;> (first | omega | (rw [q]; decide)))
  clear c4 gs8 s8 g9 m9
  obtain ⟨w10, z, hcp, gs10, hz16, hzt, hb10, hg10⟩ := noReq_copy (cap := cap9) gs9 row9 hv4l
  have s10 := s9.gb hg10 (by omega)
  have hS : (fun _ => True) w10 := trivial
  refine hs_run (i := 4) (d := some 17) (v := goInt v4.length) (w' := w10) rfl (by kernel_rfl) (by rfl) (exec_copy rfl rfl rfl hcp) rfl hS ?_
  simp only [Act.put, List.setIfInBounds_toArray, List.set_cons_zero, List.set_cons_succ]
  refine hs_done (by kernel_rfl) ?_
  clear hcp gs9 s9 hb10 hg10 row9
  have ce := err_made R e4 w10 s10.1
  go_wp2_with fail
  refine ce.mono ?_
  rintro en w11 ⟨rfl, hx⟩
  obtain rfl := hx
  clear ce
  have hi := iszN
  have ho := all_oneCell_toArray (reqL_one 0 0 ⟨#[]⟩ zeros16)
  have hszz := gs10.size
  by_cases he : e4 = 0
  · subst he
    have hzv := hzt (hv4e rfl)
    subst hzv
    have E1 : Hid (rgetL G = reqL v1 v2 sv z) := hide (by rw [G1.out, if_pos rfl])
    have hiq : (Tryd.prog.info? 60).map (·.size) = some (reqL v1 v2 sv z).length := by rw [reqL_length _ _ _ _ hz16]; exact iszR
    have hoq := all_oneCell_toArray (reqL_one v1 v2 sv z)
    have hiq' : (Tryd.prog.info? 60).map (·.size) = some (reqL v1 v2 sv z).toArray.size := by rw [List.size_toArray]; exact hiq
    obtain ⟨q, hq⟩ : ∃ q, Hid (reqL v1 v2 sv z = q) := ⟨_, rfl⟩
    have hql : q.length = 19 := by rw [← hq.out]; exact reqL_length _ _ _ _ hz16
    rw [hq.out] at E1 hiq hoq hiq'
    have hrow : w11.rangeAt (w.heap.size + 1) 0 q := by rw [← hq.out]; exact gs10.row
    have hans : w11.there w.heap.size 0 q.toArray.size := by have := gs10.ans; rw [← hql] at this; exact this
    clear hv4l hv4e hzt
    have hrs := run_loadVar_mid (P := Tryd.prog) (w11.setCells w.heap.size 0 q) w.heap.size 0 60 q _ (World.rangeAt_setCells_same w11 w.heap.size 0 q (by have := hans; simpa using this)) Tryd.underlying60 rfl hiq
    have gf := gb_onR gs10.grown (below_sets (B := w.heap.size) (b := w.heap.size) (Nat.le_refl _) q 0 _ (Below.refl _ w11)) (Nat.le_refl _)
    have sf := s10.gb (gb_setsR w11 w.heap.size q 0) hRw
    clear gs10 s10
    go_wp2_with (first | refine wpList_load_mid (op := ⟨some 22, .load 60 (.tmp 3), _, _, _, none⟩) rfl 60 _ rfl _ _ rfl q _ hrow Tryd.underlying60 rfl hiq ?_ | refine wpList_store_mid (op := ⟨none, .store 60 (.tmp 2) (.tmp 22), _, _, _, none⟩) rfl 60 _ _ rfl _ _ q.toArray rfl rfl hans hiq' hoq ?_)
    refine bodyPost_ret (v := .agg q.toArray) ?_ rfl ?_
    · simp [results, Tryd.results51, Act.put, asAddr, hrs]
    · exact ⟨by rw [E1.out], by rw [G2.out, G3.out]; exact sf, gf⟩
  · have E1 : Hid (rgetL G = noReq) := hide (by rw [G1.out, if_neg he])
    have hnl : noReq.length = 19 := rfl
    have hans : w11.there w.heap.size 0 noReq.toArray.size := gs10.ans
    have hi' : (Tryd.prog.info? 60).map (·.size) = some noReq.length := by simpa using hi
    have hlit := litReq
    obtain ⟨q, hq⟩ : ∃ q, Hid (noReq = q) := ⟨_, rfl⟩
    have ho : (noReq.toArray.all fun x => x.oneCell') = true := ho
    rw [hq.out] at E1 hi ho hnl hans hi' hlit
    have hrs := run_loadVar_mid (P := Tryd.prog) (w11.setCells w.heap.size 0 q) w.heap.size 0 60 q _ (World.rangeAt_setCells_same w11 w.heap.size 0 q (by have := hans; simpa using this)) Tryd.underlying60 rfl hi'
    have gf := gb_onR gs10.grown (below_sets (B := w.heap.size) (b := w.heap.size) (Nat.le_refl _) q 0 _ (Below.refl _ w11)) (Nat.le_refl _)
    have sf := s10.gb (gb_setsR w11 w.heap.size q 0) hRw
    clear gs10 s10 hv4l hv4e hzt
    go_wp2_with (refine wpList_store_mid (op := ⟨none, .store 60 (.tmp 2) (.tmp 21), _, _, _, none⟩) rfl 60 _ _ rfl _ _ q.toArray rfl (by rw [← hlit]; rfl) hans hi ho ?_)
    refine bodyPost_ret (v := .agg q.toArray) ?_ rfl ?_
    · simp [results, Tryd.results51, Act.put, asAddr, hrs]
    · exact ⟨by rw [E1.out], by rw [G2.out, G3.out]; exact sf, gf⟩
end Go.Proofs.YtinpbnkmpplkiaaDoor
namespace Go.Proofs.YtinpbnkmpplkiaaDoor
open Go.RowKit
open Sha Tal
theorem strOf_strL (s : ByteArray) : strOf (strL s) = s := by
  unfold strOf strL
  rw [foldl_push_byteCells]
  cases s; simp
namespace Tal
theorem head_digs (n : Nat) (h0 : 0 < n) (h : n < 2 ^ 63) : (digs n).head? ≠ some 0 := by
  obtain ⟨_, b, c⟩ := wid_bounds 8 n h (by omega)
  obtain ⟨c1, c2⟩ := c h0
  have hg := digK_get (wid n) n 0 c1
  have hl := digs_length n
  unfold digs at hl ⊢
  cases hd : digK (wid n) n with
  | nil => simp
  | cons x tl =>
    rw [hd] at hg
    have hg' : x = ((n / 256 ^ (wid n - 1 - 0) % 256 : Nat) : Int) := hg
    rw [Nat.sub_zero] at hg'
    have hlt : n / 256 ^ (wid n - 1) < 256 := by
      rw [Nat.div_lt_iff_lt_mul (Nat.pow_pos (by omega)), Nat.mul_comm, ← Nat.pow_succ]
      have e : (wid n - 1).succ = wid n := by omega
      rw [e]; exact b
    have hpos : 0 < n / 256 ^ (wid n - 1) := Nat.div_pos c2 (Nat.pow_pos (by omega))
    rw [Nat.mod_eq_of_lt hlt] at hg'
    intro hc
    simp only [List.head?_cons, Option.some.injEq] at hc
    omega
theorem numR_back (n : Nat) (h : n < 2 ^ 63) (more : List Int) : numR (numB n ++ more) = ((n : Int), 1 + wid n, 0) := by
  have hw := wid_le n h
  have hv := val_digs n h
  have ht : (digs n ++ more).take (wid n) = digs n := by rw [List.take_append_of_le_length (by rw [digs_length]; exact Nat.le_refl _), List.take_of_length_le (by rw [digs_length]; exact Nat.le_refl _)]
  have hh : ¬ ((digs n).head? = some 0 ∨ 9223372036854775807 < val (digs n)) := by
    rw [hv]
    by_cases h0 : n = 0
    · subst h0; rw [digs_zero]; simp
    · intro hc
      rcases hc with hc | hc
      · exact head_digs n (by omega) h hc
      · omega
  have e : valR (digs n) = ((n : Int), 0) := by unfold valR; rw [if_neg hh, hv]
  have e0 : numB n ++ more = (wid n : Int) :: (digs n ++ more) := rfl
  rw [e0]
  simp only [numR]
  rw [if_neg (by omega), if_neg (by rw [List.length_append, digs_length]; omega), Int.toNat_natCast, ht, e]
  simp
theorem numS_back (x most : Int) (h0 : 0 ≤ x) (h1 : x ≤ 9223372036854775807) (hm : x ≤ most) (more : List Int) : numS (putL x ++ more) 0 most = (x, more, 0) := by
  have e : putL x = numB x.toNat := by unfold putL; rw [if_neg (by omega)]
  have hr := numR_back x.toNat (by omega) more
  have hx : ((x.toNat : Nat) : Int) = x := by omega
  rw [hx] at hr
  have hd : (numB x.toNat ++ more).drop (1 + wid x.toNat) = more := by
    have : (numB x.toNat).length = 1 + wid x.toNat := by simp only [numB, List.length_cons, digs_length]; omega
    rw [← this, List.drop_append_of_le_length (Nat.le_refl _)]; simp
  unfold numS
  rw [e, hr, if_pos rfl, if_pos rfl, if_neg (by omega), hd]
end Tal
theorem textS_back (s : ByteArray) (most : Int) (hs : s.size ≤ 1099511627) (hm : (s.size : Int) ≤ most) (more : List Int) : textS (textL s ++ more) 0 most = (strL s, more, 0) := by
  have e : textL s ++ more = putL (s.size : Int) ++ (strL s ++ more) := by unfold textL; rw [List.append_assoc]
  have hn := numS_back (s.size : Int) 9223372036854775807 (by omega) (by omega) (by omega) (strL s ++ more)
  unfold textS
  rw [e, hn]
  simp only [Int.toNat_natCast]
  rw [if_pos trivial, if_neg (by omega), if_neg (by rw [List.length_append, strL_length]; omega)]
  have hl := strL_length s
  rw [List.take_append_of_le_length (by omega), List.take_of_length_le (by omega), List.drop_append_of_le_length (by omega), List.drop_of_length_le (by omega), List.nil_append]

theorem gb_belowR {B : Nat} {w W W' : World} {R : Nat} (h : Below B w W) (hg : W.grownBy W' (some R)) (hB : B ≤ R) (hW : B ≤ W.heap.size) : Below B w W' :=
  ⟨hg.os.trans h.os, hg.tape.trans h.tape, hg.output.trans h.output, Nat.le_trans h.size hg.size, fun k hk => (hg.block k (by omega) (by intro q; injection q with q; omega)).trans (h.block k hk)⟩
theorem rget_back (c n : Int) (s : ByteArray) (t tail : List Int) (hc : 0 ≤ c ∧ c < 8) (hn : 1 ≤ n ∧ n ≤ 1099511627776) (hs : s.size ≤ 64) (ht : t.length = 16) : rgetR (putL c ++ putL n ++ textL s ++ t ++ tail) 0 = ⟨c, n, strL s, t, tail, 0⟩ := by
  have e1 : numS (putL c ++ putL n ++ textL s ++ t ++ tail) 0 8 = (c, putL n ++ (textL s ++ (t ++ tail)), 0) := by
    rw [List.append_assoc, List.append_assoc, List.append_assoc]
    exact numS_back c 8 (by omega) (by omega) (by omega) _
  have e2 := numS_back n 1099511627776 (by omega) (by omega) (by omega) (textL s ++ (t ++ tail))
  have e3 := textS_back s 64 (by omega) (by omega) (t ++ tail)
  have e4 : rawS (t ++ tail) 0 16 = (t, tail, 0) := by
    unfold rawS
    rw [if_pos rfl, if_neg (by decide), if_neg (by rw [List.length_append, ht]; omega)]
    show ((t ++ tail).take 16, (t ++ tail).drop 16, (0 : Int)) = _
    rw [← ht, List.take_left, List.drop_left]
  unfold rgetR
  simp only [e1, e2, e3, e4]
theorem goodV_0 {ds : List (List Int)} {N m c n : Int} {s : ByteArray} {t : List Int} (h : goodV ds N m c n s t = 0) : 0 ≤ c ∧ c < m ∧ 1 ≤ n ∧ n ≤ 1099511627776 ∧ s.size ≤ 64 := by
  unfold goodV at h
  split at h
  · cases h
  · split at h
    · cases h
    · rename_i h2; exact Classical.not_not.1 h2
end Go.Proofs.YtinpbnkmpplkiaaDoor
