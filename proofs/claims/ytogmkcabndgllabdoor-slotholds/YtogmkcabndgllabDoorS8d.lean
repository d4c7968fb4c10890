/- SlotHolds: the walk -/
import Derived.Test.YtogmkcabndgllabDoorS8h
namespace Go.Proofs.YtogmkcabndgllabDoor
open Go.RowKit
open Sha Tal
set_option linter.unusedVariables false
set_option maxRecDepth 100000 in
set_option maxHeartbeats 8000000 in
theorem holds_d (view : Int) (b o : Bat) (c : Ce) (w : World) (hG : Glob w) (hb : b.at w) (ho : o.at w) (hc : c.at w) (hk : c.v.k = 1) (h2 : c.v.v = view) (h3 : c.v.d = b.dig) : Calls Tryd.prog 3 #[.int .i64 view, .agg b.cells.toArray, .agg o.cells.toArray, .agg c.cells.toArray] w fun e w' => e = .returned (.bool true) ∧ Below w.heap.size w w' := by
  have hib : (Tryd.prog.info? 24).map (·.size) = some b.cells.length := iszB
  have hio : (Tryd.prog.info? 24).map (·.size) = some o.cells.length := iszB
  go_enter Tryd.func3, Tryd.ntmps3
  go_upto_region 1 with fail
  go_name_world w1 hw1
  obtain ⟨hB1, hrb, hro, hrc, hsz⟩ := box3r hw1
  clear hw1
  have hL := two_bats w1 b o (hb.below hB1) (ho.below hB1)
  have hB2' : Below w1.heap.size w1 (w1.alloc (.cells #[.bool b.q, .slice b.a b.rs.length b.cap, .bool o.q, .slice o.a o.rs.length o.cap] 24)) := (Below.refl _ _).alloc (Nat.le_refl _) _
  have cl := light_any w1.heap.size 2 _ _ hL
  clear hL
  try simp only [Act.put]
  refine wp_region_list ?_
  refine wpList_load_mid rfl 24 _ rfl _ _ rfl [.bool b.q, .slice b.a b.rs.length b.cap] _ hrb Tryd.underlying24 rfl iszB ?_
  refine wpList_load_mid rfl 24 _ rfl _ _ rfl [.bool o.q, .slice o.a o.rs.length o.cap] _ hro Tryd.underlying24 rfl iszB ?_
  simp only [List.length_cons, List.length_nil, Nat.zero_add] at cl
  go_wp2_with fail
  refine cl.mono ?_
  rintro e w3 hcase
  clear cl
  have hrb := range_below hrb hB2' (by omega)
  have hro := range_below hro hB2' (by omega)
  have hrc := range_below hrc hB2' (by omega)
  have hB2 := hB1.trans (hB2'.mono hB1.size)
  have hsz := Nat.le_trans hsz hB2'.size
  clear hB1 hB2'
  generalize w1.alloc (.cells #[.bool b.q, .slice b.a b.rs.length b.cap, .bool o.q, .slice o.a o.rs.length o.cap] 24) = w2 at *
  rcases hcase with ⟨rfl, hw3⟩ | ⟨rfl, hw3, hwt⟩
  · have hB3 := hB2.trans (hw3.mono hB2.size)
    clear hrb hro hrc
    have cL := lives18_any w3 (hG.below hB3)
    go_wp2_with fail
    refine cL.mono ?_
    rintro _ wl ⟨rfl, hBl⟩
    go_wp2_with fail
    go_ret
    exact ⟨rfl, hB3.trans (hBl.mono hB3.size)⟩
  have hrb := range_below hrb hw3 (by omega)
  have hro := range_below hro hw3 (by omega)
  have hrc := range_below hrc hw3 (by omega)
  have hB3 := hB2.trans (hw3.mono hB2.size)
  have hsz := Nat.le_trans hsz hw3.size
  clear hB2 hw3
  have hbl : b.lt := wt_mem (by simp) hwt
  have hol : o.lt := wt_mem (by simp) hwt
  clear hwt
  have c36 : w3.cell? ⟨w.heap.size + 1 + 1, 36, none⟩ = some (.slice c.a c.ss.length c.cap) := by
    have := range_right (show w3.rangeAt (w.heap.size + 1 + 1) 0 (c.v.cells ++ [Value.slice c.a c.ss.length c.cap]) from hrc)
    rw [hc.v.len, Nat.zero_add] at this
    exact this 0 _ rfl
  by_cases hsl : (100 : Int) < (c.ss.length : Int)
  · clear hrb hro hrc
    have cL := lives18_any w3 (hG.below hB3)
    go_wp2_with fail
    refine cL.mono ?_
    rintro _ wl ⟨rfl, hBl⟩
    go_wp2_with fail
    go_ret
    exact ⟨rfl, hB3.trans (hBl.mono hB3.size)⟩
  by_cases hview : view < 0
  · clear hrb hro hrc
    have cL := lives18_any w3 (hG.below hB3)
    go_wp2_with fail
    refine cL.mono ?_
    rintro _ wl ⟨rfl, hBl⟩
    go_wp2_with fail
    go_ret
    exact ⟨rfl, hB3.trans (hBl.mono hB3.size)⟩
  have cA := fun w' (h : Glob w') (k : b.at w') => acc_any sl0 view b w' h (sl0_ok w') k hbl
  rw [acc0 hview b] at cA
  have hbz := fun w' => build_Tslot0 w'
  have l1 : (slA view b).cells.length = 85 := Sl.len ⟨vt0_ok, vt0_ok⟩
  have o1 := all_oneS (slA view b).one
  have p1 : ∀ (w' : World) (Z : Nat), w'.rangeAt Z 0 (slA view b).cells → w'.rangeAt Z 1 b.cells := fun w' Z h => (Sl.parts (s := slA view b) ⟨vt0_ok, vt0_ok⟩ h).b
  have cH := fun w' (h : Glob w') (k : b.at w') (kc : c.at w') => hold_any (slA view b) c w' h (slA_ok k hbl) kc
  have cA2 := fun w' (h : Glob w') (k : b.at w') (ko : o.at w') => acc_any (slA view b) view o w' h (slA_ok k hbl) ko hol
  rw [accA hview] at cA2
  obtain ⟨k0, hk0⟩ : ∃ k0, Hid (sl0.cells = k0) := ⟨_, hide rfl⟩
  have l0 : k0.length = 85 := by rw [← hk0.out]; rfl
  have o0 : k0.toArray.all (·.oneCell') = true := by rw [← hk0.out]; exact all_oneS sl0.one
  simp only [hk0.out] at hbz cA
  rw [holdA, if_neg (by simp [hk]), if_neg (by simp [h2]), if_neg (by simp [h3])] at cH
  have lx : (Sl.cells { slA view b with hb := b, hc := c, ho := true }).length = 85 := Sl.len ⟨hc.v, vt0_ok⟩
  have ox := all_oneS (Sl.one { slA view b with hb := b, hc := c, ho := true })
  obtain ⟨kx, hkx⟩ : ∃ kx, Hid (Sl.cells { slA view b with hb := b, hc := c, ho := true } = kx) := ⟨_, hide rfl⟩
  rw [hkx.out] at lx ox
  simp only [hkx.out] at cH
  have ax : kx.toArray.size = 85 := by simpa using lx
  have ix : (Tryd.prog.info? 39).map (·.size) = some kx.toArray.size := by rw [ax]; exact iszTslot
  have hk2 : (c.v.k == 1) = true := by simpa using hk
  have h22 : (c.v.v == view) = true := by simpa using h2
  have HD := hide h3
  clear hk h2 h3
  obtain ⟨k1, hk1⟩ : ∃ k1, Hid ((slA view b).cells = k1) := ⟨_, hide rfl⟩
  rw [hk1.out] at l1 o1
  simp only [hk1.out] at cA cH cA2 p1
  have a0 : k0.toArray.size = 85 := by simpa using l0
  have a1 : k1.toArray.size = 85 := by simpa using l1
  have i0 : (Tryd.prog.info? 39).map (·.size) = some k0.toArray.size := by rw [a0]; exact iszTslot
  have i1 : (Tryd.prog.info? 39).map (·.size) = some k1.toArray.size := by rw [a1]; exact iszTslot
  have i1' : (Tryd.prog.info? 39).map (·.size) = some k1.length := by rw [l1]; exact iszTslot
  have hzv := fun w' => zero_Tslot w'
  go_wp2_with (first
    | (refine wpList_build rfl 39 [] rfl [] (.agg k0.toArray) rfl (hbz _) ?_)
    | (refine wpList_load_mid rfl 24 _ rfl _ _ rfl b.cells _ hrb Tryd.underlying24 rfl hib ?_))
  refine (cA w3 (hG.below hB3) (hb.below hB3)).mono ?_
  rintro _ w4 ⟨rfl, hB4⟩
  clear cA c36
  have hrb := range_below hrb hB4 (by omega)
  have hro := range_below hro hB4 (by omega)
  have hrc := range_below hrc hB4 (by omega)
  have hz4 := hB4.size
  have hB4 := hB3.trans (hB4.mono hB3.size)
  clear hB3
  go_upto_region 4 with (refine wpList_store_mid rfl 39 _ _ rfl _ 0 k1.toArray rfl rfl (there_newN _ _ _ (by first | exact a1.symm | (rw [a1]; rfl))) i1 o1 ?_)
  go_name_world w5 hw5
  obtain ⟨hB5, hS1, hlt1, -⟩ := box1 hw5 (by first | exact l1 | (rw [l1]; rfl))
  clear hw5
  have hrb := range_below hrb hB5 (by omega)
  have hro := range_below hro hB5 (by omega)
  have hrc := range_below hrc hB5 (by omega)
  have hz5 := hB5.size
  have hB5 := hB4.trans (hB5.mono hB4.size)
  obtain ⟨Y, hY⟩ : ∃ Y, Hid (w4.heap.size = Y) := ⟨_, hide rfl⟩
  rw [hY.out] at hS1 hlt1 hz5
  have hzY : w.heap.size + 3 ≤ Y := by rw [← hY.out]; omega
  try rw [hY.out]
  clear hY hB4 hz4 hsz
  have hS1b := p1 w5 Y hS1
  have csm := same_self b w5 (hb.below hB5)
  try simp only [Act.put]
  refine wp_region_list ?_
  refine wpList_step fun K hK => ?_
  go_simp
  refine hK _ _ ?_
  clear hK K
  refine wpList_step fun K hK => ?_
  go_simp
  refine hK _ _ ?_
  clear hK K
  refine wpList_step fun K hK => ?_
  go_simp
  refine hK _ _ ?_
  clear hK K
  refine wpList_step fun K hK => ?_
  go_simp
  refine hK _ _ ?_
  clear hK K
  refine wpList_load_g (by rfl) 24 _ rfl _ _ rfl b.cells _ hS1b Tryd.underlying24 rfl hib ?_
  refine wpList_load_g (by rfl) 24 _ rfl _ _ rfl b.cells _ hrb Tryd.underlying24 rfl hib ?_
  go_wp2_with fail
  refine csm.mono ?_
  rintro _ w6 ⟨rfl, hB6⟩
  clear csm hS1b
  have hrb := range_below hrb hB6 (by omega)
  have hro := range_below hro hB6 (by omega)
  have hrc := range_below hrc hB6 (by omega)
  have hS1 := range_below hS1 hB6 hlt1
  have hz6 := hB6.size
  have hB6 := hB5.trans (hB6.mono hB5.size)
  clear hB5
  have hic : (Tryd.prog.info? 31).map (·.size) = some c.cells.length := by rw [Ce.len hc.v]; exact iszCe
  go_upto_region 6 with fail
  try simp only [Act.put]
  refine wp_region_list ?_
  refine wpList_load_mid rfl 39 _ rfl _ _ rfl k1 _ hS1 Tryd.underlying39 rfl i1' ?_
  refine wpList_load_mid rfl 31 _ rfl _ _ rfl c.cells _ hrc Tryd.underlying31 rfl hic ?_
  go_wp2_with fail
  refine (cH w6 (hG.below hB6) (hb.below hB6) (hc.below hB6)).mono ?_
  rintro _ w7 ⟨rfl, hB7⟩
  clear cH
  have hrb := range_below hrb hB7 (by omega)
  have hro := range_below hro hB7 (by omega)
  have hrc := range_below hrc hB7 (by omega)
  have hS1 := range_below hS1 hB7 (by omega)
  have hz7 := hB7.size
  have hB7 := hB6.trans (hB7.mono hB6.size)
  clear hB6
  go_upto_region 7 with (refine wpList_store_mid rfl 39 _ _ rfl _ 0 kx.toArray rfl rfl (there_newN _ _ _ (by first | exact ax.symm | (rw [ax]; rfl))) ix ox ?_)
  go_name_world w9 hw9
  obtain ⟨hB9, hS2, hlt2, -⟩ := box1 hw9 (by first | exact lx | (rw [lx]; rfl))
  clear hw9
  have hrb := range_below hrb hB9 (by omega)
  have hro := range_below hro hB9 (by omega)
  have hrc := range_below hrc hB9 (by omega)
  have hS1 := range_below hS1 hB9 (by omega)
  have hz9 := hB9.size
  have hB9 := hB7.trans (hB9.mono hB7.size)
  obtain ⟨X, hX⟩ : ∃ X, Hid (w7.heap.size = X) := ⟨_, hide rfl⟩
  rw [hX.out] at hS2 hlt2 hz9
  have hYX : Y < X := by rw [← hX.out]; omega
  try rw [hX.out]
  clear hX hB7 hz5 hz6 hz7 hlt1
  obtain ⟨w8, hw8⟩ : ∃ w8, w9.drew = w8 := ⟨_, rfl⟩
  have hB8 : Below w9.heap.size w9 w8 := by rw [← hw8]; exact (Below.refl _ _).drew
  have hrb := range_below hrb hB8 (by omega)
  have hro := range_below hro hB8 (by omega)
  have hrc := range_below hrc hB8 (by omega)
  have hS1 := range_below hS1 hB8 (by omega)
  have hS2 := range_below hS2 hB8 hlt2
  have hlt8 : X < w8.heap.size := by have := hB8.size; omega
  have hBB := hB9.trans (hB8.mono hB9.size)
  have hrv : w8.rangeAt (w.heap.size + 1 + 1) 0 c.v.cells := range_left hrc
  obtain ⟨v0, v1, v2, v3⟩ := Vt.four hrv
  have hcd := Vt.dig hrv
  simp only [Nat.zero_add] at v0 v1 v2 v3 hcd
  have hiD : (Tryd.prog.info? 26).map (·.size) = some (v8 c.v.d).length := by rw [v8_length, hc.v.dl]; exact iszD
  have cD := fun w' (h : Below w8.heap.size w8 w') => b.xdig_any w' ((hb.below hBB).below h) hbl
  try simp only [Act.put]
  refine hs_begin (S := (Below w8.heap.size w8)) 20 rfl (by kernel_rfl) ?_
  rw [hw8]
  clear hw8 hB9 hB8 hlt2 hz9
  have hS : (Below w8.heap.size w8) w8 := Below.refl _ _
  refine hs_take (i := 0) (d := some 54) (v := ?_) rfl (by kernel_rfl) (by kernel_rfl) (by kernel_rfl) (by rfl) ?_ hS rfl ?_
  rotate_left
  · intro w' hw
    go_simp
    try with_reducible rfl
  simp only [Act.put, List.setIfInBounds_toArray, List.set_cons_zero, List.set_cons_succ]
  refine hs_take (i := 1) (d := some 55) (v := ?_) rfl (by kernel_rfl) (by kernel_rfl) (by kernel_rfl) (by rfl) ?_ hS rfl ?_
  rotate_left
  · intro w' hw
    go_simp
    try with_reducible rfl
  simp only [Act.put, List.setIfInBounds_toArray, List.set_cons_zero, List.set_cons_succ]
  refine hs_take (i := 2) (d := some 56) (v := ?_) rfl (by kernel_rfl) (by kernel_rfl) (by kernel_rfl) (by rfl) ?_ hS rfl ?_
  rotate_left
  · intro w' hw
    have hq := (hw.cell (p := ⟨w.heap.size + 1 + 1, 0, none⟩) (by show w.heap.size + 1 + 1 < _; omega)).trans v0
    go_simp
    try with_reducible rfl
  simp only [Act.put, List.setIfInBounds_toArray, List.set_cons_zero, List.set_cons_succ]
  refine hs_take (i := 3) (d := some 57) (v := .bool true) rfl (by kernel_rfl) (by kernel_rfl) (by kernel_rfl) (by rfl) (fun w' hw => by go_simp) hS rfl ?_
  simp only [Act.put, List.setIfInBounds_toArray, List.set_cons_zero, List.set_cons_succ]
  refine hs_take (i := 4) (d := some 58) (v := ?_) rfl (by kernel_rfl) (by kernel_rfl) (by kernel_rfl) (by rfl) ?_ hS rfl ?_
  rotate_left
  · intro w' hw
    go_simp
    try with_reducible rfl
  simp only [Act.put, List.setIfInBounds_toArray, List.set_cons_zero, List.set_cons_succ]
  refine hs_take (i := 5) (d := some 59) (v := ?_) rfl (by kernel_rfl) (by kernel_rfl) (by kernel_rfl) (by rfl) ?_ hS rfl ?_
  rotate_left
  · intro w' hw
    go_simp
    try with_reducible rfl
  simp only [Act.put, List.setIfInBounds_toArray, List.set_cons_zero, List.set_cons_succ]
  refine hs_take (i := 6) (d := some 60) (v := ?_) rfl (by kernel_rfl) (by kernel_rfl) (by kernel_rfl) (by rfl) ?_ hS rfl ?_
  rotate_left
  · intro w' hw
    go_simp
    try with_reducible rfl
  simp only [Act.put, List.setIfInBounds_toArray, List.set_cons_zero, List.set_cons_succ]
  refine hs_take (i := 7) (d := some 61) (v := ?_) rfl (by kernel_rfl) (by kernel_rfl) (by kernel_rfl) (by rfl) ?_ hS rfl ?_
  rotate_left
  · intro w' hw
    have hq := (hw.cell (p := ⟨w.heap.size + 1 + 1, 2, none⟩) (by show w.heap.size + 1 + 1 < _; omega)).trans v2
    go_simp
    try with_reducible rfl
  simp only [Act.put, List.setIfInBounds_toArray, List.set_cons_zero, List.set_cons_succ]
  refine hs_take (i := 8) (d := some 62) (v := ?_) rfl (by kernel_rfl) (by kernel_rfl) (by kernel_rfl) (by rfl) ?_ hS rfl ?_
  rotate_left
  · intro w' hw
    go_simp
    try with_reducible rfl
  simp only [Act.put, List.setIfInBounds_toArray, List.set_cons_zero, List.set_cons_succ]
  refine hs_take (i := 9) (d := some 63) (v := .bool true) rfl (by kernel_rfl) (by kernel_rfl) (by kernel_rfl) (by rfl) (fun w' hw => by go_simp) hS rfl ?_
  simp only [Act.put, List.setIfInBounds_toArray, List.set_cons_zero, List.set_cons_succ]
  refine hs_take (i := 10) (d := some 64) (v := ?_) rfl (by kernel_rfl) (by kernel_rfl) (by kernel_rfl) (by rfl) ?_ hS rfl ?_
  rotate_left
  · intro w' hw
    go_simp
    try with_reducible rfl
  simp only [Act.put, List.setIfInBounds_toArray, List.set_cons_zero, List.set_cons_succ]
  refine hs_take (i := 11) (d := some 65) (v := ?_) rfl (by kernel_rfl) (by kernel_rfl) (by kernel_rfl) (by rfl) ?_ hS rfl ?_
  rotate_left
  · intro w' hw
    go_simp
    try with_reducible rfl
  simp only [Act.put, List.setIfInBounds_toArray, List.set_cons_zero, List.set_cons_succ]
  refine hs_take (i := 12) (d := some 66) (v := ?_) rfl (by kernel_rfl) (by kernel_rfl) (by kernel_rfl) (by rfl) ?_ hS rfl ?_
  rotate_left
  · intro w' hw
    go_simp
    try with_reducible rfl
  simp only [Act.put, List.setIfInBounds_toArray, List.set_cons_zero, List.set_cons_succ]
  refine hs_take (i := 13) (d := some 67) (v := ?_) rfl (by kernel_rfl) (by kernel_rfl) (by kernel_rfl) (by rfl) ?_ hS rfl ?_
  rotate_left
  · intro w' hw
    go_simp
    try with_reducible rfl
  simp only [Act.put, List.setIfInBounds_toArray, List.set_cons_zero, List.set_cons_succ]
  refine hs_take (i := 14) (d := some 68) (v := .agg (v8 c.v.d).toArray) rfl (by kernel_rfl) (by kernel_rfl) (by kernel_rfl) (by rfl) (fun w' hw => ex_mid rfl rfl (range_below hcd hw (by omega)) Tryd.underlying26 rfl hiD) hS rfl ?_
  simp only [Act.put, List.setIfInBounds_toArray, List.set_cons_zero, List.set_cons_succ]
  refine hs_take (i := 15) (d := some 69) (v := .agg b.cells.toArray) rfl (by kernel_rfl) (by kernel_rfl) (by kernel_rfl) (by rfl) (fun w' hw => ex_mid rfl rfl (range_below hrb hw (by omega)) Tryd.underlying24 rfl hib) hS rfl ?_
  simp only [Act.put, List.setIfInBounds_toArray, List.set_cons_zero, List.set_cons_succ]
  refine hs_call (i := 16) (d := some 70) rfl (by kernel_rfl) (by rfl) (by go_simp; first | done | exact ⟨rfl, rfl⟩ | with_reducible rfl) rfl ?_
  refine (cD w8 (Below.refl _ _)).mono ?_
  rintro e' wd ⟨rfl, hBd⟩
  have hS : (Below w8.heap.size w8) wd := hBd
  refine ⟨_, rfl, hS, ?_⟩
  simp only [Act.put, List.setIfInBounds_toArray, List.set_cons_zero, List.set_cons_succ]
  refine hs_take (i := 17) (d := some 71) (v := .bool true) rfl (by kernel_rfl) (by kernel_rfl) (by kernel_rfl) (by rfl) (fun w' hw => ex_bin rfl rfl rfl (by kernel_rfl) (by rw [eql_any _ _ hc.v.dl (Bat.dig_len _)]; simp [HD.out])) hS rfl ?_
  simp only [Act.put, List.setIfInBounds_toArray, List.set_cons_zero, List.set_cons_succ]
  refine hs_take (i := 18) (d := some 72) (v := ?_) rfl (by kernel_rfl) (by kernel_rfl) (by kernel_rfl) (by rfl) ?_ hS rfl ?_
  rotate_left
  · intro w' hw
    go_simp
    try with_reducible rfl
  simp only [Act.put, List.setIfInBounds_toArray, List.set_cons_zero, List.set_cons_succ]
  refine hs_take (i := 19) (d := some 13) (v := ?_) rfl (by kernel_rfl) (by kernel_rfl) (by kernel_rfl) (by rfl) ?_ hS rfl ?_
  rotate_left
  · intro w' hw
    go_simp
    try with_reducible rfl
  simp only [Act.put, List.setIfInBounds_toArray, List.set_cons_zero, List.set_cons_succ]
  refine hs_done (by kernel_rfl) ?_
  have hrb := range_below hrb hBd (by omega)
  have hro := range_below hro hBd (by omega)
  have hrc := range_below hrc hBd (by omega)
  have hS1 := range_below hS1 hBd (by omega)
  have hS2 := range_below hS2 hBd (by omega)
  have hBB := hBB.trans (hBd.mono hBB.size)
  have hlt8 : X < wd.heap.size := by have := hBd.size; omega
  clear hBd
  clear hS cD v0 v1 v2 v3 hcd hrv
  have PX := Sl.parts (s := { slA view b with hb := b, hc := c, ho := true }) ⟨hc.v, vt0_ok⟩ (by rw [hkx.out]; exact hS2)
  have x43 : wd.cell? ⟨X, 43, none⟩ = some (.bool true) := PX.ho
  have xb : wd.rangeAt X 4 b.cells := PX.hb
  have xv : wd.rangeAt X 6 c.v.cells := PX.hv
  have hrv : wd.rangeAt (w.heap.size + 1 + 1) 0 c.v.cells := range_left hrc
  have csm := same_self b wd (hb.below hBB)
  clear PX hS2 hkx
  have hiV : (Tryd.prog.info? 28).map (·.size) = some c.v.cells.length := by rw [hc.v.len]; exact iszV
  have hneq : ∀ w : World, (binOp .neq 28 (.agg c.v.cells.toArray) (.agg c.v.cells.toArray)).run Tryd.prog w = .ok (.bool false) w := fun w => by rw [neqV c.v c.v hc.v hc.v]; simp
  go_upto_region 8 with fail
  try simp only [Act.put]
  refine wp_region_list ?_
  refine wpList_step fun K hK => ?_
  go_simp
  refine hK _ _ ?_
  clear hK K
  refine wpList_step fun K hK => ?_
  go_simp
  refine hK _ _ ?_
  clear hK K
  refine wpList_step fun K hK => ?_
  go_simp
  refine hK _ _ ?_
  clear hK K
  refine wpList_step fun K hK => ?_
  go_simp
  refine hK _ _ ?_
  clear hK K
  refine wpList_step fun K hK => ?_
  go_simp
  refine hK _ _ ?_
  clear hK K
  refine wpList_step fun K hK => ?_
  go_simp
  refine hK _ _ ?_
  clear hK K
  refine wpList_step fun K hK => ?_
  go_simp
  refine hK _ _ ?_
  clear hK K
  refine wpList_step fun K hK => ?_
  go_simp
  refine hK _ _ ?_
  clear hK K
  refine wpList_step fun K hK => ?_
  go_simp
  refine hK _ _ ?_
  clear hK K
  refine wpList_step fun K hK => ?_
  go_simp
  refine hK _ _ ?_
  clear hK K
  refine wpList_step fun K hK => ?_
  go_simp
  refine hK _ _ ?_
  clear hK K
  refine wpList_step fun K hK => ?_
  go_simp
  refine hK _ _ ?_
  clear hK K
  refine wpList_step fun K hK => ?_
  go_simp
  refine hK _ _ ?_
  clear hK K
  refine wpList_step fun K hK => ?_
  go_simp
  refine hK _ _ ?_
  clear hK K
  refine wpList_load_g (by rfl) 24 _ rfl _ _ rfl b.cells _ xb Tryd.underlying24 rfl hib ?_
  refine wpList_load_g (by rfl) 24 _ rfl _ _ rfl b.cells _ hrb Tryd.underlying24 rfl hib ?_
  go_wp2_with fail
  refine csm.mono ?_
  rintro _ wf ⟨rfl, hBf⟩
  clear csm x43 xb
  have hrb := range_below hrb hBf (by omega)
  have hro := range_below hro hBf (by omega)
  have hrv := range_below hrv hBf (by omega)
  have xv := range_below xv hBf (by omega)
  have hS1 := range_below hS1 hBf (by omega)
  have hBB := hBB.trans (hBf.mono hBB.size)
  have hlt8 : X < wf.heap.size := by have := hBf.size; omega
  clear hBf
  go_upto_region 10 with (first
    | (refine wpList_load_g (by rfl) 28 _ rfl X 6 rfl c.v.cells _ xv Tryd.underlying28 rfl hiV ?_)
    | (refine wpList_load_g (by rfl) 28 _ rfl (w.heap.size + 1 + 1) 0 rfl c.v.cells _ hrv Tryd.underlying28 rfl hiV ?_))
  try simp only [Act.put]
  refine wp_region_list ?_
  refine wpList_load_mid rfl 39 _ rfl _ _ rfl k1 _ hS1 Tryd.underlying39 rfl i1' ?_
  refine wpList_step fun K hK => ?_
  go_simp
  refine hK _ _ ?_
  clear hK K
  refine wpList_load_mid rfl 24 _ rfl _ _ rfl o.cells _ hro Tryd.underlying24 rfl hio ?_
  have cA3 := cA2 wf (hG.below hBB) (hb.below hBB) (ho.below hBB)
  clear cA2
  have cE := fun w' (h : Below w.heap.size w w') => o.xdig_any w' (ho.below h) hol
  have cF := fun w' (h : Below w.heap.size w w') => b.xdig_any w' (hb.below h) hbl
  have cL := fun w' (h : Below w.heap.size w w') => lives18_any w' (hG.below h)
  by_cases hdd : b.dig = o.dig
  · rw [if_pos hdd, hk1.out] at cA3
    have HE := hide hdd
    clear hdd
    go_wp2_with fail
    refine cA3.mono ?_
    rintro _ wg ⟨rfl, hBg⟩
    clear cA3
    have hrb := range_below hrb hBg (by omega)
    have hro := range_below hro hBg (by omega)
    have hz := hBg.size
    have hBB := hBB.trans (hBg.mono hBB.size)
    clear hBg hS1
    go_upto_region 11 with (refine wpList_store_mid rfl 39 _ _ rfl _ 0 k1.toArray rfl rfl (there_newN _ _ _ (by first | exact a1.symm | (rw [a1]; rfl))) i1 o1 ?_)
    go_name_world wh hwh
    obtain ⟨hBh, -, -, -⟩ := box1 hwh (by first | exact l1 | (rw [l1]; rfl))
    clear hwh
    have hrb := range_below hrb hBh (by omega)
    have hro := range_below hro hBh (by omega)
    have hz2 := hBh.size
    have hBB := hBB.trans (hBh.mono hBB.size)
    clear hBh
    obtain ⟨wz, hwz⟩ : ∃ wz, wh.drew = wz := ⟨_, rfl⟩
    have hBz : Below wh.heap.size wh wz := by rw [← hwz]; exact (Below.refl _ _).drew
    have hrb := range_below hrb hBz (by omega)
    have hro := range_below hro hBz (by omega)
    have hz3 := hBz.size
    have hBB := hBB.trans (hBz.mono hBB.size)
    clear hBz
    try simp only [Act.put]
    refine hs_begin (S := Below wz.heap.size wz) 12 rfl (by kernel_rfl) ?_
    rw [hwz]
    clear hwz
    have hS : (Below wz.heap.size wz) wz := Below.refl _ _
    refine hs_take (i := 0) (d := some 110) (v := ?_) rfl (by kernel_rfl) (by kernel_rfl) (by kernel_rfl) (by rfl) ?_ hS rfl ?_
    rotate_left
    · intro w' hw
      go_simp
      try with_reducible rfl
    simp only [Act.put, List.setIfInBounds_toArray, List.set_cons_zero, List.set_cons_succ]
    refine hs_take (i := 1) (d := some 111) (v := ?_) rfl (by kernel_rfl) (by kernel_rfl) (by kernel_rfl) (by rfl) ?_ hS rfl ?_
    rotate_left
    · intro w' hw
      go_simp
      try with_reducible rfl
    simp only [Act.put, List.setIfInBounds_toArray, List.set_cons_zero, List.set_cons_succ]
    refine hs_take (i := 2) (d := some 112) (v := .agg o.cells.toArray) rfl (by kernel_rfl) (by kernel_rfl) (by kernel_rfl) (by rfl) (fun w' hw => ex_mid rfl rfl (range_below hro hw (by omega)) Tryd.underlying24 rfl hio) hS rfl ?_
    simp only [Act.put, List.setIfInBounds_toArray, List.set_cons_zero, List.set_cons_succ]
    refine hs_take (i := 4) (d := some 114) (v := .agg b.cells.toArray) rfl (by kernel_rfl) (by kernel_rfl) (by kernel_rfl) (by rfl) (fun w' hw => ex_mid rfl rfl (range_below hrb hw (by omega)) Tryd.underlying24 rfl hib) hS rfl ?_
    simp only [Act.put, List.setIfInBounds_toArray, List.set_cons_zero, List.set_cons_succ]
    refine hs_call (i := 3) (d := some 113) rfl (by kernel_rfl) (by rfl) (by go_simp; first | done | exact ⟨rfl, rfl⟩ | with_reducible rfl) rfl ?_
    refine (cE wz hBB).mono ?_
    rintro e' wi ⟨rfl, hBi⟩
    have hS : (Below wz.heap.size wz) wi := hBi
    refine ⟨_, rfl, hS, ?_⟩
    simp only [Act.put, List.setIfInBounds_toArray, List.set_cons_zero, List.set_cons_succ]
    have hBi2 := hBB.trans (hBi.mono hBB.size)
    refine hs_call (i := 5) (d := some 115) rfl (by kernel_rfl) (by rfl) (by go_simp; first | done | exact ⟨rfl, rfl⟩ | with_reducible rfl) rfl ?_
    refine (cF wi hBi2).mono ?_
    rintro e' wj ⟨rfl, hBj⟩
    have hS : (Below wz.heap.size wz) wj := hBi.trans (hBj.mono hBi.size)
    refine ⟨_, rfl, hS, ?_⟩
    simp only [Act.put, List.setIfInBounds_toArray, List.set_cons_zero, List.set_cons_succ]
    have hBj2 := hBi2.trans (hBj.mono hBi2.size)
    refine hs_take (i := 6) (d := some 116) (v := .bool true) rfl (by kernel_rfl) (by kernel_rfl) (by kernel_rfl) (by rfl) (fun w' hw => ex_bin rfl rfl rfl (by kernel_rfl) (by rw [eql_any _ _ (Bat.dig_len _) (Bat.dig_len _)]; simp [HE.out])) hS rfl ?_
    simp only [Act.put, List.setIfInBounds_toArray, List.set_cons_zero, List.set_cons_succ]
    refine hs_take (i := 7) (d := some 117) (v := .bool true) rfl (by kernel_rfl) (by kernel_rfl) (by kernel_rfl) (by rfl) (fun w' hw => by go_simp) hS rfl ?_
    simp only [Act.put, List.setIfInBounds_toArray, List.set_cons_zero, List.set_cons_succ]
    refine hs_take (i := 8) (d := some 118) (v := ?_) rfl (by kernel_rfl) (by kernel_rfl) (by kernel_rfl) (by rfl) ?_ hS rfl ?_
    rotate_left
    · intro w' hw
      go_simp
      try with_reducible rfl
    simp only [Act.put, List.setIfInBounds_toArray, List.set_cons_zero, List.set_cons_succ]
    refine hs_call (i := 9) (d := some 119) rfl (by kernel_rfl) (by rfl) (by go_simp; first | done | exact ⟨rfl, rfl⟩ | with_reducible rfl) rfl ?_
    refine (cL wj hBj2).mono ?_
    rintro e' wk ⟨rfl, hBk⟩
    have hS : (Below wz.heap.size wz) wk := hS.trans (hBk.mono hS.size)
    refine ⟨_, rfl, hS, ?_⟩
    simp only [Act.put, List.setIfInBounds_toArray, List.set_cons_zero, List.set_cons_succ]
    refine hs_take (i := 10) (d := some 120) (v := ?_) rfl (by kernel_rfl) (by kernel_rfl) (by kernel_rfl) (by rfl) ?_ hS rfl ?_
    rotate_left
    · intro w' hw
      go_simp
      try with_reducible rfl
    simp only [Act.put, List.setIfInBounds_toArray, List.set_cons_zero, List.set_cons_succ]
    refine hs_take (i := 11) (d := some 8) (v := ?_) rfl (by kernel_rfl) (by kernel_rfl) (by kernel_rfl) (by rfl) ?_ hS rfl ?_
    rotate_left
    · intro w' hw
      go_simp
      try with_reducible rfl
    simp only [Act.put, List.setIfInBounds_toArray, List.set_cons_zero, List.set_cons_succ]
    refine hs_done (by kernel_rfl) ?_
    have hBk2 := hBj2.trans (hBk.mono hBj2.size)
    go_wp2_with fail
    go_ret
    exact ⟨rfl, hBk2⟩
  · rw [if_neg hdd, hk0.out] at cA3
    have HE := hide hdd
    clear hdd
    go_wp2_with fail
    refine cA3.mono ?_
    rintro _ wg ⟨rfl, hBg⟩
    clear cA3
    have hrb := range_below hrb hBg (by omega)
    have hro := range_below hro hBg (by omega)
    have hz := hBg.size
    have hBB := hBB.trans (hBg.mono hBB.size)
    clear hBg hS1
    go_upto_region 11 with (refine wpList_store_mid rfl 39 _ _ rfl _ 0 k0.toArray rfl rfl (there_newN _ _ _ (by first | exact a0.symm | (rw [a0]; rfl))) i0 o0 ?_)
    go_name_world wh hwh
    obtain ⟨hBh, -, -, -⟩ := box1 hwh (by first | exact l0 | (rw [l0]; rfl))
    clear hwh
    have hrb := range_below hrb hBh (by omega)
    have hro := range_below hro hBh (by omega)
    have hz2 := hBh.size
    have hBB := hBB.trans (hBh.mono hBB.size)
    clear hBh
    obtain ⟨wz, hwz⟩ : ∃ wz, wh.drew = wz := ⟨_, rfl⟩
    have hBz : Below wh.heap.size wh wz := by rw [← hwz]; exact (Below.refl _ _).drew
    have hrb := range_below hrb hBz (by omega)
    have hro := range_below hro hBz (by omega)
    have hz3 := hBz.size
    have hBB := hBB.trans (hBz.mono hBB.size)
    clear hBz
    try simp only [Act.put]
    refine hs_begin (S := Below wz.heap.size wz) 12 rfl (by kernel_rfl) ?_
    rw [hwz]
    clear hwz
    have hS : (Below wz.heap.size wz) wz := Below.refl _ _
    refine hs_take (i := 0) (d := some 110) (v := ?_) rfl (by kernel_rfl) (by kernel_rfl) (by kernel_rfl) (by rfl) ?_ hS rfl ?_
    rotate_left
    · intro w' hw
      go_simp
      try with_reducible rfl
    simp only [Act.put, List.setIfInBounds_toArray, List.set_cons_zero, List.set_cons_succ]
    refine hs_take (i := 1) (d := some 111) (v := ?_) rfl (by kernel_rfl) (by kernel_rfl) (by kernel_rfl) (by rfl) ?_ hS rfl ?_
    rotate_left
    · intro w' hw
      go_simp
      try with_reducible rfl
    simp only [Act.put, List.setIfInBounds_toArray, List.set_cons_zero, List.set_cons_succ]
    refine hs_take (i := 2) (d := some 112) (v := .agg o.cells.toArray) rfl (by kernel_rfl) (by kernel_rfl) (by kernel_rfl) (by rfl) (fun w' hw => ex_mid rfl rfl (range_below hro hw (by omega)) Tryd.underlying24 rfl hio) hS rfl ?_
    simp only [Act.put, List.setIfInBounds_toArray, List.set_cons_zero, List.set_cons_succ]
    refine hs_take (i := 4) (d := some 114) (v := .agg b.cells.toArray) rfl (by kernel_rfl) (by kernel_rfl) (by kernel_rfl) (by rfl) (fun w' hw => ex_mid rfl rfl (range_below hrb hw (by omega)) Tryd.underlying24 rfl hib) hS rfl ?_
    simp only [Act.put, List.setIfInBounds_toArray, List.set_cons_zero, List.set_cons_succ]
    refine hs_call (i := 3) (d := some 113) rfl (by kernel_rfl) (by rfl) (by go_simp; first | done | exact ⟨rfl, rfl⟩ | with_reducible rfl) rfl ?_
    refine (cE wz hBB).mono ?_
    rintro e' wi ⟨rfl, hBi⟩
    have hS : (Below wz.heap.size wz) wi := hBi
    refine ⟨_, rfl, hS, ?_⟩
    simp only [Act.put, List.setIfInBounds_toArray, List.set_cons_zero, List.set_cons_succ]
    have hBi2 := hBB.trans (hBi.mono hBB.size)
    refine hs_call (i := 5) (d := some 115) rfl (by kernel_rfl) (by rfl) (by go_simp; first | done | exact ⟨rfl, rfl⟩ | with_reducible rfl) rfl ?_
    refine (cF wi hBi2).mono ?_
    rintro e' wj ⟨rfl, hBj⟩
    have hS : (Below wz.heap.size wz) wj := hBi.trans (hBj.mono hBi.size)
    refine ⟨_, rfl, hS, ?_⟩
    simp only [Act.put, List.setIfInBounds_toArray, List.set_cons_zero, List.set_cons_succ]
    have hBj2 := hBi2.trans (hBj.mono hBi2.size)
    refine hs_take (i := 6) (d := some 116) (v := .bool false) rfl (by kernel_rfl) (by kernel_rfl) (by kernel_rfl) (by rfl) (fun w' hw => ex_bin rfl rfl rfl (by kernel_rfl) (by rw [eql_any _ _ (Bat.dig_len _) (Bat.dig_len _)]; simp [Ne.symm HE.out])) hS rfl ?_
    simp only [Act.put, List.setIfInBounds_toArray, List.set_cons_zero, List.set_cons_succ]
    refine hs_take (i := 7) (d := some 117) (v := .bool true) rfl (by kernel_rfl) (by kernel_rfl) (by kernel_rfl) (by rfl) (fun w' hw => by go_simp) hS rfl ?_
    simp only [Act.put, List.setIfInBounds_toArray, List.set_cons_zero, List.set_cons_succ]
    refine hs_take (i := 8) (d := some 118) (v := ?_) rfl (by kernel_rfl) (by kernel_rfl) (by kernel_rfl) (by rfl) ?_ hS rfl ?_
    rotate_left
    · intro w' hw
      go_simp
      try with_reducible rfl
    simp only [Act.put, List.setIfInBounds_toArray, List.set_cons_zero, List.set_cons_succ]
    refine hs_call (i := 9) (d := some 119) rfl (by kernel_rfl) (by rfl) (by go_simp; first | done | exact ⟨rfl, rfl⟩ | with_reducible rfl) rfl ?_
    refine (cL wj hBj2).mono ?_
    rintro e' wk ⟨rfl, hBk⟩
    have hS : (Below wz.heap.size wz) wk := hS.trans (hBk.mono hS.size)
    refine ⟨_, rfl, hS, ?_⟩
    simp only [Act.put, List.setIfInBounds_toArray, List.set_cons_zero, List.set_cons_succ]
    refine hs_take (i := 10) (d := some 120) (v := ?_) rfl (by kernel_rfl) (by kernel_rfl) (by kernel_rfl) (by rfl) ?_ hS rfl ?_
    rotate_left
    · intro w' hw
      go_simp
      try with_reducible rfl
    simp only [Act.put, List.setIfInBounds_toArray, List.set_cons_zero, List.set_cons_succ]
    refine hs_take (i := 11) (d := some 8) (v := ?_) rfl (by kernel_rfl) (by kernel_rfl) (by kernel_rfl) (by rfl) ?_ hS rfl ?_
    rotate_left
    · intro w' hw
      go_simp
      try with_reducible rfl
    simp only [Act.put, List.setIfInBounds_toArray, List.set_cons_zero, List.set_cons_succ]
    refine hs_done (by kernel_rfl) ?_
    have hBk2 := hBj2.trans (hBk.mono hBj2.size)
    go_wp2_with fail
    go_ret
    exact ⟨rfl, hBk2⟩
end Go.Proofs.YtogmkcabndgllabDoor
