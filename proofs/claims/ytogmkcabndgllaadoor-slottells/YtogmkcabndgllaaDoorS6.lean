/- slot.Known of what is decided; raddlelaw18.light -/
import Derived.Test.YtogmkcabndgllaaDoorSM
namespace Go.Proofs.YtogmkcabndgllaaDoor
open Go.RowKit
open Sha Tal
set_option linter.unusedVariables false
set_option maxRecDepth 100000 in
set_option maxHeartbeats 4000000 in
theorem known_a (s : Sl) (d : List Int) (hd : d.length = 32) (w : World) (hG : Glob w) (hs : s.ok w) (hde : s.de = true) (he : s.eb.dig = d) : Calls Tryd.prog 16 #[.agg s.cells.toArray, .agg (v8 d).toArray] w fun e w' => e = .returned (.tuple #[.agg s.eb.cells.toArray, .bool true]) ∧ Below w.heap.size w w' := by
  have hv := hs.vok
  have h85 : s.cells.length = 85 := Sl.len hv
  have hieb : (Tryd.prog.info? 24).map (·.size) = some s.eb.cells.length := iszB
  have hieb2 : (Tryd.prog.info? 24).map (·.size) = some s.eb.cells.toArray.size := iszB
  have heo := all_oneS s.eb.one
  have hiD : (Tryd.prog.info? 26).map (·.size) = some (v8 d).length := by rw [v8_length, hd]; exact iszD
  have HD := hide he
  clear he
  go_enter Tryd.func16, Tryd.ntmps16
  go_upto_region 1 with fail
  go_name_world w1 hw1
  obtain ⟨hB1, hr1, ht1, hr2, hT1, hsz⟩ := box3 hw1
  clear hw1
  have hT1 : w1.there (w.heap.size + 1 + 1) 0 s.eb.cells.toArray.size := hT1
  rw [h85] at ht1
  have hA : SlAt w1 w.heap.size s := ⟨by omega, ht1, hr1⟩
  obtain ⟨w8, hw8⟩ : ∃ w8, w1.drew = w8 := ⟨_, rfl⟩
  have hB8 : Below w1.heap.size w1 w8 := by rw [← hw8]; exact (Below.refl _ _).drew
  have hA8 := hA.below hB8
  have P8 := hA8.parts hv
  have hr8 := range_below hr2 hB8 (by omega)
  have hT8 := there_below hT1 hB8 (by omega)
  have hBB : Below w.heap.size w w8 := hB1.trans (hB8.mono hB1.size)
  have hz8 : w.heap.size + 3 ≤ w8.heap.size := by have := hB8.size; omega
  have c84 := P8.de
  rw [hde] at c84
  have c1 := s.eb.dig_any w8 (hG.below hBB) (hs.eb.below hBB) hs.ebl
  try simp only [Act.put]
  refine hs_begin (S := (Below w8.heap.size w8)) 11 rfl (by kernel_rfl) ?_
  rw [hw8]
  clear hw8
  have hS : (Below w8.heap.size w8) w8 := Below.refl _ _
  refine hs_take (i := 0) (d := some 7) (v := ?_) rfl (by kernel_rfl) (by kernel_rfl) (by kernel_rfl) (by rfl) ?_ hS rfl ?_
  rotate_left
  · intro w' hw
    go_simp
    try with_reducible rfl
  simp only [Act.put, List.setIfInBounds_toArray, List.set_cons_zero, List.set_cons_succ]
  refine hs_take (i := 1) (d := some 8) (v := ?_) rfl (by kernel_rfl) (by kernel_rfl) (by kernel_rfl) (by rfl) ?_ hS rfl ?_
  rotate_left
  · intro w' hw
    have hq := (hw.cell (p := ⟨w.heap.size, 84, none⟩) hA8.lt).trans c84
    go_simp
    try with_reducible rfl
  simp only [Act.put, List.setIfInBounds_toArray, List.set_cons_zero, List.set_cons_succ]
  refine hs_take (i := 2) (d := some 9) (v := ?_) rfl (by kernel_rfl) (by kernel_rfl) (by kernel_rfl) (by rfl) ?_ hS rfl ?_
  rotate_left
  · intro w' hw
    go_simp
    try with_reducible rfl
  simp only [Act.put, List.setIfInBounds_toArray, List.set_cons_zero, List.set_cons_succ]
  refine hs_take (i := 3) (d := some 10) (v := ?_) rfl (by kernel_rfl) (by kernel_rfl) (by kernel_rfl) (by rfl) ?_ hS rfl ?_
  rotate_left
  · intro w' hw
    go_simp
    try with_reducible rfl
  simp only [Act.put, List.setIfInBounds_toArray, List.set_cons_zero, List.set_cons_succ]
  refine hs_take (i := 4) (d := some 11) (v := ?_) rfl (by kernel_rfl) (by kernel_rfl) (by kernel_rfl) (by rfl) ?_ hS rfl ?_
  rotate_left
  · intro w' hw
    go_simp
    try with_reducible rfl
  simp only [Act.put, List.setIfInBounds_toArray, List.set_cons_zero, List.set_cons_succ]
  refine hs_take (i := 5) (d := some 12) (v := .agg s.eb.cells.toArray) rfl (by kernel_rfl) (by kernel_rfl) (by kernel_rfl) (by rfl) (fun w' hw => ex_mid rfl rfl (range_below P8.eb hw hA8.lt) Tryd.underlying24 rfl hieb) hS rfl ?_
  simp only [Act.put, List.setIfInBounds_toArray, List.set_cons_zero, List.set_cons_succ]
  refine hs_take (i := 7) (d := some 14) (v := .agg (v8 d).toArray) rfl (by kernel_rfl) (by kernel_rfl) (by kernel_rfl) (by rfl) (fun w' hw => ex_mid rfl rfl (range_below hr8 hw (by omega)) Tryd.underlying26 rfl hiD) hS rfl ?_
  simp only [Act.put, List.setIfInBounds_toArray, List.set_cons_zero, List.set_cons_succ]
  refine hs_call (i := 6) (d := some 13) rfl (by kernel_rfl) (by rfl) (by go_simp; first | done | exact ⟨rfl, rfl⟩ | with_reducible rfl) rfl ?_
  refine (c1).mono ?_
  rintro e' w9 ⟨rfl, hB9⟩
  have hS : (Below w8.heap.size w8) w9 := hB9
  refine ⟨_, rfl, hS, ?_⟩
  simp only [Act.put, List.setIfInBounds_toArray, List.set_cons_zero, List.set_cons_succ]
  refine hs_take (i := 8) (d := some 15) (v := .bool true) rfl (by kernel_rfl) (by kernel_rfl) (by kernel_rfl) (by rfl) (fun w' hw => ex_bin rfl rfl rfl (by kernel_rfl) (by rw [eql_any _ _ (Bat.dig_len _) hd]; simp [HD.out])) hS rfl ?_
  simp only [Act.put, List.setIfInBounds_toArray, List.set_cons_zero, List.set_cons_succ]
  refine hs_take (i := 9) (d := some 16) (v := ?_) rfl (by kernel_rfl) (by kernel_rfl) (by kernel_rfl) (by rfl) ?_ hS rfl ?_
  rotate_left
  · intro w' hw
    go_simp
    try with_reducible rfl
  simp only [Act.put, List.setIfInBounds_toArray, List.set_cons_zero, List.set_cons_succ]
  refine hs_take (i := 10) (d := some 6) (v := ?_) rfl (by kernel_rfl) (by kernel_rfl) (by kernel_rfl) (by rfl) ?_ hS rfl ?_
  rotate_left
  · intro w' hw
    go_simp
    try with_reducible rfl
  simp only [Act.put, List.setIfInBounds_toArray, List.set_cons_zero, List.set_cons_succ]
  refine hs_done (by kernel_rfl) ?_
  have heb := range_below P8.eb hB9 hA8.lt
  have hT := there_below hT8 hB9 (by omega)
  have hB : Below w.heap.size w w9 := hBB.trans (hB9.mono hBB.size)
  go_upto_region 2 with fail
  try simp only [Act.put]
  refine wp_region_list ?_
  refine wpList_step fun K hK => ?_
  go_simp
  refine hK _ _ ?_
  clear hK K
  refine wpList_step fun K hK => ?_
  go_simp
  refine hK _ _ ?_
  clear hK K
  refine wpList_load_mid rfl 24 _ rfl _ _ rfl s.eb.cells _ heb Tryd.underlying24 rfl hieb ?_
  refine wpList_store_mid rfl 24 _ _ rfl _ 0 s.eb.cells.toArray rfl rfl hT hieb2 heo ?_
  go_wp2_with fail
  refine bodyPost_ret (results_ct rfl _ _ _ rfl (run_loadVar_mid (P := Tryd.prog) _ (w.heap.size + 1 + 1) 0 24 s.eb.cells _ (World.rangeAt_setCells_same _ _ _ _ hT) Tryd.underlying24 rfl hieb)) rfl ?_
  exact ⟨rfl, below_sets (by omega) _ _ _ hB⟩
theorem three_bats (w : World) (x y z : Bat) (h : x.at w) (h' : y.at w) (h'' : z.at w) :
    BatsAt (w.alloc (.cells #[.bool x.q, .slice x.a x.rs.length x.cap, .bool y.q, .slice y.a y.rs.length y.cap, .bool z.q, .slice z.a z.rs.length z.cap] 24)) w.heap.size [x, y, z] := by
  have hb : Below w.heap.size w (w.alloc (.cells #[.bool x.q, .slice x.a x.rs.length x.cap, .bool y.q, .slice y.a y.rs.length y.cap, .bool z.q, .slice z.a z.rs.length z.cap] 24)) := (Below.refl _ _).alloc (Nat.le_refl _) _
  refine ⟨by simp, fun u hu => ?_, by simp, range_new w #[.bool x.q, .slice x.a x.rs.length x.cap, .bool y.q, .slice y.a y.rs.length y.cap, .bool z.q, .slice z.a z.rs.length z.cap] 24⟩
  simp only [List.mem_cons, List.not_mem_nil, or_false] at hu
  rcases hu with rfl | rfl | rfl
  · exact h.below hb
  · exact h'.below hb
  · exact h''.below hb
/-- a slot that is not too great -/
structure Sl.small (s : Sl) : Prop where
  b : s.b.lt
  hb : s.hb.lt
  eb : s.eb.lt
  hc : s.hc.ss.length ≤ 100
  ec : s.ec.ss.length ≤ 100
theorem Sl.small.ok {s : Sl} {w : World} (h : s.small) (k : s.raw w) : s.ok w := k.ok h.b h.hb h.eb
theorem cert_sl {w : World} {Z o : Nat} {c : Ce} (hv : c.v.ok) (h : w.rangeAt Z o c.cells) : w.cell? ⟨Z, o + 36, none⟩ = some (.slice c.a c.ss.length c.cap) := by
  have := range_right (show w.rangeAt Z o (c.v.cells ++ [Value.slice c.a c.ss.length c.cap]) from h)
  rw [hv.len] at this
  exact this 0 _ rfl
set_option maxRecDepth 100000 in
set_option maxHeartbeats 8000000 in
theorem light18_any (X cap : Nat) (xs : List Sl) (w : World) (hX : X < w.heap.size) (hr : w.rangeAt X 0 (xs.flatMap Sl.cells)) (hs : ∀ s ∈ xs, s.raw w) (hn : xs.length ≤ 2) : Calls Tryd.prog 5 #[.slice (some ⟨X, 0, none⟩) xs.length cap] w fun e w' => (e = .returned (.bool false) ∧ Below w.heap.size w w') ∨ (e = .returned (.bool true) ∧ Below w.heap.size w w' ∧ ∀ s ∈ xs, s.small) := by
  have hrow : RowOf Sl.cells w (some ⟨X, 0, none⟩) xs := .inr ⟨X, 0, rfl, hX, hr⟩
  have hzv := fun w' => zero_Tslot w'
  go_enter Tryd.func5, Tryd.ntmps5
  go_wp2_with fail
  go_loopw [7] (fun iv wr => ∃ i : Nat, i ≤ xs.length ∧ iv = .int .i64 (i : Int) ∧ Hid (Below w.heap.size w wr ∧ ∀ j (hj : j < xs.length), j < i → xs[j].small)) (fun iv _ => xs.length - (intOf iv).toNat)
  case atStart => exact ⟨0, by omega, rfl, hide ⟨Below.refl _ _, fun j _ h => absurd h (by omega)⟩⟩
  case round =>
    obtain ⟨i, hi, rfl, HB⟩ := hrel
    obtain ⟨hB, hdone⟩ := HB.out
    have HD := hide hdone
    clear HB hdone
    by_cases hlt : i < xs.length
    · have hiI : (i : Int) < (xs.length : Int) := by omega
      obtain ⟨ab, aoff, hae, habl, hAr⟩ := (hrow.below hB).elem (fun y hy => Sl.len (hs y hy).vok) i hlt
      simp only [Option.some.injEq, Addr.mk.injEq, and_true] at hae
      obtain ⟨rfl, rfl⟩ := hae
      rw [Nat.zero_add] at hAr
      have hx := hs _ (List.getElem_mem hlt)
      have HD2 : Hid (xs[i].small → ∀ j (hj : j < xs.length), j < i + 1 → xs[j].small) := hide (fun h j hj hji => by
        by_cases e : j = i
        · subst e; exact h
        · exact HD.out j hj (by omega))
      clear HD
      obtain ⟨s, hse⟩ : ∃ s, Hid (xs[i] = s) := ⟨_, hide rfl⟩
      rw [hse.out] at hAr hx HD2
      clear hse
      have hv := hx.vok
      have l1 : s.cells.length = 85 := Sl.len hv
      have a1 : s.cells.toArray.size = 85 := by simpa using l1
      have o1 := all_oneS s.one
      have i1 : (Tryd.prog.info? 37).map (·.size) = some s.cells.length := by rw [l1]; exact iszTslot
      have i1a : (Tryd.prog.info? 37).map (·.size) = some s.cells.toArray.size := by rw [a1]; exact iszTslot
      have pS : ∀ {w' : World} {Z : Nat}, w'.rangeAt Z 0 s.cells → SlParts w' Z s := fun h => Sl.parts hv h
      obtain ⟨k1, hk1⟩ : ∃ k1, Hid (s.cells = k1) := ⟨_, hide rfl⟩
      rw [hk1.out] at hAr l1 a1 o1 i1 i1a
      simp only [hk1.out] at pS
      clear hk1
      have hbs := hB.size
      go_upto_region 4 with (first
        | (refine wpList_load_mid rfl 37 _ rfl _ _ rfl k1 _ hAr Tryd.underlying37 rfl i1 ?_)
        | (refine wpList_store_mid rfl 37 _ _ rfl _ 0 k1.toArray rfl rfl (there_newN _ _ _ (by first | exact a1.symm | (rw [a1]; rfl))) i1a o1 ?_))
      go_name_world w2 hw2
      obtain ⟨hB2, hS, hlt2, -⟩ := box1 hw2 (by first | exact l1 | (rw [l1]; rfl))
      clear hw2 hAr
      have P := pS hS
      have hB2 := hB.trans (hB2.mono hbs)
      have hbs := hB2.size
      obtain ⟨Y, hY⟩ : ∃ Y, Hid (wr.heap.size = Y) := ⟨_, hide rfl⟩
      rw [hY.out] at P hlt2
      try rw [hY.out]
      clear hY hS hB pS
      have p1 := P.b
      have p4 := P.hb
      have p45 := P.eb
      have c42 := cert_sl hv.h P.hc
      have c83 := cert_sl hv.e P.ec
      simp only [Nat.reduceAdd] at c42 c83
      clear P
      have hL := three_bats w2 s.b s.hb s.eb (hx.b.below hB2) (hx.hb.below hB2) (hx.eb.below hB2)
      have hB3' : Below w2.heap.size w2 (w2.alloc (.cells #[.bool s.b.q, .slice s.b.a s.b.rs.length s.b.cap, .bool s.hb.q, .slice s.hb.a s.hb.rs.length s.hb.cap, .bool s.eb.q, .slice s.eb.a s.eb.rs.length s.eb.cap] 24)) := (Below.refl _ _).alloc (Nat.le_refl _) _
      have cl := light_any w2.heap.size 3 _ _ hL
      clear hL
      try simp only [Act.put]
      refine wp_region_list ?_
      refine wpList_step fun K hK => ?_
      go_simp
      refine hK _ _ ?_
      clear hK K
      refine wpList_load_mid rfl 24 _ rfl _ _ rfl [.bool s.b.q, .slice s.b.a s.b.rs.length s.b.cap] _ p1 Tryd.underlying24 rfl iszB ?_
      refine wpList_step fun K hK => ?_
      go_simp
      refine hK _ _ ?_
      clear hK K
      refine wpList_step fun K hK => ?_
      go_simp
      refine hK _ _ ?_
      clear hK K
      refine wpList_load_mid rfl 24 _ rfl _ _ rfl [.bool s.hb.q, .slice s.hb.a s.hb.rs.length s.hb.cap] _ p4 Tryd.underlying24 rfl iszB ?_
      refine wpList_step fun K hK => ?_
      go_simp
      refine hK _ _ ?_
      clear hK K
      refine wpList_step fun K hK => ?_
      go_simp
      refine hK _ _ ?_
      clear hK K
      refine wpList_load_mid rfl 24 _ rfl _ _ rfl [.bool s.eb.q, .slice s.eb.a s.eb.rs.length s.eb.cap] _ p45 Tryd.underlying24 rfl iszB ?_
      simp only [List.length_cons, List.length_nil, Nat.zero_add] at cl
      go_wp2_with fail
      refine cl.mono ?_
      rintro e w4 hcase
      clear cl p1 p4 p45
      have c42 := (hB3'.cell (p := ⟨Y, 42, none⟩) hlt2).trans c42
      have c83 := (hB3'.cell (p := ⟨Y, 83, none⟩) hlt2).trans c83
      have hB3 := hB2.trans (hB3'.mono hB2.size)
      have hlt3 : Y < _ := Nat.lt_of_lt_of_le hlt2 hB3'.size
      clear hB3' hB2 hlt2
      generalize w2.alloc (.cells #[.bool s.b.q, .slice s.b.a s.b.rs.length s.b.cap, .bool s.hb.q, .slice s.hb.a s.hb.rs.length s.hb.cap, .bool s.eb.q, .slice s.eb.a s.eb.rs.length s.eb.cap] 24) = w3 at *
      rcases hcase with ⟨rfl, hw4⟩ | ⟨rfl, hw4, hwt⟩
      · have hB4 := hB3.trans (hw4.mono hB3.size)
        clear c42 c83
        go_wp2_with fail
        go_ret
        exact .inl ⟨rfl, hB4⟩
      · have hB4 := hB3.trans (hw4.mono hB3.size)
        have c42 := (hw4.cell (p := ⟨Y, 42, none⟩) hlt3).trans c42
        have c83 := (hw4.cell (p := ⟨Y, 83, none⟩) hlt3).trans c83
        have hl1 : s.b.lt := wt_mem (by simp) hwt
        have hl2 : s.hb.lt := wt_mem (by simp) hwt
        have hl3 : s.eb.lt := wt_mem (by simp) hwt
        clear hwt hw4
        by_cases h1 : (100 : Int) < (s.hc.ss.length : Int)
        · go_wp2_with fail
          go_ret
          exact .inl ⟨rfl, hB4⟩
        by_cases h2 : (100 : Int) < (s.ec.ss.length : Int)
        · go_wp2_with fail
          go_ret
          exact .inl ⟨rfl, hB4⟩
        have HI : Hid (Below w.heap.size w w4 ∧ ∀ j (hj : j < xs.length), j < i + 1 → xs[j].small) := hide ⟨hB4, HD2.out ⟨hl1, hl2, hl3, by omega, by omega⟩⟩
        clear HD2 hB4 hB3
        go_wp2_with fail
        go_roundw
        case rel => exact ⟨i + 1, by omega, by go_num, HI⟩
        case measure => simp [intOf]; omega
    · obtain rfl : i = xs.length := by omega
      go_wp2_with fail
      go_ret
      refine .inr ⟨rfl, hB, fun s hs => ?_⟩
      obtain ⟨j, hj, rfl⟩ := List.mem_iff_getElem.1 hs
      exact HD.out j hj hj
end Go.Proofs.YtogmkcabndgllaaDoor
