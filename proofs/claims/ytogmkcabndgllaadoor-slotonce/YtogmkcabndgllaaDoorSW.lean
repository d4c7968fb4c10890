/- SlotOnce: the walk -/
import Derived.Test.YtogmkcabndgllaaDoorSO
import Derived.Test.YtogmkcabndgllaaDoorPL
import Derived.Deep.DeepCutAuto
import Derived.Deep.Cut
import Derived.Deep.CutRange
import Derived.Deep.CutBlock
namespace Go.Proofs.YtogmkcabndgllaaDoor
open Go.RowKit
open Sha Tal
set_option linter.unusedVariables false
set_option maxRecDepth 100000 in
set_option maxHeartbeats 32000000 in
theorem once_walk (al : Option Addr) (cl : Nat) (ys : List Ax) (w : World) (hG : Glob w) (hat : ∀ y ∈ ys, y.at w) (hrow : RowOf Ax.cells w al ys) : Calls Tryd.prog 4 #[.slice al ys.length cl] w fun e w' => e = .returned (.bool true) ∧ Below w.heap.size w w' := by
  have cL := fun w' (h : Below w.heap.size w w') => lives18_any w' (hG.below h)
  have hzv := fun w' => zero_Tslot w'
  have hmm := @run_makeMap Tryd.prog
  go_enter Tryd.func4, Tryd.ntmps4
  by_cases hl : 60 < ys.length
  · have hlI : (60 : Int) < (ys.length : Int) := by omega
    have hB0 := Below.refl w.heap.size w
    have cl := cL w hB0
    go_wp2_with fail
    refine cl.mono ?_
    rintro _ wl ⟨rfl, hBl⟩
    go_wp2_with fail
    go_ret
    exact ⟨rfl, hB0.trans (hBl.mono hB0.size)⟩
  have hlI : ¬ (60 : Int) < (ys.length : Int) := by omega
  go_wp2_with fail
  go_loopw [20] (fun iv wr => ∃ i : Nat, i ≤ ys.length ∧ iv = .int .i64 (i : Int) ∧ Hid (Below w.heap.size w wr ∧ ∀ j (hj : j < ys.length), j < i → ys[j].small)) (fun iv _ => ys.length - (intOf iv).toNat)
  case atStart => exact ⟨0, by omega, rfl, hide ⟨Below.refl _ _, fun j _ h => absurd h (by omega)⟩⟩
  case round =>
    obtain ⟨i, hi, rfl, HB⟩ := hrel
    obtain ⟨hB, hdone⟩ := HB.out
    have HD := hide hdone
    clear HB hdone
    by_cases hlt : i < ys.length
    · have hiI : (i : Int) < (ys.length : Int) := by omega
      obtain ⟨ab, aoff, rfl, habl, hAr⟩ := (hrow.below hB).elem (fun y hy => Ax.len (hat y hy)) i hlt
      have hx := hat _ (List.getElem_mem hlt)
      have HD2 : Hid (ys[i].small → ∀ j (hj : j < ys.length), j < i + 1 → ys[j].small) := hide (fun h j hj hji => by
        by_cases e : j = i
        · subst e; exact h
        · exact HD.out j hj (by omega))
      clear HD
      obtain ⟨a, hae⟩ : ∃ a, Hid (ys[i] = a) := ⟨_, hide rfl⟩
      rw [hae.out] at hAr hx HD2
      clear hae
      have l41 : a.cells.length = 41 := Ax.len hx
      have a41 : a.cells.toArray.size = 41 := by simpa using l41
      have o41 := all_oneS a.one
      have i41 : (Tryd.prog.info? 61).map (·.size) = some a.cells.length := by rw [l41]; exact iszA18
      have i41a : (Tryd.prog.info? 61).map (·.size) = some a.cells.toArray.size := by rw [a41]; exact iszA18
      have pA : ∀ {w' : World} {Z : Nat}, w'.rangeAt Z 0 a.cells → w'.cell? ⟨Z, 0, none⟩ = some (.int .i64 a.k) ∧ w'.cell? ⟨Z, 1, none⟩ = some (.int .i64 a.v) ∧ w'.rangeAt Z 2 a.b.cells ∧ w'.rangeAt Z 4 a.c.cells := fun h => Ax.parts h
      obtain ⟨ka, hka⟩ : ∃ k, Hid (a.cells = k) := ⟨_, hide rfl⟩
      rw [hka.out] at hAr l41 a41 o41 i41 i41a
      simp only [hka.out] at pA
      clear hka
      have hbs := hB.size
      go_upto_region 6 with (first
        | (refine wpList_load_mid rfl 61 _ rfl _ _ rfl ka _ hAr Tryd.underlying61 rfl i41 ?_)
        | (refine wpList_store_mid rfl 61 _ _ rfl _ 0 ka.toArray rfl rfl (there_newN _ _ _ (by first | exact a41.symm | (rw [a41]; rfl))) i41a o41 ?_))
      go_name_world w2 hw2
      obtain ⟨hB2, hAx, hlt2, -⟩ := box1 hw2 (by first | exact l41 | (rw [l41]; rfl))
      clear hw2 hAr
      have hB2 := hB.trans (hB2.mono hbs)
      obtain ⟨Y, hY⟩ : ∃ Y, Hid (wr.heap.size = Y) := ⟨_, hide rfl⟩
      rw [hY.out] at hAx hlt2
      try rw [hY.out]
      clear hY hB
      obtain ⟨p0, p1, p2, p4⟩ := pA hAx
      clear hAx pA
      have hL := one_bat w2 a.b (hx.b.below hB2)
      have hB3' : Below w2.heap.size w2 (w2.alloc (.cells #[.bool a.b.q, .slice a.b.a a.b.rs.length a.b.cap] 24)) := (Below.refl _ _).alloc (Nat.le_refl _) _
      have cl1 := light_any w2.heap.size 1 _ _ hL
      clear hL
      simp only [List.length_cons, List.length_nil, Nat.zero_add] at cl1
      have c40 := cert_sl hx.c.v p4
      simp only [Nat.reduceAdd] at c40
      try simp only [Act.put]
      refine wp_region_list ?_
      refine wpList_step fun K hK => ?_
      go_simp
      refine hK _ _ ?_
      clear hK K
      refine wpList_load_mid rfl 24 _ rfl _ _ rfl [.bool a.b.q, .slice a.b.a a.b.rs.length a.b.cap] _ p2 Tryd.underlying24 rfl iszB ?_
      go_wp2_with fail
      refine cl1.mono ?_
      rintro e w4 hcase
      clear cl1 p0 p1 p2 p4
      have c40 := (hB3'.cell (p := ⟨Y, 40, none⟩) hlt2).trans c40
      have hB3 := hB2.trans (hB3'.mono hB2.size)
      have hlt3 : Y < _ := Nat.lt_of_lt_of_le hlt2 hB3'.size
      clear hB3' hB2 hlt2
      generalize w2.alloc (.cells #[.bool a.b.q, .slice a.b.a a.b.rs.length a.b.cap] 24) = w3 at *
      rcases hcase with ⟨rfl, hw4⟩ | ⟨rfl, hw4, hwt⟩
      · have hB4 := hB3.trans (hw4.mono hB3.size)
        clear c40
        have cl := cL w4 hB4
        go_wp2_with fail
        refine cl.mono ?_
        rintro _ wl ⟨rfl, hBl⟩
        go_wp2_with fail
        go_ret
        exact ⟨rfl, hB4.trans (hBl.mono hB4.size)⟩
      · have hB4 := hB3.trans (hw4.mono hB3.size)
        have c40 := (hw4.cell (p := ⟨Y, 40, none⟩) hlt3).trans c40
        have hl1 : a.b.lt := wt_mem (by simp) hwt
        clear hwt hw4
        by_cases h1 : (100 : Int) < (a.c.ss.length : Int)
        · skip
          have cl := cL w4 hB4
          go_wp2_with fail
          refine cl.mono ?_
          rintro _ wl ⟨rfl, hBl⟩
          go_wp2_with fail
          go_ret
          exact ⟨rfl, hB4.trans (hBl.mono hB4.size)⟩
        have HI : Hid (Below w.heap.size w w4 ∧ ∀ j (hj : j < ys.length), j < i + 1 → ys[j].small) := hide ⟨hB4, HD2.out ⟨hl1, by omega⟩⟩
        clear HD2 hB4 hB3
        go_wp2_with fail
        go_roundw
        case rel => exact ⟨i + 1, by omega, by go_num, HI⟩
        case measure => simp [intOf]; omega
    · obtain rfl : i = ys.length := by omega
      have HSM : Hid (∀ y ∈ ys, y.small) := hide (fun y hy => by
        obtain ⟨j, hj, rfl⟩ := List.mem_iff_getElem.1 hy
        exact HD.out j hj hj)
      clear HD
      go_upto_region 11 with fail
      go_name_world w1 hw1
      have hS1 : SlAt w1 wr.heap.size sl0 ∧ MapD w1 (wr.heap.size + 1) 0 (fun _ => none) ∧ Below w.heap.size w w1 := by
        rw [← hw1]
        have b1 : Below wr.heap.size wr (wr.alloc (.cells sl0.cells.toArray 37)) := (Below.refl _ _).alloc (Nat.le_refl _) _
        have b2 : Below (wr.heap.size + 1) (wr.alloc (.cells sl0.cells.toArray 37)) ((wr.alloc (.cells sl0.cells.toArray 37)).alloc (.map #[] 0)) := (Below.refl _ _).alloc (by simp) _
        have m1 := MapD.made (wr.alloc (.cells sl0.cells.toArray 37))
        rw [World.size_alloc] at m1
        refine ⟨⟨by simp; omega, there_below (there_new wr sl0.cells.toArray 37) b2 (by omega), range_below (by simpa using range_new wr sl0.cells.toArray 37) b2 (by omega)⟩, m1, hB.trans ((b1.trans (b2.mono (by omega))).mono hB.size)⟩
      clear hw1
      obtain ⟨hS1, hM1, hB1⟩ := hS1
      have hws := hB.size
      obtain ⟨S, hSe⟩ : ∃ S, Hid (wr.heap.size = S) := ⟨_, hide rfl⟩
      rw [hSe.out] at hS1 hM1 hws
      try rw [hSe.out]
      clear hSe hB
      obtain ⟨M, hMe⟩ : ∃ M, Hid (S + 1 = M) := ⟨_, hide rfl⟩
      have hSM : S < M := by rw [← hMe.out]; omega
      rw [hMe.out] at hM1
      try rw [hMe.out]
      clear hMe
      have hst : Hid (∃ (s : Sl) (m : Int → Option (List Int)) (n : Nat), SlAt w1 S s ∧ MapD w1 M n m ∧ n ≤ 0 ∧ Inv s m ∧ s.fit w ∧ Below w.heap.size w w1) := hide ⟨sl0, fun _ => none, 0, hS1, hM1, Nat.le_refl _, inv0, fit0 w, hB1⟩
      clear hS1 hM1 hB1
      go_wp2_with fail
      go_loopw [41] (fun iv wr => ∃ i : Nat, i ≤ ys.length ∧ iv = .int .i64 (i : Int) ∧ Hid (∃ (s : Sl) (m : Int → Option (List Int)) (n : Nat), SlAt wr S s ∧ MapD wr M n m ∧ n ≤ i ∧ Inv s m ∧ s.fit w ∧ Below w.heap.size w wr)) (fun iv _ => ys.length - (intOf iv).toNat)
      case atStart => exact ⟨0, by omega, rfl, hst⟩
      case round =>
        clear hst
        obtain ⟨i, hi, rfl, HS⟩ := hrel
        obtain ⟨s, m, n, hs, hm, hn, hinv, hfit, hB⟩ := HS.out
        clear HS
        by_cases hlt : i < ys.length
        · have hiI : (i : Int) < (ys.length : Int) := by omega
          obtain ⟨ab, aoff, rfl, habl, hAr⟩ := (hrow.below hB).elem (fun y hy => Ax.len (hat y hy)) i hlt
          have hx := hat _ (List.getElem_mem hlt)
          have hsm := HSM.out _ (List.getElem_mem hlt)
          obtain ⟨a, hae⟩ : ∃ a, Hid (ys[i] = a) := ⟨_, hide rfl⟩
          rw [hae.out] at hAr hx hsm
          clear hae
          have l41 : a.cells.length = 41 := Ax.len hx
          have a41 : a.cells.toArray.size = 41 := by simpa using l41
          have o41 := all_oneS a.one
          have i41 : (Tryd.prog.info? 61).map (·.size) = some a.cells.length := by rw [l41]; exact iszA18
          have i41a : (Tryd.prog.info? 61).map (·.size) = some a.cells.toArray.size := by rw [a41]; exact iszA18
          have pA : ∀ {w' : World} {Z : Nat}, w'.rangeAt Z 0 a.cells → w'.cell? ⟨Z, 0, none⟩ = some (.int .i64 a.k) ∧ w'.cell? ⟨Z, 1, none⟩ = some (.int .i64 a.v) ∧ w'.rangeAt Z 2 a.b.cells ∧ w'.rangeAt Z 4 a.c.cells := fun h => Ax.parts h
          obtain ⟨ka, hka⟩ : ∃ k, Hid (a.cells = k) := ⟨_, hide rfl⟩
          rw [hka.out] at hAr l41 a41 o41 i41 i41a
          simp only [hka.out] at pA
          clear hka
          have hbs := hB.size
          go_upto_region 14 with (first
            | (refine wpList_load_mid rfl 61 _ rfl _ _ rfl ka _ hAr Tryd.underlying61 rfl i41 ?_)
            | (refine wpList_store_mid rfl 61 _ _ rfl _ 0 ka.toArray rfl rfl (there_newN _ _ _ (by first | exact a41.symm | (rw [a41]; rfl))) i41a o41 ?_))
          go_name_world w2 hw2
          obtain ⟨hB2, hAx, hlt2, -⟩ := box1 hw2 (by first | exact l41 | (rw [l41]; rfl))
          clear hw2 hAr
          have hSA : S < wr.heap.size := hs.lt
          have hMA : M < wr.heap.size := hm.lt
          have hs := hs.below hB2
          have hm := hm.below hB2
          have hB2 := hB.trans (hB2.mono hbs)
          go_upto_block 4 with fail
          go_name_world w3 hw3
          have hX : SlAt w3 w2.heap.size sl0 := by rw [← hw3]; exact ⟨by simp, there_new w2 sl0.cells.toArray 37, by simpa using range_new w2 sl0.cells.toArray 37⟩
          have hB3' : Below w2.heap.size w2 w3 := by rw [← hw3]; exact (Below.refl _ _).alloc (Nat.le_refl _) _
          clear hw3
          have hs := hs.below hB3'
          have hm := hm.below hB3'
          have hAx := range_below hAx hB3' hlt2
          have hB3 := hB2.trans (hB3'.mono hB2.size)
          have hwX : w.heap.size ≤ w2.heap.size := hB2.size
          obtain ⟨X, hXe⟩ : ∃ X, Hid (w2.heap.size = X) := ⟨_, hide rfl⟩
          rw [hXe.out] at hX hlt2 hwX
          try rw [hXe.out]
          clear hXe hB3' hB2 hB
          obtain ⟨p0, p1, p2, p4⟩ := pA hAx
          have hSX : S ≠ X := by omega
          have hMX : M ≠ X := by omega
          have is85 : (Tryd.prog.info? 37).map (·.size) = some s.cells.length := by rw [Sl.len hfit.raw.vok]; exact iszTslot
          have hib : (Tryd.prog.info? 24).map (·.size) = some a.b.cells.length := iszB
          have hic : (Tryd.prog.info? 31).map (·.size) = some a.c.cells.length := by rw [Ce.len hx.c.v]; exact iszCe
          clear hAx pA
          go_cut [10] (fun e wx => ∃ (x : Sl) (er : Int), e = .int .i64 er ∧ Hid (Mid18 w S M X s x m n wx ∧ x.fit w ∧ (er ≠ 0 → x = sl0) ∧ (er = 0 → Went s x m)))
          case first =>
            by_cases k0 : a.k = 0
            · have k0b : (a.k == 0) = true := by simpa using k0
              clear k0
              as_aux_lemma =>
                go_upto_region 19 with fail
                try simp only [Act.put]
                refine wp_region_list ?_
                refine wpList_load_mid rfl 37 _ rfl _ _ rfl s.cells _ hs.r Tryd.underlying37 rfl is85 ?_
                refine wpList_step fun K hK => ?_
                go_simp
                refine hK _ _ ?_
                clear hK K
                refine wpList_step fun K hK => ?_
                go_simp
                refine hK _ _ ?_
                clear hK K
                refine wpList_step fun K hK => ?_
                go_simp
                refine hK _ _ ?_
                clear hK K
                refine wpList_load_mid rfl 24 _ rfl _ _ rfl a.b.cells _ p2 Tryd.underlying24 rfl hib ?_
                have cc := acc_any s a.v a.b w3 (hG.below hB3) (hfit.small.ok (hfit.raw.below hB3)) (hx.b.below hB3) hsm.b
                have hwent : (acceptP s a.v a.b).2 = 0 → Went s (acceptP s a.v a.b).1 m := acc_went hinv a.v a.b
                have herr : (acceptP s a.v a.b).2 ≠ 0 → (acceptP s a.v a.b).1 = sl0 := acc_err
                have hfx : (acceptP s a.v a.b).1.fit w := acc_fit hfit hx.v hx.b hsm.b
                obtain ⟨x, hxe⟩ : ∃ x, Hid ((acceptP s a.v a.b).1 = x) := ⟨_, hide rfl⟩
                obtain ⟨er, here⟩ : ∃ er, Hid ((acceptP s a.v a.b).2 = er) := ⟨_, hide rfl⟩
                rw [hxe.out] at hwent herr hfx cc
                rw [here.out] at hwent herr cc
                clear hxe here
                have HW : Hid ((er = 0 → Went s x m) ∧ (er ≠ 0 → x = sl0)) := hide ⟨hwent, herr⟩
                clear hwent herr
                have lx : x.cells.length = 85 := Sl.len hfx.raw.vok
                have ax : x.cells.toArray.size = 85 := by simpa using lx
                have ox := all_oneS x.one
                have ix : (Tryd.prog.info? 37).map (·.size) = some x.cells.toArray.size := by rw [ax]; exact iszTslot
                go_wp2_with fail
                refine cc.mono ?_
                rintro _ w4 ⟨rfl, hB4⟩
                clear cc
                have hX4 := hX.below hB4
                have hTX : w4.there X 0 x.cells.toArray.size := by rw [ax]; exact hX4.th
                have HM : Hid (Mid18 w S M X s x m n (w4.setCells X 0 x.cells)) := hide ⟨(hs.below hB4).apart hSX _, hX4.put hfx.raw.vok, (hm.below hB4).apart hMX _, below_sets hwX _ _ _ (hB3.trans (hB4.mono hB3.size))⟩
                clear hX4 hB4 p0 p1 p2 p4
                go_wp2_with (refine wpList_store_mid rfl 37 _ _ rfl _ 0 x.cells.toArray rfl rfl hTX ix ox ?_)
                go_meet
                exact ⟨x, er, rfl, hide ⟨HM.out, hfx, HW.out.2, HW.out.1⟩⟩
            · by_cases k1 : a.k = 1
              · have k0b : (a.k == 0) = false := by simpa using k0
                have k1b : (a.k == 1) = true := by simpa using k1
                clear k0 k1
                as_aux_lemma =>
                  go_upto_region 21 with fail
                  try simp only [Act.put]
                  refine wp_region_list ?_
                  refine wpList_load_mid rfl 37 _ rfl _ _ rfl s.cells _ hs.r Tryd.underlying37 rfl is85 ?_
                  refine wpList_step fun K hK => ?_
                  go_simp
                  refine hK _ _ ?_
                  clear hK K
                  refine wpList_load_mid rfl 31 _ rfl _ _ rfl a.c.cells _ p4 Tryd.underlying31 rfl hic ?_
                  have cc := hold_any s a.c w3 (hG.below hB3) (hfit.small.ok (hfit.raw.below hB3)) (hx.c.below hB3)
                  have hwent : (holdP s a.c).2 = 0 → Went s (holdP s a.c).1 m := hold_went hinv a.c
                  have herr : (holdP s a.c).2 ≠ 0 → (holdP s a.c).1 = sl0 := hold_err
                  have hfx : (holdP s a.c).1.fit w := hold_fit hfit hx.c hsm.c
                  obtain ⟨x, hxe⟩ : ∃ x, Hid ((holdP s a.c).1 = x) := ⟨_, hide rfl⟩
                  obtain ⟨er, here⟩ : ∃ er, Hid ((holdP s a.c).2 = er) := ⟨_, hide rfl⟩
                  rw [hxe.out] at hwent herr hfx cc
                  rw [here.out] at hwent herr cc
                  clear hxe here
                  have HW : Hid ((er = 0 → Went s x m) ∧ (er ≠ 0 → x = sl0)) := hide ⟨hwent, herr⟩
                  clear hwent herr
                  have lx : x.cells.length = 85 := Sl.len hfx.raw.vok
                  have ax : x.cells.toArray.size = 85 := by simpa using lx
                  have ox := all_oneS x.one
                  have ix : (Tryd.prog.info? 37).map (·.size) = some x.cells.toArray.size := by rw [ax]; exact iszTslot
                  go_wp2_with fail
                  refine cc.mono ?_
                  rintro _ w4 ⟨rfl, hB4⟩
                  clear cc
                  have hX4 := hX.below hB4
                  have hTX : w4.there X 0 x.cells.toArray.size := by rw [ax]; exact hX4.th
                  have HM : Hid (Mid18 w S M X s x m n (w4.setCells X 0 x.cells)) := hide ⟨(hs.below hB4).apart hSX _, hX4.put hfx.raw.vok, (hm.below hB4).apart hMX _, below_sets hwX _ _ _ (hB3.trans (hB4.mono hB3.size))⟩
                  clear hX4 hB4 p0 p1 p2 p4
                  go_wp2_with (refine wpList_store_mid rfl 37 _ _ rfl _ 0 x.cells.toArray rfl rfl hTX ix ox ?_)
                  go_meet
                  exact ⟨x, er, rfl, hide ⟨HM.out, hfx, HW.out.2, HW.out.1⟩⟩
              · have k0b : (a.k == 0) = false := by simpa using k0
                have k1b : (a.k == 1) = false := by simpa using k1
                clear k0 k1
                as_aux_lemma =>
                  go_upto_region 17 with fail
                  try simp only [Act.put]
                  refine wp_region_list ?_
                  refine wpList_load_mid rfl 37 _ rfl _ _ rfl s.cells _ hs.r Tryd.underlying37 rfl is85 ?_
                  refine wpList_step fun K hK => ?_
                  go_simp
                  refine hK _ _ ?_
                  clear hK K
                  refine wpList_load_mid rfl 24 _ rfl _ _ rfl a.b.cells _ p2 Tryd.underlying24 rfl hib ?_
                  refine wpList_step fun K hK => ?_
                  go_simp
                  refine hK _ _ ?_
                  clear hK K
                  refine wpList_load_mid rfl 31 _ rfl _ _ rfl a.c.cells _ p4 Tryd.underlying31 rfl hic ?_
                  have cc := dec_any s a.b a.c w3 (hG.below hB3) (hfit.small.ok (hfit.raw.below hB3)) (hx.b.below hB3) hsm.b (hx.c.below hB3)
                  have hwent : (decideP s a.b a.c).2 = 0 → Went s (decideP s a.b a.c).1 m := dec_went hinv a.b a.c
                  have herr : (decideP s a.b a.c).2 ≠ 0 → (decideP s a.b a.c).1 = sl0 := dec_err
                  have hfx : (decideP s a.b a.c).1.fit w := dec_fit hfit hx.b hsm.b hx.c hsm.c
                  obtain ⟨x, hxe⟩ : ∃ x, Hid ((decideP s a.b a.c).1 = x) := ⟨_, hide rfl⟩
                  obtain ⟨er, here⟩ : ∃ er, Hid ((decideP s a.b a.c).2 = er) := ⟨_, hide rfl⟩
                  rw [hxe.out] at hwent herr hfx cc
                  rw [here.out] at hwent herr cc
                  clear hxe here
                  have HW : Hid ((er = 0 → Went s x m) ∧ (er ≠ 0 → x = sl0)) := hide ⟨hwent, herr⟩
                  clear hwent herr
                  have lx : x.cells.length = 85 := Sl.len hfx.raw.vok
                  have ax : x.cells.toArray.size = 85 := by simpa using lx
                  have ox := all_oneS x.one
                  have ix : (Tryd.prog.info? 37).map (·.size) = some x.cells.toArray.size := by rw [ax]; exact iszTslot
                  go_wp2_with fail
                  refine cc.mono ?_
                  rintro _ w4 ⟨rfl, hB4⟩
                  clear cc
                  have hX4 := hX.below hB4
                  have hTX : w4.there X 0 x.cells.toArray.size := by rw [ax]; exact hX4.th
                  have HM : Hid (Mid18 w S M X s x m n (w4.setCells X 0 x.cells)) := hide ⟨(hs.below hB4).apart hSX _, hX4.put hfx.raw.vok, (hm.below hB4).apart hMX _, below_sets hwX _ _ _ (hB3.trans (hB4.mono hB3.size))⟩
                  clear hX4 hB4 p0 p1 p2 p4
                  go_wp2_with (refine wpList_store_mid rfl 37 _ _ rfl _ 0 x.cells.toArray rfl rfl hTX ix ox ?_)
                  go_meet
                  exact ⟨x, er, rfl, hide ⟨HM.out, hfx, HW.out.2, HW.out.1⟩⟩
          case rest =>
            obtain ⟨x, er, rfl, HX⟩ := hcut
            obtain ⟨hmid, hfx, herr, hwent⟩ := HX.out
            clear HX p0 p1 p2 p4 hs hm hX hB3 hx hsm
            by_cases he : er = 0
            case neg =>
              as_aux_lemma =>
                have heb : (er != 0) = true := by simpa using he
                obtain rfl := herr he
                clear hwent herr he
                have hB := hmid.b
                obtain ⟨k0, hk0⟩ : ∃ k0, Hid (sl0.cells = k0) := ⟨_, hide rfl⟩
                have l0 : k0.length = 85 := by rw [← hk0.out]; rfl
                have i0 : (Tryd.prog.info? 37).map (·.size) = some k0.length := by rw [l0]; exact iszTslot
                have hxr := hmid.x.r
                rw [hk0.out] at hxr
                have cO := of_any sl0 sl0_vok wc
                have cS := fun w' => xslot_self sl0 w' (fit0 w').raw (by decide) (by decide)
                have hbz := fun w' => build_Txslot0 w'
                simp only [hk0.out] at cO cS hbz
                clear hk0
                go_upto_region 23 with fail
                try simp only [Act.put]
                refine wp_region_list ?_
                refine wpList_load_mid rfl 37 _ rfl _ _ rfl k0 _ hxr Tryd.underlying37 rfl i0 ?_
                go_wp2_with fail
                refine cO.mono ?_
                rintro _ w5 ⟨rfl, hB5⟩
                go_wp2_with (refine wpList_build rfl 44 [] rfl [] (.agg k0.toArray) rfl (hbz _) ?_)
                refine (cS w5).mono ?_
                rintro _ w6 ⟨rfl, hB6⟩
                have hB56 := hB5.trans (hB6.mono hB5.size)
                have hmid := hmid.below hB56
                have HI : Hid (∃ (s : Sl) (m : Int → Option (List Int)) (n : Nat), SlAt w6 S s ∧ MapD w6 M n m ∧ n ≤ i + 1 ∧ Inv s m ∧ s.fit w ∧ Below w.heap.size w w6) := hide ⟨s, m, n, hmid.s, hmid.m, by omega, hinv, hfit, hmid.b⟩
                clear hmid hB5 hB6 hB56 cO cS hxr hB
                go_wp2_with fail
                go_roundw
                case rel => first | exact ⟨i + 1, by omega, by go_num, HI⟩ | ((repeat apply Exists.intro); exact ⟨⟨i + 1, by omega, by go_num, HI⟩, rfl⟩)
                case measure => first | (simp [intOf]; omega) | omega
            case pos =>
              subst he
              have W := hwent rfl
              clear hwent herr
              have PS := hmid.s.parts hfit.raw.vok
              have PX := hmid.x.parts hfx.raw.vok
              have s3 := PS.is
              have x3 := PX.is
              have s0 := PS.vw
              have x0 := PX.vw
              have s43 := PS.ho
              have x43 := PX.ho
              have s8 := (Vt.four PS.hv).2.2.1
              have x8 := (Vt.four PX.hv).2.2.1
              simp only [Nat.reduceAdd] at s8 x8
              have s84 := PS.de
              have x84 := PX.de
              have se := PS.e
              have xe := PX.e
              clear PS PX
              go_upto_region 25 with fail
              go_cut [135] (fun v wx => v = .bool false ∧ Hid (Mid18 w S M X s x m n wx))
              case first =>
                cases e1 : s.is
                · as_aux_lemma =>
                    rw [e1] at s3
                    clear e1
                    try simp only [Act.put]
                    refine pl_begin ?_
                    refine pl_take (d := some 83) (v := ?_) (by rfl) ?_ rfl ?_
                    rotate_left
                    · go_simp
                      try with_reducible rfl
                    simp only [Act.put, List.setIfInBounds_toArray, List.set_cons_zero, List.set_cons_succ]
                    refine pl_take (d := some 84) (v := _) (by rfl) (pl_one rfl rfl s3 Tryd.underlying4 rfl) rfl ?_
                    simp only [Act.put, List.setIfInBounds_toArray, List.set_cons_zero, List.set_cons_succ]
                    refine pl_take (d := some 85) (v := ?_) (by rfl) ?_ rfl ?_
                    rotate_left
                    · go_simp
                      try with_reducible rfl
                    simp only [Act.put, List.setIfInBounds_toArray, List.set_cons_zero, List.set_cons_succ]
                    refine pl_skip (d := some 86) (by rfl) rfl ?_
                    simp only [Act.put, List.setIfInBounds_toArray, List.set_cons_zero, List.set_cons_succ]
                    refine pl_skip (d := some 87) (by rfl) rfl ?_
                    simp only [Act.put, List.setIfInBounds_toArray, List.set_cons_zero, List.set_cons_succ]
                    refine pl_skip (d := some 88) (by rfl) rfl ?_
                    simp only [Act.put, List.setIfInBounds_toArray, List.set_cons_zero, List.set_cons_succ]
                    refine pl_skip (d := some 89) (by rfl) rfl ?_
                    simp only [Act.put, List.setIfInBounds_toArray, List.set_cons_zero, List.set_cons_succ]
                    refine pl_skip (d := some 90) (by rfl) rfl ?_
                    simp only [Act.put, List.setIfInBounds_toArray, List.set_cons_zero, List.set_cons_succ]
                    refine pl_skip (d := some 91) (by rfl) rfl ?_
                    simp only [Act.put, List.setIfInBounds_toArray, List.set_cons_zero, List.set_cons_succ]
                    refine pl_skip (d := some 92) (by rfl) rfl ?_
                    simp only [Act.put, List.setIfInBounds_toArray, List.set_cons_zero, List.set_cons_succ]
                    refine pl_skip (d := some 93) (by rfl) rfl ?_
                    simp only [Act.put, List.setIfInBounds_toArray, List.set_cons_zero, List.set_cons_succ]
                    refine pl_skip (d := some 94) (by rfl) rfl ?_
                    simp only [Act.put, List.setIfInBounds_toArray, List.set_cons_zero, List.set_cons_succ]
                    refine pl_skip (d := some 95) (by rfl) rfl ?_
                    simp only [Act.put, List.setIfInBounds_toArray, List.set_cons_zero, List.set_cons_succ]
                    refine pl_take (d := some 96) (v := ?_) (by rfl) ?_ rfl ?_
                    rotate_left
                    · go_simp
                      try with_reducible rfl
                    simp only [Act.put, List.setIfInBounds_toArray, List.set_cons_zero, List.set_cons_succ]
                    refine pl_take (d := some 97) (v := ?_) (by rfl) ?_ rfl ?_
                    rotate_left
                    · go_simp
                      try with_reducible rfl
                    simp only [Act.put, List.setIfInBounds_toArray, List.set_cons_zero, List.set_cons_succ]
                    refine pl_take (d := some 98) (v := ?_) (by rfl) ?_ rfl ?_
                    rotate_left
                    · go_simp
                      try with_reducible rfl
                    simp only [Act.put, List.setIfInBounds_toArray, List.set_cons_zero, List.set_cons_succ]
                    refine pl_take (d := some 99) (v := _) (by rfl) (pl_one rfl rfl s43 Tryd.underlying4 rfl) rfl ?_
                    simp only [Act.put, List.setIfInBounds_toArray, List.set_cons_zero, List.set_cons_succ]
                    refine pl_take (d := some 100) (v := ?_) (by rfl) ?_ rfl ?_
                    rotate_left
                    · go_simp
                      try with_reducible rfl
                    simp only [Act.put, List.setIfInBounds_toArray, List.set_cons_zero, List.set_cons_succ]
                    cases e2 : s.ho
                    · as_aux_lemma =>
                        rw [e2] at s43
                        clear e2
                        refine pl_skip (d := some 101) (by rfl) rfl ?_
                        simp only [Act.put, List.setIfInBounds_toArray, List.set_cons_zero, List.set_cons_succ]
                        refine pl_skip (d := some 102) (by rfl) rfl ?_
                        simp only [Act.put, List.setIfInBounds_toArray, List.set_cons_zero, List.set_cons_succ]
                        refine pl_skip (d := some 103) (by rfl) rfl ?_
                        simp only [Act.put, List.setIfInBounds_toArray, List.set_cons_zero, List.set_cons_succ]
                        refine pl_skip (d := some 104) (by rfl) rfl ?_
                        simp only [Act.put, List.setIfInBounds_toArray, List.set_cons_zero, List.set_cons_succ]
                        refine pl_skip (d := some 105) (by rfl) rfl ?_
                        simp only [Act.put, List.setIfInBounds_toArray, List.set_cons_zero, List.set_cons_succ]
                        refine pl_skip (d := some 106) (by rfl) rfl ?_
                        simp only [Act.put, List.setIfInBounds_toArray, List.set_cons_zero, List.set_cons_succ]
                        refine pl_skip (d := some 107) (by rfl) rfl ?_
                        simp only [Act.put, List.setIfInBounds_toArray, List.set_cons_zero, List.set_cons_succ]
                        refine pl_skip (d := some 108) (by rfl) rfl ?_
                        simp only [Act.put, List.setIfInBounds_toArray, List.set_cons_zero, List.set_cons_succ]
                        refine pl_skip (d := some 109) (by rfl) rfl ?_
                        simp only [Act.put, List.setIfInBounds_toArray, List.set_cons_zero, List.set_cons_succ]
                        refine pl_skip (d := some 110) (by rfl) rfl ?_
                        simp only [Act.put, List.setIfInBounds_toArray, List.set_cons_zero, List.set_cons_succ]
                        refine pl_skip (d := some 111) (by rfl) rfl ?_
                        simp only [Act.put, List.setIfInBounds_toArray, List.set_cons_zero, List.set_cons_succ]
                        refine pl_skip (d := some 112) (by rfl) rfl ?_
                        simp only [Act.put, List.setIfInBounds_toArray, List.set_cons_zero, List.set_cons_succ]
                        refine pl_skip (d := some 113) (by rfl) rfl ?_
                        simp only [Act.put, List.setIfInBounds_toArray, List.set_cons_zero, List.set_cons_succ]
                        refine pl_skip (d := some 114) (by rfl) rfl ?_
                        simp only [Act.put, List.setIfInBounds_toArray, List.set_cons_zero, List.set_cons_succ]
                        refine pl_skip (d := some 115) (by rfl) rfl ?_
                        simp only [Act.put, List.setIfInBounds_toArray, List.set_cons_zero, List.set_cons_succ]
                        refine pl_skip (d := some 116) (by rfl) rfl ?_
                        simp only [Act.put, List.setIfInBounds_toArray, List.set_cons_zero, List.set_cons_succ]
                        refine pl_take (d := some 117) (v := ?_) (by rfl) ?_ rfl ?_
                        rotate_left
                        · go_simp
                          try with_reducible rfl
                        simp only [Act.put, List.setIfInBounds_toArray, List.set_cons_zero, List.set_cons_succ]
                        refine pl_take (d := some 118) (v := ?_) (by rfl) ?_ rfl ?_
                        rotate_left
                        · go_simp
                          try with_reducible rfl
                        simp only [Act.put, List.setIfInBounds_toArray, List.set_cons_zero, List.set_cons_succ]
                        refine pl_take (d := some 119) (v := ?_) (by rfl) ?_ rfl ?_
                        rotate_left
                        · go_simp
                          try with_reducible rfl
                        simp only [Act.put, List.setIfInBounds_toArray, List.set_cons_zero, List.set_cons_succ]
                        refine pl_take (d := some 120) (v := ?_) (by rfl) ?_ rfl ?_
                        rotate_left
                        · go_simp
                          try with_reducible rfl
                        simp only [Act.put, List.setIfInBounds_toArray, List.set_cons_zero, List.set_cons_succ]
                        refine pl_take (d := some 121) (v := _) (by rfl) (pl_one rfl rfl s84 Tryd.underlying4 rfl) rfl ?_
                        simp only [Act.put, List.setIfInBounds_toArray, List.set_cons_zero, List.set_cons_succ]
                        refine pl_take (d := some 122) (v := ?_) (by rfl) ?_ rfl ?_
                        rotate_left
                        · go_simp
                          try with_reducible rfl
                        simp only [Act.put, List.setIfInBounds_toArray, List.set_cons_zero, List.set_cons_succ]
                        cases e3 : s.de
                        · as_aux_lemma =>
                            rw [e3] at s84
                            clear e3 W
                            have HM := hide hmid
                            clear hmid
                            refine pl_skip (d := some 123) (by rfl) rfl ?_
                            simp only [Act.put, List.setIfInBounds_toArray, List.set_cons_zero, List.set_cons_succ]
                            refine pl_skip (d := some 124) (by rfl) rfl ?_
                            simp only [Act.put, List.setIfInBounds_toArray, List.set_cons_zero, List.set_cons_succ]
                            refine pl_skip (d := some 125) (by rfl) rfl ?_
                            simp only [Act.put, List.setIfInBounds_toArray, List.set_cons_zero, List.set_cons_succ]
                            refine pl_skip (d := some 126) (by rfl) rfl ?_
                            simp only [Act.put, List.setIfInBounds_toArray, List.set_cons_zero, List.set_cons_succ]
                            refine pl_skip (d := some 127) (by rfl) rfl ?_
                            simp only [Act.put, List.setIfInBounds_toArray, List.set_cons_zero, List.set_cons_succ]
                            refine pl_skip (d := some 128) (by rfl) rfl ?_
                            simp only [Act.put, List.setIfInBounds_toArray, List.set_cons_zero, List.set_cons_succ]
                            refine pl_skip (d := some 129) (by rfl) rfl ?_
                            simp only [Act.put, List.setIfInBounds_toArray, List.set_cons_zero, List.set_cons_succ]
                            refine pl_skip (d := some 130) (by rfl) rfl ?_
                            simp only [Act.put, List.setIfInBounds_toArray, List.set_cons_zero, List.set_cons_succ]
                            refine pl_skip (d := some 131) (by rfl) rfl ?_
                            simp only [Act.put, List.setIfInBounds_toArray, List.set_cons_zero, List.set_cons_succ]
                            refine pl_skip (d := some 132) (by rfl) rfl ?_
                            simp only [Act.put, List.setIfInBounds_toArray, List.set_cons_zero, List.set_cons_succ]
                            refine pl_skip (d := some 133) (by rfl) rfl ?_
                            simp only [Act.put, List.setIfInBounds_toArray, List.set_cons_zero, List.set_cons_succ]
                            refine pl_take (d := some 134) (v := ?_) (by rfl) ?_ rfl ?_
                            rotate_left
                            · go_simp
                              try with_reducible rfl
                            simp only [Act.put, List.setIfInBounds_toArray, List.set_cons_zero, List.set_cons_succ]
                            refine pl_take (d := some 135) (v := ?_) (by rfl) ?_ rfl ?_
                            rotate_left
                            · go_simp
                              try with_reducible rfl
                            simp only [Act.put, List.setIfInBounds_toArray, List.set_cons_zero, List.set_cons_succ]
                            refine pl_nil ?_
                            go_wp2_with fail
                            go_meet
                            exact ⟨rfl, HM⟩
                        · as_aux_lemma =>
                            rw [e3] at s84
                            obtain ⟨h1, h2, h3, h4⟩ := W.de e3
                            rw [h1] at x84
                            rw [h2, h3, h4] at xe
                            have cE := xent_self s.es s.eb s.ec (by have := hfit.small.ec; omega) wc (hfit.raw.eb.below hmid.b) (hfit.raw.ec.below hmid.b)
                            have hie : (Tryd.prog.info? 35).map (·.size) = some (entC s.es s.eb s.ec).length := by rw [entC_len hfit.raw.ec.v]; exact iszEn
                            obtain ⟨en, hen⟩ : ∃ en, Hid (entC s.es s.eb s.ec = en) := ⟨_, hide rfl⟩
                            rw [hen.out] at xe se hie cE
                            clear h1 h2 h3 h4 hen
                            clear e3 W
                            refine pl_take (d := some 123) (v := ?_) (by rfl) ?_ rfl ?_
                            rotate_left
                            · go_simp
                              try with_reducible rfl
                            simp only [Act.put, List.setIfInBounds_toArray, List.set_cons_zero, List.set_cons_succ]
                            refine pl_take (d := some 124) (v := _) (by rfl) (pl_one rfl rfl x84 Tryd.underlying4 rfl) rfl ?_
                            simp only [Act.put, List.setIfInBounds_toArray, List.set_cons_zero, List.set_cons_succ]
                            refine pl_take (d := some 125) (v := ?_) (by rfl) ?_ rfl ?_
                            rotate_left
                            · go_simp
                              try with_reducible rfl
                            simp only [Act.put, List.setIfInBounds_toArray, List.set_cons_zero, List.set_cons_succ]
                            refine pl_take (d := some 126) (v := ?_) (by rfl) ?_ rfl ?_
                            rotate_left
                            · go_simp
                              try with_reducible rfl
                            simp only [Act.put, List.setIfInBounds_toArray, List.set_cons_zero, List.set_cons_succ]
                            refine pl_take (d := some 127) (v := ?_) (by rfl) ?_ rfl ?_
                            rotate_left
                            · go_simp
                              try with_reducible rfl
                            simp only [Act.put, List.setIfInBounds_toArray, List.set_cons_zero, List.set_cons_succ]
                            refine pl_take (d := some 128) (v := .agg en.toArray) (by rfl) (ex_mid rfl rfl xe Tryd.underlying35 rfl hie) rfl ?_
                            simp only [Act.put, List.setIfInBounds_toArray, List.set_cons_zero, List.set_cons_succ]
                            refine pl_take (d := some 129) (v := ?_) (by rfl) ?_ rfl ?_
                            rotate_left
                            · go_simp
                              try with_reducible rfl
                            simp only [Act.put, List.setIfInBounds_toArray, List.set_cons_zero, List.set_cons_succ]
                            refine pl_take (d := some 130) (v := .agg en.toArray) (by rfl) (ex_mid rfl rfl se Tryd.underlying35 rfl hie) rfl ?_
                            simp only [Act.put, List.setIfInBounds_toArray, List.set_cons_zero, List.set_cons_succ]
                            refine pl_call (d := some 131) (by rfl) (by go_simp; first | done | exact ⟨rfl, rfl⟩ | with_reducible rfl) rfl ?_
                            refine cE.mono ?_
                            rintro _ w5 ⟨rfl, hB5⟩
                            have HM := hide (hmid.below hB5)
                            clear cE hB5 se xe hmid
                            refine ⟨_, rfl, ?_⟩
                            simp only [Act.put, List.setIfInBounds_toArray, List.set_cons_zero, List.set_cons_succ]
                            refine pl_take (d := some 132) (v := ?_) (by rfl) ?_ rfl ?_
                            rotate_left
                            · go_simp
                              try with_reducible rfl
                            simp only [Act.put, List.setIfInBounds_toArray, List.set_cons_zero, List.set_cons_succ]
                            refine pl_take (d := some 133) (v := ?_) (by rfl) ?_ rfl ?_
                            rotate_left
                            · go_simp
                              try with_reducible rfl
                            simp only [Act.put, List.setIfInBounds_toArray, List.set_cons_zero, List.set_cons_succ]
                            refine pl_take (d := some 134) (v := ?_) (by rfl) ?_ rfl ?_
                            rotate_left
                            · go_simp
                              try with_reducible rfl
                            simp only [Act.put, List.setIfInBounds_toArray, List.set_cons_zero, List.set_cons_succ]
                            refine pl_take (d := some 135) (v := ?_) (by rfl) ?_ rfl ?_
                            rotate_left
                            · go_simp
                              try with_reducible rfl
                            simp only [Act.put, List.setIfInBounds_toArray, List.set_cons_zero, List.set_cons_succ]
                            refine pl_nil ?_
                            go_wp2_with fail
                            go_meet
                            exact ⟨rfl, HM⟩
                    · as_aux_lemma =>
                        rw [e2] at s43
                        obtain ⟨g1, g2⟩ := W.ho e2
                        rw [g1] at x43
                        have g3 : ¬ x.hc.v.v < s.hc.v.v := by omega
                        have g3b : decide (x.hc.v.v < s.hc.v.v) = false := decide_eq_false g3
                        clear e2
                        refine pl_take (d := some 101) (v := ?_) (by rfl) ?_ rfl ?_
                        rotate_left
                        · go_simp
                          try with_reducible rfl
                        simp only [Act.put, List.setIfInBounds_toArray, List.set_cons_zero, List.set_cons_succ]
                        refine pl_take (d := some 102) (v := _) (by rfl) (pl_one rfl rfl x43 Tryd.underlying4 rfl) rfl ?_
                        simp only [Act.put, List.setIfInBounds_toArray, List.set_cons_zero, List.set_cons_succ]
                        refine pl_take (d := some 103) (v := ?_) (by rfl) ?_ rfl ?_
                        rotate_left
                        · go_simp
                          try with_reducible rfl
                        simp only [Act.put, List.setIfInBounds_toArray, List.set_cons_zero, List.set_cons_succ]
                        refine pl_take (d := some 104) (v := ?_) (by rfl) ?_ rfl ?_
                        rotate_left
                        · go_simp
                          try with_reducible rfl
                        simp only [Act.put, List.setIfInBounds_toArray, List.set_cons_zero, List.set_cons_succ]
                        refine pl_take (d := some 105) (v := ?_) (by rfl) ?_ rfl ?_
                        rotate_left
                        · go_simp
                          try with_reducible rfl
                        simp only [Act.put, List.setIfInBounds_toArray, List.set_cons_zero, List.set_cons_succ]
                        refine pl_take (d := some 106) (v := ?_) (by rfl) ?_ rfl ?_
                        rotate_left
                        · go_simp
                          try with_reducible rfl
                        simp only [Act.put, List.setIfInBounds_toArray, List.set_cons_zero, List.set_cons_succ]
                        refine pl_take (d := some 107) (v := ?_) (by rfl) ?_ rfl ?_
                        rotate_left
                        · go_simp
                          try with_reducible rfl
                        simp only [Act.put, List.setIfInBounds_toArray, List.set_cons_zero, List.set_cons_succ]
                        refine pl_take (d := some 108) (v := ?_) (by rfl) ?_ rfl ?_
                        rotate_left
                        · go_simp
                          try with_reducible rfl
                        simp only [Act.put, List.setIfInBounds_toArray, List.set_cons_zero, List.set_cons_succ]
                        refine pl_take (d := some 109) (v := _) (by rfl) (pl_one rfl rfl x8 Tryd.underlying3 rfl) rfl ?_
                        simp only [Act.put, List.setIfInBounds_toArray, List.set_cons_zero, List.set_cons_succ]
                        refine pl_take (d := some 110) (v := ?_) (by rfl) ?_ rfl ?_
                        rotate_left
                        · go_simp
                          try with_reducible rfl
                        simp only [Act.put, List.setIfInBounds_toArray, List.set_cons_zero, List.set_cons_succ]
                        refine pl_take (d := some 111) (v := ?_) (by rfl) ?_ rfl ?_
                        rotate_left
                        · go_simp
                          try with_reducible rfl
                        simp only [Act.put, List.setIfInBounds_toArray, List.set_cons_zero, List.set_cons_succ]
                        refine pl_take (d := some 112) (v := ?_) (by rfl) ?_ rfl ?_
                        rotate_left
                        · go_simp
                          try with_reducible rfl
                        simp only [Act.put, List.setIfInBounds_toArray, List.set_cons_zero, List.set_cons_succ]
                        refine pl_take (d := some 113) (v := ?_) (by rfl) ?_ rfl ?_
                        rotate_left
                        · go_simp
                          try with_reducible rfl
                        simp only [Act.put, List.setIfInBounds_toArray, List.set_cons_zero, List.set_cons_succ]
                        refine pl_take (d := some 114) (v := _) (by rfl) (pl_one rfl rfl s8 Tryd.underlying3 rfl) rfl ?_
                        simp only [Act.put, List.setIfInBounds_toArray, List.set_cons_zero, List.set_cons_succ]
                        refine pl_take (d := some 115) (v := ?_) (by rfl) ?_ rfl ?_
                        rotate_left
                        · go_simp
                          try with_reducible rfl
                        simp only [Act.put, List.setIfInBounds_toArray, List.set_cons_zero, List.set_cons_succ]
                        refine pl_take (d := some 116) (v := ?_) (by rfl) ?_ rfl ?_
                        rotate_left
                        · go_simp
                          try with_reducible rfl
                        simp only [Act.put, List.setIfInBounds_toArray, List.set_cons_zero, List.set_cons_succ]
                        refine pl_take (d := some 117) (v := ?_) (by rfl) ?_ rfl ?_
                        rotate_left
                        · go_simp
                          try with_reducible rfl
                        simp only [Act.put, List.setIfInBounds_toArray, List.set_cons_zero, List.set_cons_succ]
                        refine pl_take (d := some 118) (v := ?_) (by rfl) ?_ rfl ?_
                        rotate_left
                        · go_simp
                          try with_reducible rfl
                        simp only [Act.put, List.setIfInBounds_toArray, List.set_cons_zero, List.set_cons_succ]
                        refine pl_take (d := some 119) (v := ?_) (by rfl) ?_ rfl ?_
                        rotate_left
                        · go_simp
                          try with_reducible rfl
                        simp only [Act.put, List.setIfInBounds_toArray, List.set_cons_zero, List.set_cons_succ]
                        refine pl_take (d := some 120) (v := ?_) (by rfl) ?_ rfl ?_
                        rotate_left
                        · go_simp
                          try with_reducible rfl
                        simp only [Act.put, List.setIfInBounds_toArray, List.set_cons_zero, List.set_cons_succ]
                        refine pl_take (d := some 121) (v := _) (by rfl) (pl_one rfl rfl s84 Tryd.underlying4 rfl) rfl ?_
                        simp only [Act.put, List.setIfInBounds_toArray, List.set_cons_zero, List.set_cons_succ]
                        refine pl_take (d := some 122) (v := ?_) (by rfl) ?_ rfl ?_
                        rotate_left
                        · go_simp
                          try with_reducible rfl
                        simp only [Act.put, List.setIfInBounds_toArray, List.set_cons_zero, List.set_cons_succ]
                        cases e3 : s.de
                        · as_aux_lemma =>
                            rw [e3] at s84
                            clear e3 W
                            have HM := hide hmid
                            clear hmid
                            refine pl_skip (d := some 123) (by rfl) rfl ?_
                            simp only [Act.put, List.setIfInBounds_toArray, List.set_cons_zero, List.set_cons_succ]
                            refine pl_skip (d := some 124) (by rfl) rfl ?_
                            simp only [Act.put, List.setIfInBounds_toArray, List.set_cons_zero, List.set_cons_succ]
                            refine pl_skip (d := some 125) (by rfl) rfl ?_
                            simp only [Act.put, List.setIfInBounds_toArray, List.set_cons_zero, List.set_cons_succ]
                            refine pl_skip (d := some 126) (by rfl) rfl ?_
                            simp only [Act.put, List.setIfInBounds_toArray, List.set_cons_zero, List.set_cons_succ]
                            refine pl_skip (d := some 127) (by rfl) rfl ?_
                            simp only [Act.put, List.setIfInBounds_toArray, List.set_cons_zero, List.set_cons_succ]
                            refine pl_skip (d := some 128) (by rfl) rfl ?_
                            simp only [Act.put, List.setIfInBounds_toArray, List.set_cons_zero, List.set_cons_succ]
                            refine pl_skip (d := some 129) (by rfl) rfl ?_
                            simp only [Act.put, List.setIfInBounds_toArray, List.set_cons_zero, List.set_cons_succ]
                            refine pl_skip (d := some 130) (by rfl) rfl ?_
                            simp only [Act.put, List.setIfInBounds_toArray, List.set_cons_zero, List.set_cons_succ]
                            refine pl_skip (d := some 131) (by rfl) rfl ?_
                            simp only [Act.put, List.setIfInBounds_toArray, List.set_cons_zero, List.set_cons_succ]
                            refine pl_skip (d := some 132) (by rfl) rfl ?_
                            simp only [Act.put, List.setIfInBounds_toArray, List.set_cons_zero, List.set_cons_succ]
                            refine pl_skip (d := some 133) (by rfl) rfl ?_
                            simp only [Act.put, List.setIfInBounds_toArray, List.set_cons_zero, List.set_cons_succ]
                            refine pl_take (d := some 134) (v := ?_) (by rfl) ?_ rfl ?_
                            rotate_left
                            · go_simp
                              try with_reducible rfl
                            simp only [Act.put, List.setIfInBounds_toArray, List.set_cons_zero, List.set_cons_succ]
                            refine pl_take (d := some 135) (v := ?_) (by rfl) ?_ rfl ?_
                            rotate_left
                            · go_simp
                              try with_reducible rfl
                            simp only [Act.put, List.setIfInBounds_toArray, List.set_cons_zero, List.set_cons_succ]
                            refine pl_nil ?_
                            go_wp2_with fail
                            go_meet
                            exact ⟨rfl, HM⟩
                        · as_aux_lemma =>
                            rw [e3] at s84
                            obtain ⟨h1, h2, h3, h4⟩ := W.de e3
                            rw [h1] at x84
                            rw [h2, h3, h4] at xe
                            have cE := xent_self s.es s.eb s.ec (by have := hfit.small.ec; omega) wc (hfit.raw.eb.below hmid.b) (hfit.raw.ec.below hmid.b)
                            have hie : (Tryd.prog.info? 35).map (·.size) = some (entC s.es s.eb s.ec).length := by rw [entC_len hfit.raw.ec.v]; exact iszEn
                            obtain ⟨en, hen⟩ : ∃ en, Hid (entC s.es s.eb s.ec = en) := ⟨_, hide rfl⟩
                            rw [hen.out] at xe se hie cE
                            clear h1 h2 h3 h4 hen
                            clear e3 W
                            refine pl_take (d := some 123) (v := ?_) (by rfl) ?_ rfl ?_
                            rotate_left
                            · go_simp
                              try with_reducible rfl
                            simp only [Act.put, List.setIfInBounds_toArray, List.set_cons_zero, List.set_cons_succ]
                            refine pl_take (d := some 124) (v := _) (by rfl) (pl_one rfl rfl x84 Tryd.underlying4 rfl) rfl ?_
                            simp only [Act.put, List.setIfInBounds_toArray, List.set_cons_zero, List.set_cons_succ]
                            refine pl_take (d := some 125) (v := ?_) (by rfl) ?_ rfl ?_
                            rotate_left
                            · go_simp
                              try with_reducible rfl
                            simp only [Act.put, List.setIfInBounds_toArray, List.set_cons_zero, List.set_cons_succ]
                            refine pl_take (d := some 126) (v := ?_) (by rfl) ?_ rfl ?_
                            rotate_left
                            · go_simp
                              try with_reducible rfl
                            simp only [Act.put, List.setIfInBounds_toArray, List.set_cons_zero, List.set_cons_succ]
                            refine pl_take (d := some 127) (v := ?_) (by rfl) ?_ rfl ?_
                            rotate_left
                            · go_simp
                              try with_reducible rfl
                            simp only [Act.put, List.setIfInBounds_toArray, List.set_cons_zero, List.set_cons_succ]
                            refine pl_take (d := some 128) (v := .agg en.toArray) (by rfl) (ex_mid rfl rfl xe Tryd.underlying35 rfl hie) rfl ?_
                            simp only [Act.put, List.setIfInBounds_toArray, List.set_cons_zero, List.set_cons_succ]
                            refine pl_take (d := some 129) (v := ?_) (by rfl) ?_ rfl ?_
                            rotate_left
                            · go_simp
                              try with_reducible rfl
                            simp only [Act.put, List.setIfInBounds_toArray, List.set_cons_zero, List.set_cons_succ]
                            refine pl_take (d := some 130) (v := .agg en.toArray) (by rfl) (ex_mid rfl rfl se Tryd.underlying35 rfl hie) rfl ?_
                            simp only [Act.put, List.setIfInBounds_toArray, List.set_cons_zero, List.set_cons_succ]
                            refine pl_call (d := some 131) (by rfl) (by go_simp; first | done | exact ⟨rfl, rfl⟩ | with_reducible rfl) rfl ?_
                            refine cE.mono ?_
                            rintro _ w5 ⟨rfl, hB5⟩
                            have HM := hide (hmid.below hB5)
                            clear cE hB5 se xe hmid
                            refine ⟨_, rfl, ?_⟩
                            simp only [Act.put, List.setIfInBounds_toArray, List.set_cons_zero, List.set_cons_succ]
                            refine pl_take (d := some 132) (v := ?_) (by rfl) ?_ rfl ?_
                            rotate_left
                            · go_simp
                              try with_reducible rfl
                            simp only [Act.put, List.setIfInBounds_toArray, List.set_cons_zero, List.set_cons_succ]
                            refine pl_take (d := some 133) (v := ?_) (by rfl) ?_ rfl ?_
                            rotate_left
                            · go_simp
                              try with_reducible rfl
                            simp only [Act.put, List.setIfInBounds_toArray, List.set_cons_zero, List.set_cons_succ]
                            refine pl_take (d := some 134) (v := ?_) (by rfl) ?_ rfl ?_
                            rotate_left
                            · go_simp
                              try with_reducible rfl
                            simp only [Act.put, List.setIfInBounds_toArray, List.set_cons_zero, List.set_cons_succ]
                            refine pl_take (d := some 135) (v := ?_) (by rfl) ?_ rfl ?_
                            rotate_left
                            · go_simp
                              try with_reducible rfl
                            simp only [Act.put, List.setIfInBounds_toArray, List.set_cons_zero, List.set_cons_succ]
                            refine pl_nil ?_
                            go_wp2_with fail
                            go_meet
                            exact ⟨rfl, HM⟩
                · as_aux_lemma =>
                    rw [e1] at s3
                    obtain ⟨f1, f2⟩ := W.is e1
                    rw [f1] at x3
                    have f3 : ¬ x.vw < s.vw := by omega
                    have f3b : decide (x.vw < s.vw) = false := decide_eq_false f3
                    clear e1
                    try simp only [Act.put]
                    refine pl_begin ?_
                    refine pl_take (d := some 83) (v := ?_) (by rfl) ?_ rfl ?_
                    rotate_left
                    · go_simp
                      try with_reducible rfl
                    simp only [Act.put, List.setIfInBounds_toArray, List.set_cons_zero, List.set_cons_succ]
                    refine pl_take (d := some 84) (v := _) (by rfl) (pl_one rfl rfl s3 Tryd.underlying4 rfl) rfl ?_
                    simp only [Act.put, List.setIfInBounds_toArray, List.set_cons_zero, List.set_cons_succ]
                    refine pl_take (d := some 85) (v := ?_) (by rfl) ?_ rfl ?_
                    rotate_left
                    · go_simp
                      try with_reducible rfl
                    simp only [Act.put, List.setIfInBounds_toArray, List.set_cons_zero, List.set_cons_succ]
                    refine pl_take (d := some 86) (v := ?_) (by rfl) ?_ rfl ?_
                    rotate_left
                    · go_simp
                      try with_reducible rfl
                    simp only [Act.put, List.setIfInBounds_toArray, List.set_cons_zero, List.set_cons_succ]
                    refine pl_take (d := some 87) (v := _) (by rfl) (pl_one rfl rfl x3 Tryd.underlying4 rfl) rfl ?_
                    simp only [Act.put, List.setIfInBounds_toArray, List.set_cons_zero, List.set_cons_succ]
                    refine pl_take (d := some 88) (v := ?_) (by rfl) ?_ rfl ?_
                    rotate_left
                    · go_simp
                      try with_reducible rfl
                    simp only [Act.put, List.setIfInBounds_toArray, List.set_cons_zero, List.set_cons_succ]
                    refine pl_take (d := some 89) (v := ?_) (by rfl) ?_ rfl ?_
                    rotate_left
                    · go_simp
                      try with_reducible rfl
                    simp only [Act.put, List.setIfInBounds_toArray, List.set_cons_zero, List.set_cons_succ]
                    refine pl_take (d := some 90) (v := ?_) (by rfl) ?_ rfl ?_
                    rotate_left
                    · go_simp
                      try with_reducible rfl
                    simp only [Act.put, List.setIfInBounds_toArray, List.set_cons_zero, List.set_cons_succ]
                    refine pl_take (d := some 91) (v := _) (by rfl) (pl_one rfl rfl x0 Tryd.underlying3 rfl) rfl ?_
                    simp only [Act.put, List.setIfInBounds_toArray, List.set_cons_zero, List.set_cons_succ]
                    refine pl_take (d := some 92) (v := ?_) (by rfl) ?_ rfl ?_
                    rotate_left
                    · go_simp
                      try with_reducible rfl
                    simp only [Act.put, List.setIfInBounds_toArray, List.set_cons_zero, List.set_cons_succ]
                    refine pl_take (d := some 93) (v := _) (by rfl) (pl_one rfl rfl s0 Tryd.underlying3 rfl) rfl ?_
                    simp only [Act.put, List.setIfInBounds_toArray, List.set_cons_zero, List.set_cons_succ]
                    refine pl_take (d := some 94) (v := ?_) (by rfl) ?_ rfl ?_
                    rotate_left
                    · go_simp
                      try with_reducible rfl
                    simp only [Act.put, List.setIfInBounds_toArray, List.set_cons_zero, List.set_cons_succ]
                    refine pl_take (d := some 95) (v := ?_) (by rfl) ?_ rfl ?_
                    rotate_left
                    · go_simp
                      try with_reducible rfl
                    simp only [Act.put, List.setIfInBounds_toArray, List.set_cons_zero, List.set_cons_succ]
                    refine pl_take (d := some 96) (v := ?_) (by rfl) ?_ rfl ?_
                    rotate_left
                    · go_simp
                      try with_reducible rfl
                    simp only [Act.put, List.setIfInBounds_toArray, List.set_cons_zero, List.set_cons_succ]
                    refine pl_take (d := some 97) (v := ?_) (by rfl) ?_ rfl ?_
                    rotate_left
                    · go_simp
                      try with_reducible rfl
                    simp only [Act.put, List.setIfInBounds_toArray, List.set_cons_zero, List.set_cons_succ]
                    refine pl_take (d := some 98) (v := ?_) (by rfl) ?_ rfl ?_
                    rotate_left
                    · go_simp
                      try with_reducible rfl
                    simp only [Act.put, List.setIfInBounds_toArray, List.set_cons_zero, List.set_cons_succ]
                    refine pl_take (d := some 99) (v := _) (by rfl) (pl_one rfl rfl s43 Tryd.underlying4 rfl) rfl ?_
                    simp only [Act.put, List.setIfInBounds_toArray, List.set_cons_zero, List.set_cons_succ]
                    refine pl_take (d := some 100) (v := ?_) (by rfl) ?_ rfl ?_
                    rotate_left
                    · go_simp
                      try with_reducible rfl
                    simp only [Act.put, List.setIfInBounds_toArray, List.set_cons_zero, List.set_cons_succ]
                    cases e2 : s.ho
                    · as_aux_lemma =>
                        rw [e2] at s43
                        clear e2
                        refine pl_skip (d := some 101) (by rfl) rfl ?_
                        simp only [Act.put, List.setIfInBounds_toArray, List.set_cons_zero, List.set_cons_succ]
                        refine pl_skip (d := some 102) (by rfl) rfl ?_
                        simp only [Act.put, List.setIfInBounds_toArray, List.set_cons_zero, List.set_cons_succ]
                        refine pl_skip (d := some 103) (by rfl) rfl ?_
                        simp only [Act.put, List.setIfInBounds_toArray, List.set_cons_zero, List.set_cons_succ]
                        refine pl_skip (d := some 104) (by rfl) rfl ?_
                        simp only [Act.put, List.setIfInBounds_toArray, List.set_cons_zero, List.set_cons_succ]
                        refine pl_skip (d := some 105) (by rfl) rfl ?_
                        simp only [Act.put, List.setIfInBounds_toArray, List.set_cons_zero, List.set_cons_succ]
                        refine pl_skip (d := some 106) (by rfl) rfl ?_
                        simp only [Act.put, List.setIfInBounds_toArray, List.set_cons_zero, List.set_cons_succ]
                        refine pl_skip (d := some 107) (by rfl) rfl ?_
                        simp only [Act.put, List.setIfInBounds_toArray, List.set_cons_zero, List.set_cons_succ]
                        refine pl_skip (d := some 108) (by rfl) rfl ?_
                        simp only [Act.put, List.setIfInBounds_toArray, List.set_cons_zero, List.set_cons_succ]
                        refine pl_skip (d := some 109) (by rfl) rfl ?_
                        simp only [Act.put, List.setIfInBounds_toArray, List.set_cons_zero, List.set_cons_succ]
                        refine pl_skip (d := some 110) (by rfl) rfl ?_
                        simp only [Act.put, List.setIfInBounds_toArray, List.set_cons_zero, List.set_cons_succ]
                        refine pl_skip (d := some 111) (by rfl) rfl ?_
                        simp only [Act.put, List.setIfInBounds_toArray, List.set_cons_zero, List.set_cons_succ]
                        refine pl_skip (d := some 112) (by rfl) rfl ?_
                        simp only [Act.put, List.setIfInBounds_toArray, List.set_cons_zero, List.set_cons_succ]
                        refine pl_skip (d := some 113) (by rfl) rfl ?_
                        simp only [Act.put, List.setIfInBounds_toArray, List.set_cons_zero, List.set_cons_succ]
                        refine pl_skip (d := some 114) (by rfl) rfl ?_
                        simp only [Act.put, List.setIfInBounds_toArray, List.set_cons_zero, List.set_cons_succ]
                        refine pl_skip (d := some 115) (by rfl) rfl ?_
                        simp only [Act.put, List.setIfInBounds_toArray, List.set_cons_zero, List.set_cons_succ]
                        refine pl_skip (d := some 116) (by rfl) rfl ?_
                        simp only [Act.put, List.setIfInBounds_toArray, List.set_cons_zero, List.set_cons_succ]
                        refine pl_take (d := some 117) (v := ?_) (by rfl) ?_ rfl ?_
                        rotate_left
                        · go_simp
                          try with_reducible rfl
                        simp only [Act.put, List.setIfInBounds_toArray, List.set_cons_zero, List.set_cons_succ]
                        refine pl_take (d := some 118) (v := ?_) (by rfl) ?_ rfl ?_
                        rotate_left
                        · go_simp
                          try with_reducible rfl
                        simp only [Act.put, List.setIfInBounds_toArray, List.set_cons_zero, List.set_cons_succ]
                        refine pl_take (d := some 119) (v := ?_) (by rfl) ?_ rfl ?_
                        rotate_left
                        · go_simp
                          try with_reducible rfl
                        simp only [Act.put, List.setIfInBounds_toArray, List.set_cons_zero, List.set_cons_succ]
                        refine pl_take (d := some 120) (v := ?_) (by rfl) ?_ rfl ?_
                        rotate_left
                        · go_simp
                          try with_reducible rfl
                        simp only [Act.put, List.setIfInBounds_toArray, List.set_cons_zero, List.set_cons_succ]
                        refine pl_take (d := some 121) (v := _) (by rfl) (pl_one rfl rfl s84 Tryd.underlying4 rfl) rfl ?_
                        simp only [Act.put, List.setIfInBounds_toArray, List.set_cons_zero, List.set_cons_succ]
                        refine pl_take (d := some 122) (v := ?_) (by rfl) ?_ rfl ?_
                        rotate_left
                        · go_simp
                          try with_reducible rfl
                        simp only [Act.put, List.setIfInBounds_toArray, List.set_cons_zero, List.set_cons_succ]
                        cases e3 : s.de
                        · as_aux_lemma =>
                            rw [e3] at s84
                            clear e3 W
                            have HM := hide hmid
                            clear hmid
                            refine pl_skip (d := some 123) (by rfl) rfl ?_
                            simp only [Act.put, List.setIfInBounds_toArray, List.set_cons_zero, List.set_cons_succ]
                            refine pl_skip (d := some 124) (by rfl) rfl ?_
                            simp only [Act.put, List.setIfInBounds_toArray, List.set_cons_zero, List.set_cons_succ]
                            refine pl_skip (d := some 125) (by rfl) rfl ?_
                            simp only [Act.put, List.setIfInBounds_toArray, List.set_cons_zero, List.set_cons_succ]
                            refine pl_skip (d := some 126) (by rfl) rfl ?_
                            simp only [Act.put, List.setIfInBounds_toArray, List.set_cons_zero, List.set_cons_succ]
                            refine pl_skip (d := some 127) (by rfl) rfl ?_
                            simp only [Act.put, List.setIfInBounds_toArray, List.set_cons_zero, List.set_cons_succ]
                            refine pl_skip (d := some 128) (by rfl) rfl ?_
                            simp only [Act.put, List.setIfInBounds_toArray, List.set_cons_zero, List.set_cons_succ]
                            refine pl_skip (d := some 129) (by rfl) rfl ?_
                            simp only [Act.put, List.setIfInBounds_toArray, List.set_cons_zero, List.set_cons_succ]
                            refine pl_skip (d := some 130) (by rfl) rfl ?_
                            simp only [Act.put, List.setIfInBounds_toArray, List.set_cons_zero, List.set_cons_succ]
                            refine pl_skip (d := some 131) (by rfl) rfl ?_
                            simp only [Act.put, List.setIfInBounds_toArray, List.set_cons_zero, List.set_cons_succ]
                            refine pl_skip (d := some 132) (by rfl) rfl ?_
                            simp only [Act.put, List.setIfInBounds_toArray, List.set_cons_zero, List.set_cons_succ]
                            refine pl_skip (d := some 133) (by rfl) rfl ?_
                            simp only [Act.put, List.setIfInBounds_toArray, List.set_cons_zero, List.set_cons_succ]
                            refine pl_take (d := some 134) (v := ?_) (by rfl) ?_ rfl ?_
                            rotate_left
                            · go_simp
                              try with_reducible rfl
                            simp only [Act.put, List.setIfInBounds_toArray, List.set_cons_zero, List.set_cons_succ]
                            refine pl_take (d := some 135) (v := ?_) (by rfl) ?_ rfl ?_
                            rotate_left
                            · go_simp
                              try with_reducible rfl
                            simp only [Act.put, List.setIfInBounds_toArray, List.set_cons_zero, List.set_cons_succ]
                            refine pl_nil ?_
                            go_wp2_with fail
                            go_meet
                            exact ⟨rfl, HM⟩
                        · as_aux_lemma =>
                            rw [e3] at s84
                            obtain ⟨h1, h2, h3, h4⟩ := W.de e3
                            rw [h1] at x84
                            rw [h2, h3, h4] at xe
                            have cE := xent_self s.es s.eb s.ec (by have := hfit.small.ec; omega) wc (hfit.raw.eb.below hmid.b) (hfit.raw.ec.below hmid.b)
                            have hie : (Tryd.prog.info? 35).map (·.size) = some (entC s.es s.eb s.ec).length := by rw [entC_len hfit.raw.ec.v]; exact iszEn
                            obtain ⟨en, hen⟩ : ∃ en, Hid (entC s.es s.eb s.ec = en) := ⟨_, hide rfl⟩
                            rw [hen.out] at xe se hie cE
                            clear h1 h2 h3 h4 hen
                            clear e3 W
                            refine pl_take (d := some 123) (v := ?_) (by rfl) ?_ rfl ?_
                            rotate_left
                            · go_simp
                              try with_reducible rfl
                            simp only [Act.put, List.setIfInBounds_toArray, List.set_cons_zero, List.set_cons_succ]
                            refine pl_take (d := some 124) (v := _) (by rfl) (pl_one rfl rfl x84 Tryd.underlying4 rfl) rfl ?_
                            simp only [Act.put, List.setIfInBounds_toArray, List.set_cons_zero, List.set_cons_succ]
                            refine pl_take (d := some 125) (v := ?_) (by rfl) ?_ rfl ?_
                            rotate_left
                            · go_simp
                              try with_reducible rfl
                            simp only [Act.put, List.setIfInBounds_toArray, List.set_cons_zero, List.set_cons_succ]
                            refine pl_take (d := some 126) (v := ?_) (by rfl) ?_ rfl ?_
                            rotate_left
                            · go_simp
                              try with_reducible rfl
                            simp only [Act.put, List.setIfInBounds_toArray, List.set_cons_zero, List.set_cons_succ]
                            refine pl_take (d := some 127) (v := ?_) (by rfl) ?_ rfl ?_
                            rotate_left
                            · go_simp
                              try with_reducible rfl
                            simp only [Act.put, List.setIfInBounds_toArray, List.set_cons_zero, List.set_cons_succ]
                            refine pl_take (d := some 128) (v := .agg en.toArray) (by rfl) (ex_mid rfl rfl xe Tryd.underlying35 rfl hie) rfl ?_
                            simp only [Act.put, List.setIfInBounds_toArray, List.set_cons_zero, List.set_cons_succ]
                            refine pl_take (d := some 129) (v := ?_) (by rfl) ?_ rfl ?_
                            rotate_left
                            · go_simp
                              try with_reducible rfl
                            simp only [Act.put, List.setIfInBounds_toArray, List.set_cons_zero, List.set_cons_succ]
                            refine pl_take (d := some 130) (v := .agg en.toArray) (by rfl) (ex_mid rfl rfl se Tryd.underlying35 rfl hie) rfl ?_
                            simp only [Act.put, List.setIfInBounds_toArray, List.set_cons_zero, List.set_cons_succ]
                            refine pl_call (d := some 131) (by rfl) (by go_simp; first | done | exact ⟨rfl, rfl⟩ | with_reducible rfl) rfl ?_
                            refine cE.mono ?_
                            rintro _ w5 ⟨rfl, hB5⟩
                            have HM := hide (hmid.below hB5)
                            clear cE hB5 se xe hmid
                            refine ⟨_, rfl, ?_⟩
                            simp only [Act.put, List.setIfInBounds_toArray, List.set_cons_zero, List.set_cons_succ]
                            refine pl_take (d := some 132) (v := ?_) (by rfl) ?_ rfl ?_
                            rotate_left
                            · go_simp
                              try with_reducible rfl
                            simp only [Act.put, List.setIfInBounds_toArray, List.set_cons_zero, List.set_cons_succ]
                            refine pl_take (d := some 133) (v := ?_) (by rfl) ?_ rfl ?_
                            rotate_left
                            · go_simp
                              try with_reducible rfl
                            simp only [Act.put, List.setIfInBounds_toArray, List.set_cons_zero, List.set_cons_succ]
                            refine pl_take (d := some 134) (v := ?_) (by rfl) ?_ rfl ?_
                            rotate_left
                            · go_simp
                              try with_reducible rfl
                            simp only [Act.put, List.setIfInBounds_toArray, List.set_cons_zero, List.set_cons_succ]
                            refine pl_take (d := some 135) (v := ?_) (by rfl) ?_ rfl ?_
                            rotate_left
                            · go_simp
                              try with_reducible rfl
                            simp only [Act.put, List.setIfInBounds_toArray, List.set_cons_zero, List.set_cons_succ]
                            refine pl_nil ?_
                            go_wp2_with fail
                            go_meet
                            exact ⟨rfl, HM⟩
                    · as_aux_lemma =>
                        rw [e2] at s43
                        obtain ⟨g1, g2⟩ := W.ho e2
                        rw [g1] at x43
                        have g3 : ¬ x.hc.v.v < s.hc.v.v := by omega
                        have g3b : decide (x.hc.v.v < s.hc.v.v) = false := decide_eq_false g3
                        clear e2
                        refine pl_take (d := some 101) (v := ?_) (by rfl) ?_ rfl ?_
                        rotate_left
                        · go_simp
                          try with_reducible rfl
                        simp only [Act.put, List.setIfInBounds_toArray, List.set_cons_zero, List.set_cons_succ]
                        refine pl_take (d := some 102) (v := _) (by rfl) (pl_one rfl rfl x43 Tryd.underlying4 rfl) rfl ?_
                        simp only [Act.put, List.setIfInBounds_toArray, List.set_cons_zero, List.set_cons_succ]
                        refine pl_take (d := some 103) (v := ?_) (by rfl) ?_ rfl ?_
                        rotate_left
                        · go_simp
                          try with_reducible rfl
                        simp only [Act.put, List.setIfInBounds_toArray, List.set_cons_zero, List.set_cons_succ]
                        refine pl_take (d := some 104) (v := ?_) (by rfl) ?_ rfl ?_
                        rotate_left
                        · go_simp
                          try with_reducible rfl
                        simp only [Act.put, List.setIfInBounds_toArray, List.set_cons_zero, List.set_cons_succ]
                        refine pl_take (d := some 105) (v := ?_) (by rfl) ?_ rfl ?_
                        rotate_left
                        · go_simp
                          try with_reducible rfl
                        simp only [Act.put, List.setIfInBounds_toArray, List.set_cons_zero, List.set_cons_succ]
                        refine pl_take (d := some 106) (v := ?_) (by rfl) ?_ rfl ?_
                        rotate_left
                        · go_simp
                          try with_reducible rfl
                        simp only [Act.put, List.setIfInBounds_toArray, List.set_cons_zero, List.set_cons_succ]
                        refine pl_take (d := some 107) (v := ?_) (by rfl) ?_ rfl ?_
                        rotate_left
                        · go_simp
                          try with_reducible rfl
                        simp only [Act.put, List.setIfInBounds_toArray, List.set_cons_zero, List.set_cons_succ]
                        refine pl_take (d := some 108) (v := ?_) (by rfl) ?_ rfl ?_
                        rotate_left
                        · go_simp
                          try with_reducible rfl
                        simp only [Act.put, List.setIfInBounds_toArray, List.set_cons_zero, List.set_cons_succ]
                        refine pl_take (d := some 109) (v := _) (by rfl) (pl_one rfl rfl x8 Tryd.underlying3 rfl) rfl ?_
                        simp only [Act.put, List.setIfInBounds_toArray, List.set_cons_zero, List.set_cons_succ]
                        refine pl_take (d := some 110) (v := ?_) (by rfl) ?_ rfl ?_
                        rotate_left
                        · go_simp
                          try with_reducible rfl
                        simp only [Act.put, List.setIfInBounds_toArray, List.set_cons_zero, List.set_cons_succ]
                        refine pl_take (d := some 111) (v := ?_) (by rfl) ?_ rfl ?_
                        rotate_left
                        · go_simp
                          try with_reducible rfl
                        simp only [Act.put, List.setIfInBounds_toArray, List.set_cons_zero, List.set_cons_succ]
                        refine pl_take (d := some 112) (v := ?_) (by rfl) ?_ rfl ?_
                        rotate_left
                        · go_simp
                          try with_reducible rfl
                        simp only [Act.put, List.setIfInBounds_toArray, List.set_cons_zero, List.set_cons_succ]
                        refine pl_take (d := some 113) (v := ?_) (by rfl) ?_ rfl ?_
                        rotate_left
                        · go_simp
                          try with_reducible rfl
                        simp only [Act.put, List.setIfInBounds_toArray, List.set_cons_zero, List.set_cons_succ]
                        refine pl_take (d := some 114) (v := _) (by rfl) (pl_one rfl rfl s8 Tryd.underlying3 rfl) rfl ?_
                        simp only [Act.put, List.setIfInBounds_toArray, List.set_cons_zero, List.set_cons_succ]
                        refine pl_take (d := some 115) (v := ?_) (by rfl) ?_ rfl ?_
                        rotate_left
                        · go_simp
                          try with_reducible rfl
                        simp only [Act.put, List.setIfInBounds_toArray, List.set_cons_zero, List.set_cons_succ]
                        refine pl_take (d := some 116) (v := ?_) (by rfl) ?_ rfl ?_
                        rotate_left
                        · go_simp
                          try with_reducible rfl
                        simp only [Act.put, List.setIfInBounds_toArray, List.set_cons_zero, List.set_cons_succ]
                        refine pl_take (d := some 117) (v := ?_) (by rfl) ?_ rfl ?_
                        rotate_left
                        · go_simp
                          try with_reducible rfl
                        simp only [Act.put, List.setIfInBounds_toArray, List.set_cons_zero, List.set_cons_succ]
                        refine pl_take (d := some 118) (v := ?_) (by rfl) ?_ rfl ?_
                        rotate_left
                        · go_simp
                          try with_reducible rfl
                        simp only [Act.put, List.setIfInBounds_toArray, List.set_cons_zero, List.set_cons_succ]
                        refine pl_take (d := some 119) (v := ?_) (by rfl) ?_ rfl ?_
                        rotate_left
                        · go_simp
                          try with_reducible rfl
                        simp only [Act.put, List.setIfInBounds_toArray, List.set_cons_zero, List.set_cons_succ]
                        refine pl_take (d := some 120) (v := ?_) (by rfl) ?_ rfl ?_
                        rotate_left
                        · go_simp
                          try with_reducible rfl
                        simp only [Act.put, List.setIfInBounds_toArray, List.set_cons_zero, List.set_cons_succ]
                        refine pl_take (d := some 121) (v := _) (by rfl) (pl_one rfl rfl s84 Tryd.underlying4 rfl) rfl ?_
                        simp only [Act.put, List.setIfInBounds_toArray, List.set_cons_zero, List.set_cons_succ]
                        refine pl_take (d := some 122) (v := ?_) (by rfl) ?_ rfl ?_
                        rotate_left
                        · go_simp
                          try with_reducible rfl
                        simp only [Act.put, List.setIfInBounds_toArray, List.set_cons_zero, List.set_cons_succ]
                        cases e3 : s.de
                        · as_aux_lemma =>
                            rw [e3] at s84
                            clear e3 W
                            have HM := hide hmid
                            clear hmid
                            refine pl_skip (d := some 123) (by rfl) rfl ?_
                            simp only [Act.put, List.setIfInBounds_toArray, List.set_cons_zero, List.set_cons_succ]
                            refine pl_skip (d := some 124) (by rfl) rfl ?_
                            simp only [Act.put, List.setIfInBounds_toArray, List.set_cons_zero, List.set_cons_succ]
                            refine pl_skip (d := some 125) (by rfl) rfl ?_
                            simp only [Act.put, List.setIfInBounds_toArray, List.set_cons_zero, List.set_cons_succ]
                            refine pl_skip (d := some 126) (by rfl) rfl ?_
                            simp only [Act.put, List.setIfInBounds_toArray, List.set_cons_zero, List.set_cons_succ]
                            refine pl_skip (d := some 127) (by rfl) rfl ?_
                            simp only [Act.put, List.setIfInBounds_toArray, List.set_cons_zero, List.set_cons_succ]
                            refine pl_skip (d := some 128) (by rfl) rfl ?_
                            simp only [Act.put, List.setIfInBounds_toArray, List.set_cons_zero, List.set_cons_succ]
                            refine pl_skip (d := some 129) (by rfl) rfl ?_
                            simp only [Act.put, List.setIfInBounds_toArray, List.set_cons_zero, List.set_cons_succ]
                            refine pl_skip (d := some 130) (by rfl) rfl ?_
                            simp only [Act.put, List.setIfInBounds_toArray, List.set_cons_zero, List.set_cons_succ]
                            refine pl_skip (d := some 131) (by rfl) rfl ?_
                            simp only [Act.put, List.setIfInBounds_toArray, List.set_cons_zero, List.set_cons_succ]
                            refine pl_skip (d := some 132) (by rfl) rfl ?_
                            simp only [Act.put, List.setIfInBounds_toArray, List.set_cons_zero, List.set_cons_succ]
                            refine pl_skip (d := some 133) (by rfl) rfl ?_
                            simp only [Act.put, List.setIfInBounds_toArray, List.set_cons_zero, List.set_cons_succ]
                            refine pl_take (d := some 134) (v := ?_) (by rfl) ?_ rfl ?_
                            rotate_left
                            · go_simp
                              try with_reducible rfl
                            simp only [Act.put, List.setIfInBounds_toArray, List.set_cons_zero, List.set_cons_succ]
                            refine pl_take (d := some 135) (v := ?_) (by rfl) ?_ rfl ?_
                            rotate_left
                            · go_simp
                              try with_reducible rfl
                            simp only [Act.put, List.setIfInBounds_toArray, List.set_cons_zero, List.set_cons_succ]
                            refine pl_nil ?_
                            go_wp2_with fail
                            go_meet
                            exact ⟨rfl, HM⟩
                        · as_aux_lemma =>
                            rw [e3] at s84
                            obtain ⟨h1, h2, h3, h4⟩ := W.de e3
                            rw [h1] at x84
                            rw [h2, h3, h4] at xe
                            have cE := xent_self s.es s.eb s.ec (by have := hfit.small.ec; omega) wc (hfit.raw.eb.below hmid.b) (hfit.raw.ec.below hmid.b)
                            have hie : (Tryd.prog.info? 35).map (·.size) = some (entC s.es s.eb s.ec).length := by rw [entC_len hfit.raw.ec.v]; exact iszEn
                            obtain ⟨en, hen⟩ : ∃ en, Hid (entC s.es s.eb s.ec = en) := ⟨_, hide rfl⟩
                            rw [hen.out] at xe se hie cE
                            clear h1 h2 h3 h4 hen
                            clear e3 W
                            refine pl_take (d := some 123) (v := ?_) (by rfl) ?_ rfl ?_
                            rotate_left
                            · go_simp
                              try with_reducible rfl
                            simp only [Act.put, List.setIfInBounds_toArray, List.set_cons_zero, List.set_cons_succ]
                            refine pl_take (d := some 124) (v := _) (by rfl) (pl_one rfl rfl x84 Tryd.underlying4 rfl) rfl ?_
                            simp only [Act.put, List.setIfInBounds_toArray, List.set_cons_zero, List.set_cons_succ]
                            refine pl_take (d := some 125) (v := ?_) (by rfl) ?_ rfl ?_
                            rotate_left
                            · go_simp
                              try with_reducible rfl
                            simp only [Act.put, List.setIfInBounds_toArray, List.set_cons_zero, List.set_cons_succ]
                            refine pl_take (d := some 126) (v := ?_) (by rfl) ?_ rfl ?_
                            rotate_left
                            · go_simp
                              try with_reducible rfl
                            simp only [Act.put, List.setIfInBounds_toArray, List.set_cons_zero, List.set_cons_succ]
                            refine pl_take (d := some 127) (v := ?_) (by rfl) ?_ rfl ?_
                            rotate_left
                            · go_simp
                              try with_reducible rfl
                            simp only [Act.put, List.setIfInBounds_toArray, List.set_cons_zero, List.set_cons_succ]
                            refine pl_take (d := some 128) (v := .agg en.toArray) (by rfl) (ex_mid rfl rfl xe Tryd.underlying35 rfl hie) rfl ?_
                            simp only [Act.put, List.setIfInBounds_toArray, List.set_cons_zero, List.set_cons_succ]
                            refine pl_take (d := some 129) (v := ?_) (by rfl) ?_ rfl ?_
                            rotate_left
                            · go_simp
                              try with_reducible rfl
                            simp only [Act.put, List.setIfInBounds_toArray, List.set_cons_zero, List.set_cons_succ]
                            refine pl_take (d := some 130) (v := .agg en.toArray) (by rfl) (ex_mid rfl rfl se Tryd.underlying35 rfl hie) rfl ?_
                            simp only [Act.put, List.setIfInBounds_toArray, List.set_cons_zero, List.set_cons_succ]
                            refine pl_call (d := some 131) (by rfl) (by go_simp; first | done | exact ⟨rfl, rfl⟩ | with_reducible rfl) rfl ?_
                            refine cE.mono ?_
                            rintro _ w5 ⟨rfl, hB5⟩
                            have HM := hide (hmid.below hB5)
                            clear cE hB5 se xe hmid
                            refine ⟨_, rfl, ?_⟩
                            simp only [Act.put, List.setIfInBounds_toArray, List.set_cons_zero, List.set_cons_succ]
                            refine pl_take (d := some 132) (v := ?_) (by rfl) ?_ rfl ?_
                            rotate_left
                            · go_simp
                              try with_reducible rfl
                            simp only [Act.put, List.setIfInBounds_toArray, List.set_cons_zero, List.set_cons_succ]
                            refine pl_take (d := some 133) (v := ?_) (by rfl) ?_ rfl ?_
                            rotate_left
                            · go_simp
                              try with_reducible rfl
                            simp only [Act.put, List.setIfInBounds_toArray, List.set_cons_zero, List.set_cons_succ]
                            refine pl_take (d := some 134) (v := ?_) (by rfl) ?_ rfl ?_
                            rotate_left
                            · go_simp
                              try with_reducible rfl
                            simp only [Act.put, List.setIfInBounds_toArray, List.set_cons_zero, List.set_cons_succ]
                            refine pl_take (d := some 135) (v := ?_) (by rfl) ?_ rfl ?_
                            rotate_left
                            · go_simp
                              try with_reducible rfl
                            simp only [Act.put, List.setIfInBounds_toArray, List.set_cons_zero, List.set_cons_succ]
                            refine pl_nil ?_
                            go_wp2_with fail
                            go_meet
                            exact ⟨rfl, HM⟩
              case rest =>
                obtain ⟨rfl, HM⟩ := hcut
                have hmid := HM.out
                clear HM s3 x3 s0 x0 s43 x43 s8 x8 s84 x84 se xe
                have x3 := (hmid.x.parts hfx.raw.vok).is
                go_upto_if 137 with fail
                go_cut [] (fun wx => Hid (Mid18 w S M X s x (metX m x) (n + 1) wx))
                case first =>
                  cases c1 : x.is with
                  | false =>
                    have HM : Hid (Mid18 w S M X s x (metX m x) (n + 1) wc) := hide ⟨hmid.s, hmid.x, by rw [metX_not c1]; exact hmid.m.mono (Nat.le_succ _), hmid.b⟩
                    clear hmid
                    go_wp2_with fail
                    go_meet
                    exact HM
                  | true =>
                    cases hmx : m x.vw with
                    | none =>
                      have cD := x.b.xdig_any wc (hfx.raw.b.below hmid.b) hfx.small.b
                      have p1 := (hmid.x.parts hfx.raw.vok).b
                      have hixb : (Tryd.prog.info? 24).map (·.size) = some x.b.cells.length := iszB
                      have d32 : (v8 x.b.dig).toArray.size = 32 := by simpa using x.b.dig_len
                      have hiD2 := iszD2 x.b
                      have hiD3 : (Tryd.prog.info? 26).map (·.size) = some (v8 x.b.dig).length := by rw [v8_length, x.b.dig_len]; exact iszD
                      have hd1 := all_oneS (v8_one x.b.dig)
                      go_upto_region 28 with fail
                      try simp only [Act.put]
                      refine wp_region_list ?_
                      refine wpList_step fun K hK => ?_
                      go_simp
                      refine hK _ _ ?_
                      clear hK K
                      refine wpList_load_mid rfl 24 _ rfl _ _ rfl x.b.cells _ p1 Tryd.underlying24 rfl hixb ?_
                      go_wp2_with fail
                      refine cD.mono ?_
                      rintro _ w5 ⟨rfl, hB5⟩
                      clear cD p1
                      have hmid := hmid.below hB5
                      clear hB5
                      go_upto_region 29 with (refine wpList_store_mid rfl 26 _ _ rfl _ 0 (v8 x.b.dig).toArray rfl rfl (there_newN _ _ _ d32.symm) hiD2 hd1 ?_)
                      go_name_world w6 hw6
                      obtain ⟨hB6, hD6, hDl, -⟩ := box1 hw6 (by simpa using d32)
                      clear hw6
                      have hmid := hmid.below hB6
                      clear hB6
                      have p0 := (hmid.x.parts hfx.raw.vok).vw
                      have hlook := hmid.m.look x.vw hfx.vi
                      rw [hmx] at hlook
                      simp only [Option.getD_none, Option.isSome_none] at hlook
                      obtain ⟨vv, hvv⟩ : ∃ vv, Hid (dig0 = vv) := ⟨_, hide rfl⟩
                      rw [hvv.out] at hlook
                      have vl : vv.length = 32 := by rw [← hvv.out]; rfl
                      clear hvv hmx
                      have v32 : (v8 vv).toArray.size = 32 := by simpa using vl
                      have iv2 : (Tryd.prog.info? 26).map (·.size) = some (v8 vv).toArray.size := by rw [v32]; exact iszD
                      have ov := all_oneS (v8_one vv)
                      try simp only [Act.put]
                      refine wp_region_list ?_
                      refine wpList_step fun K hK => ?_
                      go_simp
                      refine hK _ _ ?_
                      clear hK K
                      refine wpList_step fun K hK => ?_
                      go_simp
                      refine hK _ _ ?_
                      clear hK K
                      refine wpList_step fun K hK => ?_
                      go_simp
                      refine hK _ _ ?_
                      clear hK K
                      refine wpList_look rfl 62 _ _ true rfl (.map (some M)) (.int .i64 x.vw) _ rfl rfl hlook ?_
                      go_upto_region 30 with (refine wpList_store_mid rfl 26 _ _ rfl _ 0 (v8 vv).toArray rfl rfl (there_newN _ _ _ v32.symm) iv2 ov ?_)
                      go_name_world w7 hw7
                      obtain ⟨hB7, hD7, hEl, -⟩ := box1 hw7 (by simpa using v32)
                      clear hw7 hlook
                      have hD6 := range_below hD6 hB7 hDl
                      have hmid := hmid.below hB7
                      have hDl7 := Nat.lt_of_lt_of_le hDl hB7.size
                      clear hB7 p0
                      go_upto_region 32 with fail
                      have p0 := (hmid.x.parts hfx.raw.vok).vw
                      obtain ⟨w9, hrun, hm9, hg9⟩ := hmid.m.store x.vw hfx.vi x.b.dig (by omega)
                      have HM : Hid (Mid18 w S M X s x (metX m x) (n + 1) w9) := hide (by rw [metX_is c1]; exact hmid.stored hm9 hg9 (by omega) (Ne.symm hMX) (by omega))
                      clear hm9 hg9 hmid
                      try simp only [Act.put]
                      refine wp_region_list ?_
                      refine wpList_step fun K hK => ?_
                      go_simp
                      refine hK _ _ ?_
                      clear hK K
                      refine wpList_step fun K hK => ?_
                      go_simp
                      refine hK _ _ ?_
                      clear hK K
                      refine wpList_step fun K hK => ?_
                      go_simp
                      refine hK _ _ ?_
                      clear hK K
                      refine wpList_load_mid rfl 26 _ rfl _ _ rfl (v8 x.b.dig) _ hD6 Tryd.underlying26 rfl hiD3 ?_
                      refine wpList_upd rfl 62 _ _ _ rfl (.map (some M)) (.int .i64 x.vw) (.agg (v8 x.b.dig).toArray) rfl rfl rfl hrun ?_
                      go_wp2_with fail
                      go_meet
                      exact HM
                    | some d =>
                      have cD := x.b.xdig_any wc (hfx.raw.b.below hmid.b) hfx.small.b
                      have p1 := (hmid.x.parts hfx.raw.vok).b
                      have hixb : (Tryd.prog.info? 24).map (·.size) = some x.b.cells.length := iszB
                      have d32 : (v8 x.b.dig).toArray.size = 32 := by simpa using x.b.dig_len
                      have hiD2 := iszD2 x.b
                      have hiD3 : (Tryd.prog.info? 26).map (·.size) = some (v8 x.b.dig).length := by rw [v8_length, x.b.dig_len]; exact iszD
                      have hd1 := all_oneS (v8_one x.b.dig)
                      go_upto_region 28 with fail
                      try simp only [Act.put]
                      refine wp_region_list ?_
                      refine wpList_step fun K hK => ?_
                      go_simp
                      refine hK _ _ ?_
                      clear hK K
                      refine wpList_load_mid rfl 24 _ rfl _ _ rfl x.b.cells _ p1 Tryd.underlying24 rfl hixb ?_
                      go_wp2_with fail
                      refine cD.mono ?_
                      rintro _ w5 ⟨rfl, hB5⟩
                      clear cD p1
                      have hmid := hmid.below hB5
                      clear hB5
                      go_upto_region 29 with (refine wpList_store_mid rfl 26 _ _ rfl _ 0 (v8 x.b.dig).toArray rfl rfl (there_newN _ _ _ d32.symm) hiD2 hd1 ?_)
                      go_name_world w6 hw6
                      obtain ⟨hB6, hD6, hDl, -⟩ := box1 hw6 (by simpa using d32)
                      clear hw6
                      have hmid := hmid.below hB6
                      clear hB6
                      have p0 := (hmid.x.parts hfx.raw.vok).vw
                      have hlook := hmid.m.look x.vw hfx.vi
                      rw [hmx] at hlook
                      obtain rfl := W.look c1 d hmx
                      simp only [Option.getD_some, Option.isSome_some] at hlook
                      obtain ⟨vv, hvv⟩ : ∃ vv, Hid (x.b.dig = vv) := ⟨_, hide rfl⟩
                      rw [hvv.out] at hlook
                      have vl : vv.length = 32 := by rw [← hvv.out]; exact x.b.dig_len
                      have hneq : ∀ w : World, (binOp .neq 26 (.agg (v8 vv).toArray) (.agg (v8 x.b.dig).toArray)).run Tryd.prog w = .ok (.bool false) w := fun w => by rw [neq_any _ _ vl (Bat.dig_len _)]; simp [hvv.out]
                      clear hvv hmx
                      have v32 : (v8 vv).toArray.size = 32 := by simpa using vl
                      have iv2 : (Tryd.prog.info? 26).map (·.size) = some (v8 vv).toArray.size := by rw [v32]; exact iszD
                      have iv3 : (Tryd.prog.info? 26).map (·.size) = some (v8 vv).length := by rw [v8_length, vl]; exact iszD
                      have ov := all_oneS (v8_one vv)
                      try simp only [Act.put]
                      refine wp_region_list ?_
                      refine wpList_step fun K hK => ?_
                      go_simp
                      refine hK _ _ ?_
                      clear hK K
                      refine wpList_step fun K hK => ?_
                      go_simp
                      refine hK _ _ ?_
                      clear hK K
                      refine wpList_step fun K hK => ?_
                      go_simp
                      refine hK _ _ ?_
                      clear hK K
                      refine wpList_look rfl 62 _ _ true rfl (.map (some M)) (.int .i64 x.vw) _ rfl rfl hlook ?_
                      go_upto_region 30 with (refine wpList_store_mid rfl 26 _ _ rfl _ 0 (v8 vv).toArray rfl rfl (there_newN _ _ _ v32.symm) iv2 ov ?_)
                      go_name_world w7 hw7
                      obtain ⟨hB7, hD7, hEl, -⟩ := box1 hw7 (by simpa using v32)
                      clear hw7 hlook
                      have hD6 := range_below hD6 hB7 hDl
                      have hmid := hmid.below hB7
                      have hDl7 := Nat.lt_of_lt_of_le hDl hB7.size
                      clear hB7 p0
                      go_upto_region 32 with (first
                        | (refine wpList_load_g (by rfl) 26 _ rfl w6.heap.size 0 rfl (v8 vv) _ hD7 Tryd.underlying26 rfl iv3 ?_)
                        | (refine wpList_load_g (by rfl) 26 _ rfl w5.heap.size 0 rfl (v8 x.b.dig) _ hD6 Tryd.underlying26 rfl hiD3 ?_))
                      have p0 := (hmid.x.parts hfx.raw.vok).vw
                      obtain ⟨w9, hrun, hm9, hg9⟩ := hmid.m.store x.vw hfx.vi x.b.dig (by omega)
                      have HM : Hid (Mid18 w S M X s x (metX m x) (n + 1) w9) := hide (by rw [metX_is c1]; exact hmid.stored hm9 hg9 (by omega) (Ne.symm hMX) (by omega))
                      clear hm9 hg9 hmid
                      try simp only [Act.put]
                      refine wp_region_list ?_
                      refine wpList_step fun K hK => ?_
                      go_simp
                      refine hK _ _ ?_
                      clear hK K
                      refine wpList_step fun K hK => ?_
                      go_simp
                      refine hK _ _ ?_
                      clear hK K
                      refine wpList_step fun K hK => ?_
                      go_simp
                      refine hK _ _ ?_
                      clear hK K
                      refine wpList_load_mid rfl 26 _ rfl _ _ rfl (v8 x.b.dig) _ hD6 Tryd.underlying26 rfl hiD3 ?_
                      refine wpList_upd rfl 62 _ _ _ rfl (.map (some M)) (.int .i64 x.vw) (.agg (v8 x.b.dig).toArray) rfl rfl rfl hrun ?_
                      go_wp2_with fail
                      go_meet
                      exact HM
                case rest =>
                  have hmid := hcut.out
                  clear hcut x3
                  have hmid0 := hmid
                  go_upto_region 33 with fail
                  go_cut [190] (fun v wx => v = .bool false ∧ Hid (Mid18 w S M X s x (metX m x) (n + 1) wx))
                  case first =>
                    obtain ⟨w8, hw8⟩ : ∃ w8, wc.drew = w8 := ⟨_, rfl⟩
                    have hB8 : Below wc.heap.size wc w8 := by rw [← hw8]; exact (Below.refl _ _).drew
                    have hmid := hmid.below hB8
                    have PX := hmid.x.parts hfx.raw.vok
                    have hXl := hmid.x.lt
                    have x43 := PX.ho
                    have x84 := PX.de
                    have x8 := (Vt.four PX.hv).2.2.1
                    have hd := Vt.dig PX.hv
                    have he := Vt.dig PX.ev
                    have hb := PX.eb
                    simp only [Nat.reduceAdd] at x8 hd he
                    have hdl := hfx.raw.hc.v.dl
                    have hel := hfx.raw.ec.v.dl
                    have hid : (Tryd.prog.info? 26).map (·.size) = some (v8 x.hc.v.d).length := by rw [v8_length, hdl]; exact iszD
                    have hie : (Tryd.prog.info? 26).map (·.size) = some (v8 x.ec.v.d).length := by rw [v8_length, hel]; exact iszD
                    have hib2 : (Tryd.prog.info? 24).map (·.size) = some x.eb.cells.length := iszB
                    have cE := x.eb.xdig_any w8 (hfx.raw.eb.below hmid.b) hfx.small.eb
                    clear PX hmid0 hB8
                    cases c1 : x.ho <;> cases c2 : x.de
                    · have e1 : x.ho = false := by assumption
                      have e2 : x.de = false := by assumption
                      rw [e1] at x43
                      rw [e2] at x84
                      clear e1 e2 W
                      try simp only [Act.put]
                      refine hs_begin (S := (Below w8.heap.size w8)) 33 rfl (by kernel_rfl) ?_
                      rw [hw8]
                      clear hw8
                      have hS : (Below w8.heap.size w8) w8 := Below.refl _ _
                      refine hs_take (i := 0) (d := some 158) (v := ?_) rfl (by kernel_rfl) (by kernel_rfl) (by kernel_rfl) (by rfl) ?_ hS rfl ?_
                      rotate_left
                      · intro w' hw
                        go_simp
                        try with_reducible rfl
                      simp only [Act.put, List.setIfInBounds_toArray, List.set_cons_zero, List.set_cons_succ]
                      refine hs_take (i := 1) (d := some 159) (v := ?_) rfl (by kernel_rfl) (by kernel_rfl) (by kernel_rfl) (by rfl) ?_ hS rfl ?_
                      rotate_left
                      · intro w' hw
                        have hq := (hw.cell (p := ⟨X, 43, none⟩) hXl).trans x43
                        go_simp
                        try with_reducible rfl
                      simp only [Act.put, List.setIfInBounds_toArray, List.set_cons_zero, List.set_cons_succ]
                      refine hs_take (i := 2) (d := some 160) (v := ?_) rfl (by kernel_rfl) (by kernel_rfl) (by kernel_rfl) (by rfl) ?_ hS rfl ?_
                      rotate_left
                      · intro w' hw
                        go_simp
                        try with_reducible rfl
                      simp only [Act.put, List.setIfInBounds_toArray, List.set_cons_zero, List.set_cons_succ]
                      refine hs_skip (i := 3) (d := some 161) rfl (by kernel_rfl) (by kernel_rfl) (by kernel_rfl) (by rfl) hS rfl ?_
                      simp only [Act.put, List.setIfInBounds_toArray, List.set_cons_zero, List.set_cons_succ]
                      refine hs_skip (i := 4) (d := some 162) rfl (by kernel_rfl) (by kernel_rfl) (by kernel_rfl) (by rfl) hS rfl ?_
                      simp only [Act.put, List.setIfInBounds_toArray, List.set_cons_zero, List.set_cons_succ]
                      refine hs_skip (i := 5) (d := some 163) rfl (by kernel_rfl) (by kernel_rfl) (by kernel_rfl) (by rfl) hS rfl ?_
                      simp only [Act.put, List.setIfInBounds_toArray, List.set_cons_zero, List.set_cons_succ]
                      refine hs_skip (i := 6) (d := some 164) rfl (by kernel_rfl) (by kernel_rfl) (by kernel_rfl) (by rfl) hS rfl ?_
                      simp only [Act.put, List.setIfInBounds_toArray, List.set_cons_zero, List.set_cons_succ]
                      refine hs_skip (i := 7) (d := some 165) rfl (by kernel_rfl) (by kernel_rfl) (by kernel_rfl) (by rfl) hS rfl ?_
                      simp only [Act.put, List.setIfInBounds_toArray, List.set_cons_zero, List.set_cons_succ]
                      refine hs_skip (i := 8) (d := some 166) rfl (by kernel_rfl) (by kernel_rfl) (by kernel_rfl) (by rfl) hS rfl ?_
                      simp only [Act.put, List.setIfInBounds_toArray, List.set_cons_zero, List.set_cons_succ]
                      refine hs_skip (i := 9) (d := some 167) rfl (by kernel_rfl) (by kernel_rfl) (by kernel_rfl) (by rfl) hS rfl ?_
                      simp only [Act.put, List.setIfInBounds_toArray, List.set_cons_zero, List.set_cons_succ]
                      refine hs_skip (i := 10) (d := some 168) rfl (by kernel_rfl) (by kernel_rfl) (by kernel_rfl) (by rfl) hS rfl ?_
                      simp only [Act.put, List.setIfInBounds_toArray, List.set_cons_zero, List.set_cons_succ]
                      refine hs_skip (i := 11) (d := some 169) rfl (by kernel_rfl) (by kernel_rfl) (by kernel_rfl) (by rfl) hS rfl ?_
                      simp only [Act.put, List.setIfInBounds_toArray, List.set_cons_zero, List.set_cons_succ]
                      refine hs_skip (i := 12) (d := some 170) rfl (by kernel_rfl) (by kernel_rfl) (by kernel_rfl) (by rfl) hS rfl ?_
                      simp only [Act.put, List.setIfInBounds_toArray, List.set_cons_zero, List.set_cons_succ]
                      refine hs_skip (i := 13) (d := some 171) rfl (by kernel_rfl) (by kernel_rfl) (by kernel_rfl) (by rfl) hS rfl ?_
                      simp only [Act.put, List.setIfInBounds_toArray, List.set_cons_zero, List.set_cons_succ]
                      refine hs_skip (i := 14) (d := some 172) rfl (by kernel_rfl) (by kernel_rfl) (by kernel_rfl) (by rfl) hS rfl ?_
                      simp only [Act.put, List.setIfInBounds_toArray, List.set_cons_zero, List.set_cons_succ]
                      refine hs_skip (i := 15) (d := some 173) rfl (by kernel_rfl) (by kernel_rfl) (by kernel_rfl) (by rfl) hS rfl ?_
                      simp only [Act.put, List.setIfInBounds_toArray, List.set_cons_zero, List.set_cons_succ]
                      refine hs_take (i := 16) (d := some 174) (v := ?_) rfl (by kernel_rfl) (by kernel_rfl) (by kernel_rfl) (by rfl) ?_ hS rfl ?_
                      rotate_left
                      · intro w' hw
                        go_simp
                        try with_reducible rfl
                      simp only [Act.put, List.setIfInBounds_toArray, List.set_cons_zero, List.set_cons_succ]
                      refine hs_take (i := 17) (d := some 175) (v := ?_) rfl (by kernel_rfl) (by kernel_rfl) (by kernel_rfl) (by rfl) ?_ hS rfl ?_
                      rotate_left
                      · intro w' hw
                        go_simp
                        try with_reducible rfl
                      simp only [Act.put, List.setIfInBounds_toArray, List.set_cons_zero, List.set_cons_succ]
                      refine hs_take (i := 18) (d := some 176) (v := ?_) rfl (by kernel_rfl) (by kernel_rfl) (by kernel_rfl) (by rfl) ?_ hS rfl ?_
                      rotate_left
                      · intro w' hw
                        go_simp
                        try with_reducible rfl
                      simp only [Act.put, List.setIfInBounds_toArray, List.set_cons_zero, List.set_cons_succ]
                      refine hs_take (i := 19) (d := some 177) (v := ?_) rfl (by kernel_rfl) (by kernel_rfl) (by kernel_rfl) (by rfl) ?_ hS rfl ?_
                      rotate_left
                      · intro w' hw
                        have hq := (hw.cell (p := ⟨X, 84, none⟩) hXl).trans x84
                        go_simp
                        try with_reducible rfl
                      simp only [Act.put, List.setIfInBounds_toArray, List.set_cons_zero, List.set_cons_succ]
                      refine hs_take (i := 20) (d := some 178) (v := ?_) rfl (by kernel_rfl) (by kernel_rfl) (by kernel_rfl) (by rfl) ?_ hS rfl ?_
                      rotate_left
                      · intro w' hw
                        go_simp
                        try with_reducible rfl
                      simp only [Act.put, List.setIfInBounds_toArray, List.set_cons_zero, List.set_cons_succ]
                      refine hs_skip (i := 21) (d := some 179) rfl (by kernel_rfl) (by kernel_rfl) (by kernel_rfl) (by rfl) hS rfl ?_
                      simp only [Act.put, List.setIfInBounds_toArray, List.set_cons_zero, List.set_cons_succ]
                      refine hs_skip (i := 22) (d := some 180) rfl (by kernel_rfl) (by kernel_rfl) (by kernel_rfl) (by rfl) hS rfl ?_
                      simp only [Act.put, List.setIfInBounds_toArray, List.set_cons_zero, List.set_cons_succ]
                      refine hs_skip (i := 23) (d := some 181) rfl (by kernel_rfl) (by kernel_rfl) (by kernel_rfl) (by rfl) hS rfl ?_
                      simp only [Act.put, List.setIfInBounds_toArray, List.set_cons_zero, List.set_cons_succ]
                      refine hs_skip (i := 24) (d := some 182) rfl (by kernel_rfl) (by kernel_rfl) (by kernel_rfl) (by rfl) hS rfl ?_
                      simp only [Act.put, List.setIfInBounds_toArray, List.set_cons_zero, List.set_cons_succ]
                      refine hs_skip (i := 25) (d := some 183) rfl (by kernel_rfl) (by kernel_rfl) (by kernel_rfl) (by rfl) hS rfl ?_
                      simp only [Act.put, List.setIfInBounds_toArray, List.set_cons_zero, List.set_cons_succ]
                      refine hs_skip (i := 26) (d := some 184) rfl (by kernel_rfl) (by kernel_rfl) (by kernel_rfl) (by rfl) hS rfl ?_
                      simp only [Act.put, List.setIfInBounds_toArray, List.set_cons_zero, List.set_cons_succ]
                      refine hs_skip (i := 27) (d := some 185) rfl (by kernel_rfl) (by kernel_rfl) (by kernel_rfl) (by rfl) hS rfl ?_
                      simp only [Act.put, List.setIfInBounds_toArray, List.set_cons_zero, List.set_cons_succ]
                      refine hs_skip (i := 28) (d := some 186) rfl (by kernel_rfl) (by kernel_rfl) (by kernel_rfl) (by rfl) hS rfl ?_
                      simp only [Act.put, List.setIfInBounds_toArray, List.set_cons_zero, List.set_cons_succ]
                      refine hs_skip (i := 29) (d := some 187) rfl (by kernel_rfl) (by kernel_rfl) (by kernel_rfl) (by rfl) hS rfl ?_
                      simp only [Act.put, List.setIfInBounds_toArray, List.set_cons_zero, List.set_cons_succ]
                      refine hs_skip (i := 30) (d := some 188) rfl (by kernel_rfl) (by kernel_rfl) (by kernel_rfl) (by rfl) hS rfl ?_
                      simp only [Act.put, List.setIfInBounds_toArray, List.set_cons_zero, List.set_cons_succ]
                      refine hs_take (i := 31) (d := some 189) (v := ?_) rfl (by kernel_rfl) (by kernel_rfl) (by kernel_rfl) (by rfl) ?_ hS rfl ?_
                      rotate_left
                      · intro w' hw
                        go_simp
                        try with_reducible rfl
                      simp only [Act.put, List.setIfInBounds_toArray, List.set_cons_zero, List.set_cons_succ]
                      refine hs_take (i := 32) (d := some 190) (v := ?_) rfl (by kernel_rfl) (by kernel_rfl) (by kernel_rfl) (by rfl) ?_ hS rfl ?_
                      rotate_left
                      · intro w' hw
                        go_simp
                        try with_reducible rfl
                      simp only [Act.put, List.setIfInBounds_toArray, List.set_cons_zero, List.set_cons_succ]
                      refine hs_done (by kernel_rfl) ?_
                      have HM := hide hmid
                      clear hmid
                      go_wp2_with fail
                      go_meet
                      exact ⟨rfl, HM⟩
                    · have e1 : x.ho = false := by assumption
                      have e2 : x.de = true := by assumption
                      rw [e1] at x43
                      rw [e2] at x84
                      have HE := hide (W.dd e2)
                      clear e1 e2 W
                      try simp only [Act.put]
                      refine hs_begin (S := (Below w8.heap.size w8)) 33 rfl (by kernel_rfl) ?_
                      rw [hw8]
                      clear hw8
                      have hS : (Below w8.heap.size w8) w8 := Below.refl _ _
                      refine hs_take (i := 0) (d := some 158) (v := ?_) rfl (by kernel_rfl) (by kernel_rfl) (by kernel_rfl) (by rfl) ?_ hS rfl ?_
                      rotate_left
                      · intro w' hw
                        go_simp
                        try with_reducible rfl
                      simp only [Act.put, List.setIfInBounds_toArray, List.set_cons_zero, List.set_cons_succ]
                      refine hs_take (i := 1) (d := some 159) (v := ?_) rfl (by kernel_rfl) (by kernel_rfl) (by kernel_rfl) (by rfl) ?_ hS rfl ?_
                      rotate_left
                      · intro w' hw
                        have hq := (hw.cell (p := ⟨X, 43, none⟩) hXl).trans x43
                        go_simp
                        try with_reducible rfl
                      simp only [Act.put, List.setIfInBounds_toArray, List.set_cons_zero, List.set_cons_succ]
                      refine hs_take (i := 2) (d := some 160) (v := ?_) rfl (by kernel_rfl) (by kernel_rfl) (by kernel_rfl) (by rfl) ?_ hS rfl ?_
                      rotate_left
                      · intro w' hw
                        go_simp
                        try with_reducible rfl
                      simp only [Act.put, List.setIfInBounds_toArray, List.set_cons_zero, List.set_cons_succ]
                      refine hs_skip (i := 3) (d := some 161) rfl (by kernel_rfl) (by kernel_rfl) (by kernel_rfl) (by rfl) hS rfl ?_
                      simp only [Act.put, List.setIfInBounds_toArray, List.set_cons_zero, List.set_cons_succ]
                      refine hs_skip (i := 4) (d := some 162) rfl (by kernel_rfl) (by kernel_rfl) (by kernel_rfl) (by rfl) hS rfl ?_
                      simp only [Act.put, List.setIfInBounds_toArray, List.set_cons_zero, List.set_cons_succ]
                      refine hs_skip (i := 5) (d := some 163) rfl (by kernel_rfl) (by kernel_rfl) (by kernel_rfl) (by rfl) hS rfl ?_
                      simp only [Act.put, List.setIfInBounds_toArray, List.set_cons_zero, List.set_cons_succ]
                      refine hs_skip (i := 6) (d := some 164) rfl (by kernel_rfl) (by kernel_rfl) (by kernel_rfl) (by rfl) hS rfl ?_
                      simp only [Act.put, List.setIfInBounds_toArray, List.set_cons_zero, List.set_cons_succ]
                      refine hs_skip (i := 7) (d := some 165) rfl (by kernel_rfl) (by kernel_rfl) (by kernel_rfl) (by rfl) hS rfl ?_
                      simp only [Act.put, List.setIfInBounds_toArray, List.set_cons_zero, List.set_cons_succ]
                      refine hs_skip (i := 8) (d := some 166) rfl (by kernel_rfl) (by kernel_rfl) (by kernel_rfl) (by rfl) hS rfl ?_
                      simp only [Act.put, List.setIfInBounds_toArray, List.set_cons_zero, List.set_cons_succ]
                      refine hs_skip (i := 9) (d := some 167) rfl (by kernel_rfl) (by kernel_rfl) (by kernel_rfl) (by rfl) hS rfl ?_
                      simp only [Act.put, List.setIfInBounds_toArray, List.set_cons_zero, List.set_cons_succ]
                      refine hs_skip (i := 10) (d := some 168) rfl (by kernel_rfl) (by kernel_rfl) (by kernel_rfl) (by rfl) hS rfl ?_
                      simp only [Act.put, List.setIfInBounds_toArray, List.set_cons_zero, List.set_cons_succ]
                      refine hs_skip (i := 11) (d := some 169) rfl (by kernel_rfl) (by kernel_rfl) (by kernel_rfl) (by rfl) hS rfl ?_
                      simp only [Act.put, List.setIfInBounds_toArray, List.set_cons_zero, List.set_cons_succ]
                      refine hs_skip (i := 12) (d := some 170) rfl (by kernel_rfl) (by kernel_rfl) (by kernel_rfl) (by rfl) hS rfl ?_
                      simp only [Act.put, List.setIfInBounds_toArray, List.set_cons_zero, List.set_cons_succ]
                      refine hs_skip (i := 13) (d := some 171) rfl (by kernel_rfl) (by kernel_rfl) (by kernel_rfl) (by rfl) hS rfl ?_
                      simp only [Act.put, List.setIfInBounds_toArray, List.set_cons_zero, List.set_cons_succ]
                      refine hs_skip (i := 14) (d := some 172) rfl (by kernel_rfl) (by kernel_rfl) (by kernel_rfl) (by rfl) hS rfl ?_
                      simp only [Act.put, List.setIfInBounds_toArray, List.set_cons_zero, List.set_cons_succ]
                      refine hs_skip (i := 15) (d := some 173) rfl (by kernel_rfl) (by kernel_rfl) (by kernel_rfl) (by rfl) hS rfl ?_
                      simp only [Act.put, List.setIfInBounds_toArray, List.set_cons_zero, List.set_cons_succ]
                      refine hs_take (i := 16) (d := some 174) (v := ?_) rfl (by kernel_rfl) (by kernel_rfl) (by kernel_rfl) (by rfl) ?_ hS rfl ?_
                      rotate_left
                      · intro w' hw
                        go_simp
                        try with_reducible rfl
                      simp only [Act.put, List.setIfInBounds_toArray, List.set_cons_zero, List.set_cons_succ]
                      refine hs_take (i := 17) (d := some 175) (v := ?_) rfl (by kernel_rfl) (by kernel_rfl) (by kernel_rfl) (by rfl) ?_ hS rfl ?_
                      rotate_left
                      · intro w' hw
                        go_simp
                        try with_reducible rfl
                      simp only [Act.put, List.setIfInBounds_toArray, List.set_cons_zero, List.set_cons_succ]
                      refine hs_take (i := 18) (d := some 176) (v := ?_) rfl (by kernel_rfl) (by kernel_rfl) (by kernel_rfl) (by rfl) ?_ hS rfl ?_
                      rotate_left
                      · intro w' hw
                        go_simp
                        try with_reducible rfl
                      simp only [Act.put, List.setIfInBounds_toArray, List.set_cons_zero, List.set_cons_succ]
                      refine hs_take (i := 19) (d := some 177) (v := ?_) rfl (by kernel_rfl) (by kernel_rfl) (by kernel_rfl) (by rfl) ?_ hS rfl ?_
                      rotate_left
                      · intro w' hw
                        have hq := (hw.cell (p := ⟨X, 84, none⟩) hXl).trans x84
                        go_simp
                        try with_reducible rfl
                      simp only [Act.put, List.setIfInBounds_toArray, List.set_cons_zero, List.set_cons_succ]
                      refine hs_take (i := 20) (d := some 178) (v := ?_) rfl (by kernel_rfl) (by kernel_rfl) (by kernel_rfl) (by rfl) ?_ hS rfl ?_
                      rotate_left
                      · intro w' hw
                        go_simp
                        try with_reducible rfl
                      simp only [Act.put, List.setIfInBounds_toArray, List.set_cons_zero, List.set_cons_succ]
                      refine hs_take (i := 21) (d := some 179) (v := ?_) rfl (by kernel_rfl) (by kernel_rfl) (by kernel_rfl) (by rfl) ?_ hS rfl ?_
                      rotate_left
                      · intro w' hw
                        go_simp
                        try with_reducible rfl
                      simp only [Act.put, List.setIfInBounds_toArray, List.set_cons_zero, List.set_cons_succ]
                      refine hs_take (i := 22) (d := some 180) (v := ?_) rfl (by kernel_rfl) (by kernel_rfl) (by kernel_rfl) (by rfl) ?_ hS rfl ?_
                      rotate_left
                      · intro w' hw
                        go_simp
                        try with_reducible rfl
                      simp only [Act.put, List.setIfInBounds_toArray, List.set_cons_zero, List.set_cons_succ]
                      refine hs_take (i := 23) (d := some 181) (v := ?_) rfl (by kernel_rfl) (by kernel_rfl) (by kernel_rfl) (by rfl) ?_ hS rfl ?_
                      rotate_left
                      · intro w' hw
                        go_simp
                        try with_reducible rfl
                      simp only [Act.put, List.setIfInBounds_toArray, List.set_cons_zero, List.set_cons_succ]
                      refine hs_take (i := 24) (d := some 182) (v := ?_) rfl (by kernel_rfl) (by kernel_rfl) (by kernel_rfl) (by rfl) ?_ hS rfl ?_
                      rotate_left
                      · intro w' hw
                        go_simp
                        try with_reducible rfl
                      simp only [Act.put, List.setIfInBounds_toArray, List.set_cons_zero, List.set_cons_succ]
                      refine hs_take (i := 25) (d := some 183) (v := .agg (v8 x.ec.v.d).toArray) rfl (by kernel_rfl) (by kernel_rfl) (by kernel_rfl) (by rfl) (fun w' hw => ex_mid rfl rfl (range_below he hw hXl) Tryd.underlying26 rfl hie) hS rfl ?_
                      simp only [Act.put, List.setIfInBounds_toArray, List.set_cons_zero, List.set_cons_succ]
                      refine hs_take (i := 26) (d := some 184) (v := ?_) rfl (by kernel_rfl) (by kernel_rfl) (by kernel_rfl) (by rfl) ?_ hS rfl ?_
                      rotate_left
                      · intro w' hw
                        go_simp
                        try with_reducible rfl
                      simp only [Act.put, List.setIfInBounds_toArray, List.set_cons_zero, List.set_cons_succ]
                      refine hs_take (i := 27) (d := some 185) (v := ?_) rfl (by kernel_rfl) (by kernel_rfl) (by kernel_rfl) (by rfl) ?_ hS rfl ?_
                      rotate_left
                      · intro w' hw
                        go_simp
                        try with_reducible rfl
                      simp only [Act.put, List.setIfInBounds_toArray, List.set_cons_zero, List.set_cons_succ]
                      refine hs_take (i := 28) (d := some 186) (v := .agg x.eb.cells.toArray) rfl (by kernel_rfl) (by kernel_rfl) (by kernel_rfl) (by rfl) (fun w' hw => ex_mid rfl rfl (range_below hb hw hXl) Tryd.underlying24 rfl hib2) hS rfl ?_
                      simp only [Act.put, List.setIfInBounds_toArray, List.set_cons_zero, List.set_cons_succ]
                      refine hs_call (i := 29) (d := some 187) rfl (by kernel_rfl) (by rfl) (by go_simp; first | done | exact ⟨rfl, rfl⟩ | with_reducible rfl) rfl ?_
                      refine (cE).mono ?_
                      rintro e' w9 ⟨rfl, hB9⟩
                      have hS : (Below w8.heap.size w8) w9 := hB9
                      refine ⟨_, rfl, hS, ?_⟩
                      simp only [Act.put, List.setIfInBounds_toArray, List.set_cons_zero, List.set_cons_succ]
                      refine hs_take (i := 30) (d := some 188) (v := .bool false) rfl (by kernel_rfl) (by kernel_rfl) (by kernel_rfl) (by rfl) (fun w' hw => ex_bin rfl rfl rfl (by kernel_rfl) (by rw [neq_any _ _ hel (Bat.dig_len _)]; simp [HE.out])) hS rfl ?_
                      simp only [Act.put, List.setIfInBounds_toArray, List.set_cons_zero, List.set_cons_succ]
                      refine hs_take (i := 31) (d := some 189) (v := ?_) rfl (by kernel_rfl) (by kernel_rfl) (by kernel_rfl) (by rfl) ?_ hS rfl ?_
                      rotate_left
                      · intro w' hw
                        go_simp
                        try with_reducible rfl
                      simp only [Act.put, List.setIfInBounds_toArray, List.set_cons_zero, List.set_cons_succ]
                      refine hs_take (i := 32) (d := some 190) (v := ?_) rfl (by kernel_rfl) (by kernel_rfl) (by kernel_rfl) (by rfl) ?_ hS rfl ?_
                      rotate_left
                      · intro w' hw
                        go_simp
                        try with_reducible rfl
                      simp only [Act.put, List.setIfInBounds_toArray, List.set_cons_zero, List.set_cons_succ]
                      refine hs_done (by kernel_rfl) ?_
                      have HM := hide (hmid.below hB9)
                      clear hmid
                      go_wp2_with fail
                      go_meet
                      exact ⟨rfl, HM⟩
                    · have e1 : x.ho = true := by assumption
                      have e2 : x.de = false := by assumption
                      rw [e1] at x43
                      rw [e2] at x84
                      have hget : ∀ w', Below w8.heap.size w8 w' → (Instr.lookup 62 (.map (some M)) (.int .i64 x.hc.v.v) false).run Tryd.prog w' = .ok (.agg (v8 x.hc.v.d).toArray) w' := fun w' h => by
                        have := (hmid.m.below h).get x.hc.v.v hfx.raw.hc.v.v
                        rw [W.hm e1] at this
                        exact this
                      clear e1 e2 W
                      try simp only [Act.put]
                      refine hs_begin (S := (Below w8.heap.size w8)) 33 rfl (by kernel_rfl) ?_
                      rw [hw8]
                      clear hw8
                      have hS : (Below w8.heap.size w8) w8 := Below.refl _ _
                      refine hs_take (i := 0) (d := some 158) (v := ?_) rfl (by kernel_rfl) (by kernel_rfl) (by kernel_rfl) (by rfl) ?_ hS rfl ?_
                      rotate_left
                      · intro w' hw
                        go_simp
                        try with_reducible rfl
                      simp only [Act.put, List.setIfInBounds_toArray, List.set_cons_zero, List.set_cons_succ]
                      refine hs_take (i := 1) (d := some 159) (v := ?_) rfl (by kernel_rfl) (by kernel_rfl) (by kernel_rfl) (by rfl) ?_ hS rfl ?_
                      rotate_left
                      · intro w' hw
                        have hq := (hw.cell (p := ⟨X, 43, none⟩) hXl).trans x43
                        go_simp
                        try with_reducible rfl
                      simp only [Act.put, List.setIfInBounds_toArray, List.set_cons_zero, List.set_cons_succ]
                      refine hs_take (i := 2) (d := some 160) (v := ?_) rfl (by kernel_rfl) (by kernel_rfl) (by kernel_rfl) (by rfl) ?_ hS rfl ?_
                      rotate_left
                      · intro w' hw
                        go_simp
                        try with_reducible rfl
                      simp only [Act.put, List.setIfInBounds_toArray, List.set_cons_zero, List.set_cons_succ]
                      refine hs_take (i := 3) (d := some 161) (v := ?_) rfl (by kernel_rfl) (by kernel_rfl) (by kernel_rfl) (by rfl) ?_ hS rfl ?_
                      rotate_left
                      · intro w' hw
                        go_simp
                        try with_reducible rfl
                      simp only [Act.put, List.setIfInBounds_toArray, List.set_cons_zero, List.set_cons_succ]
                      refine hs_take (i := 4) (d := some 162) (v := ?_) rfl (by kernel_rfl) (by kernel_rfl) (by kernel_rfl) (by rfl) ?_ hS rfl ?_
                      rotate_left
                      · intro w' hw
                        go_simp
                        try with_reducible rfl
                      simp only [Act.put, List.setIfInBounds_toArray, List.set_cons_zero, List.set_cons_succ]
                      refine hs_take (i := 5) (d := some 163) (v := ?_) rfl (by kernel_rfl) (by kernel_rfl) (by kernel_rfl) (by rfl) ?_ hS rfl ?_
                      rotate_left
                      · intro w' hw
                        go_simp
                        try with_reducible rfl
                      simp only [Act.put, List.setIfInBounds_toArray, List.set_cons_zero, List.set_cons_succ]
                      refine hs_take (i := 6) (d := some 164) (v := ?_) rfl (by kernel_rfl) (by kernel_rfl) (by kernel_rfl) (by rfl) ?_ hS rfl ?_
                      rotate_left
                      · intro w' hw
                        go_simp
                        try with_reducible rfl
                      simp only [Act.put, List.setIfInBounds_toArray, List.set_cons_zero, List.set_cons_succ]
                      refine hs_take (i := 7) (d := some 165) (v := .agg (v8 x.hc.v.d).toArray) rfl (by kernel_rfl) (by kernel_rfl) (by kernel_rfl) (by rfl) (fun w' hw => ex_mid rfl rfl (range_below hd hw hXl) Tryd.underlying26 rfl hid) hS rfl ?_
                      simp only [Act.put, List.setIfInBounds_toArray, List.set_cons_zero, List.set_cons_succ]
                      refine hs_take (i := 8) (d := some 166) (v := ?_) rfl (by kernel_rfl) (by kernel_rfl) (by kernel_rfl) (by rfl) ?_ hS rfl ?_
                      rotate_left
                      · intro w' hw
                        go_simp
                        try with_reducible rfl
                      simp only [Act.put, List.setIfInBounds_toArray, List.set_cons_zero, List.set_cons_succ]
                      refine hs_take (i := 9) (d := some 167) (v := ?_) rfl (by kernel_rfl) (by kernel_rfl) (by kernel_rfl) (by rfl) ?_ hS rfl ?_
                      rotate_left
                      · intro w' hw
                        go_simp
                        try with_reducible rfl
                      simp only [Act.put, List.setIfInBounds_toArray, List.set_cons_zero, List.set_cons_succ]
                      refine hs_take (i := 10) (d := some 168) (v := ?_) rfl (by kernel_rfl) (by kernel_rfl) (by kernel_rfl) (by rfl) ?_ hS rfl ?_
                      rotate_left
                      · intro w' hw
                        go_simp
                        try with_reducible rfl
                      simp only [Act.put, List.setIfInBounds_toArray, List.set_cons_zero, List.set_cons_succ]
                      refine hs_take (i := 11) (d := some 169) (v := ?_) rfl (by kernel_rfl) (by kernel_rfl) (by kernel_rfl) (by rfl) ?_ hS rfl ?_
                      rotate_left
                      · intro w' hw
                        go_simp
                        try with_reducible rfl
                      simp only [Act.put, List.setIfInBounds_toArray, List.set_cons_zero, List.set_cons_succ]
                      refine hs_take (i := 12) (d := some 170) (v := ?_) rfl (by kernel_rfl) (by kernel_rfl) (by kernel_rfl) (by rfl) ?_ hS rfl ?_
                      rotate_left
                      · intro w' hw
                        go_simp
                        try with_reducible rfl
                      simp only [Act.put, List.setIfInBounds_toArray, List.set_cons_zero, List.set_cons_succ]
                      refine hs_take (i := 13) (d := some 171) (v := ?_) rfl (by kernel_rfl) (by kernel_rfl) (by kernel_rfl) (by rfl) ?_ hS rfl ?_
                      rotate_left
                      · intro w' hw
                        have hq := (hw.cell (p := ⟨X, 8, none⟩) hXl).trans x8
                        go_simp
                        try with_reducible rfl
                      simp only [Act.put, List.setIfInBounds_toArray, List.set_cons_zero, List.set_cons_succ]
                      refine hs_take (i := 14) (d := some 172) (v := .agg (v8 x.hc.v.d).toArray) rfl (by kernel_rfl) (by kernel_rfl) (by kernel_rfl) (by rfl) (fun w' hw => ex_look rfl rfl rfl (hget w' hw)) hS rfl ?_
                      simp only [Act.put, List.setIfInBounds_toArray, List.set_cons_zero, List.set_cons_succ]
                      refine hs_take (i := 15) (d := some 173) (v := .bool false) rfl (by kernel_rfl) (by kernel_rfl) (by kernel_rfl) (by rfl) (fun w' hw => ex_bin rfl rfl rfl (by kernel_rfl) (by rw [neq_any _ _ hdl hdl]; simp)) hS rfl ?_
                      simp only [Act.put, List.setIfInBounds_toArray, List.set_cons_zero, List.set_cons_succ]
                      refine hs_take (i := 16) (d := some 174) (v := ?_) rfl (by kernel_rfl) (by kernel_rfl) (by kernel_rfl) (by rfl) ?_ hS rfl ?_
                      rotate_left
                      · intro w' hw
                        go_simp
                        try with_reducible rfl
                      simp only [Act.put, List.setIfInBounds_toArray, List.set_cons_zero, List.set_cons_succ]
                      refine hs_take (i := 17) (d := some 175) (v := ?_) rfl (by kernel_rfl) (by kernel_rfl) (by kernel_rfl) (by rfl) ?_ hS rfl ?_
                      rotate_left
                      · intro w' hw
                        go_simp
                        try with_reducible rfl
                      simp only [Act.put, List.setIfInBounds_toArray, List.set_cons_zero, List.set_cons_succ]
                      refine hs_take (i := 18) (d := some 176) (v := ?_) rfl (by kernel_rfl) (by kernel_rfl) (by kernel_rfl) (by rfl) ?_ hS rfl ?_
                      rotate_left
                      · intro w' hw
                        go_simp
                        try with_reducible rfl
                      simp only [Act.put, List.setIfInBounds_toArray, List.set_cons_zero, List.set_cons_succ]
                      refine hs_take (i := 19) (d := some 177) (v := ?_) rfl (by kernel_rfl) (by kernel_rfl) (by kernel_rfl) (by rfl) ?_ hS rfl ?_
                      rotate_left
                      · intro w' hw
                        have hq := (hw.cell (p := ⟨X, 84, none⟩) hXl).trans x84
                        go_simp
                        try with_reducible rfl
                      simp only [Act.put, List.setIfInBounds_toArray, List.set_cons_zero, List.set_cons_succ]
                      refine hs_take (i := 20) (d := some 178) (v := ?_) rfl (by kernel_rfl) (by kernel_rfl) (by kernel_rfl) (by rfl) ?_ hS rfl ?_
                      rotate_left
                      · intro w' hw
                        go_simp
                        try with_reducible rfl
                      simp only [Act.put, List.setIfInBounds_toArray, List.set_cons_zero, List.set_cons_succ]
                      refine hs_skip (i := 21) (d := some 179) rfl (by kernel_rfl) (by kernel_rfl) (by kernel_rfl) (by rfl) hS rfl ?_
                      simp only [Act.put, List.setIfInBounds_toArray, List.set_cons_zero, List.set_cons_succ]
                      refine hs_skip (i := 22) (d := some 180) rfl (by kernel_rfl) (by kernel_rfl) (by kernel_rfl) (by rfl) hS rfl ?_
                      simp only [Act.put, List.setIfInBounds_toArray, List.set_cons_zero, List.set_cons_succ]
                      refine hs_skip (i := 23) (d := some 181) rfl (by kernel_rfl) (by kernel_rfl) (by kernel_rfl) (by rfl) hS rfl ?_
                      simp only [Act.put, List.setIfInBounds_toArray, List.set_cons_zero, List.set_cons_succ]
                      refine hs_skip (i := 24) (d := some 182) rfl (by kernel_rfl) (by kernel_rfl) (by kernel_rfl) (by rfl) hS rfl ?_
                      simp only [Act.put, List.setIfInBounds_toArray, List.set_cons_zero, List.set_cons_succ]
                      refine hs_skip (i := 25) (d := some 183) rfl (by kernel_rfl) (by kernel_rfl) (by kernel_rfl) (by rfl) hS rfl ?_
                      simp only [Act.put, List.setIfInBounds_toArray, List.set_cons_zero, List.set_cons_succ]
                      refine hs_skip (i := 26) (d := some 184) rfl (by kernel_rfl) (by kernel_rfl) (by kernel_rfl) (by rfl) hS rfl ?_
                      simp only [Act.put, List.setIfInBounds_toArray, List.set_cons_zero, List.set_cons_succ]
                      refine hs_skip (i := 27) (d := some 185) rfl (by kernel_rfl) (by kernel_rfl) (by kernel_rfl) (by rfl) hS rfl ?_
                      simp only [Act.put, List.setIfInBounds_toArray, List.set_cons_zero, List.set_cons_succ]
                      refine hs_skip (i := 28) (d := some 186) rfl (by kernel_rfl) (by kernel_rfl) (by kernel_rfl) (by rfl) hS rfl ?_
                      simp only [Act.put, List.setIfInBounds_toArray, List.set_cons_zero, List.set_cons_succ]
                      refine hs_skip (i := 29) (d := some 187) rfl (by kernel_rfl) (by kernel_rfl) (by kernel_rfl) (by rfl) hS rfl ?_
                      simp only [Act.put, List.setIfInBounds_toArray, List.set_cons_zero, List.set_cons_succ]
                      refine hs_skip (i := 30) (d := some 188) rfl (by kernel_rfl) (by kernel_rfl) (by kernel_rfl) (by rfl) hS rfl ?_
                      simp only [Act.put, List.setIfInBounds_toArray, List.set_cons_zero, List.set_cons_succ]
                      refine hs_take (i := 31) (d := some 189) (v := ?_) rfl (by kernel_rfl) (by kernel_rfl) (by kernel_rfl) (by rfl) ?_ hS rfl ?_
                      rotate_left
                      · intro w' hw
                        go_simp
                        try with_reducible rfl
                      simp only [Act.put, List.setIfInBounds_toArray, List.set_cons_zero, List.set_cons_succ]
                      refine hs_take (i := 32) (d := some 190) (v := ?_) rfl (by kernel_rfl) (by kernel_rfl) (by kernel_rfl) (by rfl) ?_ hS rfl ?_
                      rotate_left
                      · intro w' hw
                        go_simp
                        try with_reducible rfl
                      simp only [Act.put, List.setIfInBounds_toArray, List.set_cons_zero, List.set_cons_succ]
                      refine hs_done (by kernel_rfl) ?_
                      have HM := hide hmid
                      clear hmid
                      go_wp2_with fail
                      go_meet
                      exact ⟨rfl, HM⟩
                    · have e1 : x.ho = true := by assumption
                      have e2 : x.de = true := by assumption
                      rw [e1] at x43
                      rw [e2] at x84
                      have hget : ∀ w', Below w8.heap.size w8 w' → (Instr.lookup 62 (.map (some M)) (.int .i64 x.hc.v.v) false).run Tryd.prog w' = .ok (.agg (v8 x.hc.v.d).toArray) w' := fun w' h => by
                        have := (hmid.m.below h).get x.hc.v.v hfx.raw.hc.v.v
                        rw [W.hm e1] at this
                        exact this
                      have HE := hide (W.dd e2)
                      clear e1 e2 W
                      try simp only [Act.put]
                      refine hs_begin (S := (Below w8.heap.size w8)) 33 rfl (by kernel_rfl) ?_
                      rw [hw8]
                      clear hw8
                      have hS : (Below w8.heap.size w8) w8 := Below.refl _ _
                      refine hs_take (i := 0) (d := some 158) (v := ?_) rfl (by kernel_rfl) (by kernel_rfl) (by kernel_rfl) (by rfl) ?_ hS rfl ?_
                      rotate_left
                      · intro w' hw
                        go_simp
                        try with_reducible rfl
                      simp only [Act.put, List.setIfInBounds_toArray, List.set_cons_zero, List.set_cons_succ]
                      refine hs_take (i := 1) (d := some 159) (v := ?_) rfl (by kernel_rfl) (by kernel_rfl) (by kernel_rfl) (by rfl) ?_ hS rfl ?_
                      rotate_left
                      · intro w' hw
                        have hq := (hw.cell (p := ⟨X, 43, none⟩) hXl).trans x43
                        go_simp
                        try with_reducible rfl
                      simp only [Act.put, List.setIfInBounds_toArray, List.set_cons_zero, List.set_cons_succ]
                      refine hs_take (i := 2) (d := some 160) (v := ?_) rfl (by kernel_rfl) (by kernel_rfl) (by kernel_rfl) (by rfl) ?_ hS rfl ?_
                      rotate_left
                      · intro w' hw
                        go_simp
                        try with_reducible rfl
                      simp only [Act.put, List.setIfInBounds_toArray, List.set_cons_zero, List.set_cons_succ]
                      refine hs_take (i := 3) (d := some 161) (v := ?_) rfl (by kernel_rfl) (by kernel_rfl) (by kernel_rfl) (by rfl) ?_ hS rfl ?_
                      rotate_left
                      · intro w' hw
                        go_simp
                        try with_reducible rfl
                      simp only [Act.put, List.setIfInBounds_toArray, List.set_cons_zero, List.set_cons_succ]
                      refine hs_take (i := 4) (d := some 162) (v := ?_) rfl (by kernel_rfl) (by kernel_rfl) (by kernel_rfl) (by rfl) ?_ hS rfl ?_
                      rotate_left
                      · intro w' hw
                        go_simp
                        try with_reducible rfl
                      simp only [Act.put, List.setIfInBounds_toArray, List.set_cons_zero, List.set_cons_succ]
                      refine hs_take (i := 5) (d := some 163) (v := ?_) rfl (by kernel_rfl) (by kernel_rfl) (by kernel_rfl) (by rfl) ?_ hS rfl ?_
                      rotate_left
                      · intro w' hw
                        go_simp
                        try with_reducible rfl
                      simp only [Act.put, List.setIfInBounds_toArray, List.set_cons_zero, List.set_cons_succ]
                      refine hs_take (i := 6) (d := some 164) (v := ?_) rfl (by kernel_rfl) (by kernel_rfl) (by kernel_rfl) (by rfl) ?_ hS rfl ?_
                      rotate_left
                      · intro w' hw
                        go_simp
                        try with_reducible rfl
                      simp only [Act.put, List.setIfInBounds_toArray, List.set_cons_zero, List.set_cons_succ]
                      refine hs_take (i := 7) (d := some 165) (v := .agg (v8 x.hc.v.d).toArray) rfl (by kernel_rfl) (by kernel_rfl) (by kernel_rfl) (by rfl) (fun w' hw => ex_mid rfl rfl (range_below hd hw hXl) Tryd.underlying26 rfl hid) hS rfl ?_
                      simp only [Act.put, List.setIfInBounds_toArray, List.set_cons_zero, List.set_cons_succ]
                      refine hs_take (i := 8) (d := some 166) (v := ?_) rfl (by kernel_rfl) (by kernel_rfl) (by kernel_rfl) (by rfl) ?_ hS rfl ?_
                      rotate_left
                      · intro w' hw
                        go_simp
                        try with_reducible rfl
                      simp only [Act.put, List.setIfInBounds_toArray, List.set_cons_zero, List.set_cons_succ]
                      refine hs_take (i := 9) (d := some 167) (v := ?_) rfl (by kernel_rfl) (by kernel_rfl) (by kernel_rfl) (by rfl) ?_ hS rfl ?_
                      rotate_left
                      · intro w' hw
                        go_simp
                        try with_reducible rfl
                      simp only [Act.put, List.setIfInBounds_toArray, List.set_cons_zero, List.set_cons_succ]
                      refine hs_take (i := 10) (d := some 168) (v := ?_) rfl (by kernel_rfl) (by kernel_rfl) (by kernel_rfl) (by rfl) ?_ hS rfl ?_
                      rotate_left
                      · intro w' hw
                        go_simp
                        try with_reducible rfl
                      simp only [Act.put, List.setIfInBounds_toArray, List.set_cons_zero, List.set_cons_succ]
                      refine hs_take (i := 11) (d := some 169) (v := ?_) rfl (by kernel_rfl) (by kernel_rfl) (by kernel_rfl) (by rfl) ?_ hS rfl ?_
                      rotate_left
                      · intro w' hw
                        go_simp
                        try with_reducible rfl
                      simp only [Act.put, List.setIfInBounds_toArray, List.set_cons_zero, List.set_cons_succ]
                      refine hs_take (i := 12) (d := some 170) (v := ?_) rfl (by kernel_rfl) (by kernel_rfl) (by kernel_rfl) (by rfl) ?_ hS rfl ?_
                      rotate_left
                      · intro w' hw
                        go_simp
                        try with_reducible rfl
                      simp only [Act.put, List.setIfInBounds_toArray, List.set_cons_zero, List.set_cons_succ]
                      refine hs_take (i := 13) (d := some 171) (v := ?_) rfl (by kernel_rfl) (by kernel_rfl) (by kernel_rfl) (by rfl) ?_ hS rfl ?_
                      rotate_left
                      · intro w' hw
                        have hq := (hw.cell (p := ⟨X, 8, none⟩) hXl).trans x8
                        go_simp
                        try with_reducible rfl
                      simp only [Act.put, List.setIfInBounds_toArray, List.set_cons_zero, List.set_cons_succ]
                      refine hs_take (i := 14) (d := some 172) (v := .agg (v8 x.hc.v.d).toArray) rfl (by kernel_rfl) (by kernel_rfl) (by kernel_rfl) (by rfl) (fun w' hw => ex_look rfl rfl rfl (hget w' hw)) hS rfl ?_
                      simp only [Act.put, List.setIfInBounds_toArray, List.set_cons_zero, List.set_cons_succ]
                      refine hs_take (i := 15) (d := some 173) (v := .bool false) rfl (by kernel_rfl) (by kernel_rfl) (by kernel_rfl) (by rfl) (fun w' hw => ex_bin rfl rfl rfl (by kernel_rfl) (by rw [neq_any _ _ hdl hdl]; simp)) hS rfl ?_
                      simp only [Act.put, List.setIfInBounds_toArray, List.set_cons_zero, List.set_cons_succ]
                      refine hs_take (i := 16) (d := some 174) (v := ?_) rfl (by kernel_rfl) (by kernel_rfl) (by kernel_rfl) (by rfl) ?_ hS rfl ?_
                      rotate_left
                      · intro w' hw
                        go_simp
                        try with_reducible rfl
                      simp only [Act.put, List.setIfInBounds_toArray, List.set_cons_zero, List.set_cons_succ]
                      refine hs_take (i := 17) (d := some 175) (v := ?_) rfl (by kernel_rfl) (by kernel_rfl) (by kernel_rfl) (by rfl) ?_ hS rfl ?_
                      rotate_left
                      · intro w' hw
                        go_simp
                        try with_reducible rfl
                      simp only [Act.put, List.setIfInBounds_toArray, List.set_cons_zero, List.set_cons_succ]
                      refine hs_take (i := 18) (d := some 176) (v := ?_) rfl (by kernel_rfl) (by kernel_rfl) (by kernel_rfl) (by rfl) ?_ hS rfl ?_
                      rotate_left
                      · intro w' hw
                        go_simp
                        try with_reducible rfl
                      simp only [Act.put, List.setIfInBounds_toArray, List.set_cons_zero, List.set_cons_succ]
                      refine hs_take (i := 19) (d := some 177) (v := ?_) rfl (by kernel_rfl) (by kernel_rfl) (by kernel_rfl) (by rfl) ?_ hS rfl ?_
                      rotate_left
                      · intro w' hw
                        have hq := (hw.cell (p := ⟨X, 84, none⟩) hXl).trans x84
                        go_simp
                        try with_reducible rfl
                      simp only [Act.put, List.setIfInBounds_toArray, List.set_cons_zero, List.set_cons_succ]
                      refine hs_take (i := 20) (d := some 178) (v := ?_) rfl (by kernel_rfl) (by kernel_rfl) (by kernel_rfl) (by rfl) ?_ hS rfl ?_
                      rotate_left
                      · intro w' hw
                        go_simp
                        try with_reducible rfl
                      simp only [Act.put, List.setIfInBounds_toArray, List.set_cons_zero, List.set_cons_succ]
                      refine hs_take (i := 21) (d := some 179) (v := ?_) rfl (by kernel_rfl) (by kernel_rfl) (by kernel_rfl) (by rfl) ?_ hS rfl ?_
                      rotate_left
                      · intro w' hw
                        go_simp
                        try with_reducible rfl
                      simp only [Act.put, List.setIfInBounds_toArray, List.set_cons_zero, List.set_cons_succ]
                      refine hs_take (i := 22) (d := some 180) (v := ?_) rfl (by kernel_rfl) (by kernel_rfl) (by kernel_rfl) (by rfl) ?_ hS rfl ?_
                      rotate_left
                      · intro w' hw
                        go_simp
                        try with_reducible rfl
                      simp only [Act.put, List.setIfInBounds_toArray, List.set_cons_zero, List.set_cons_succ]
                      refine hs_take (i := 23) (d := some 181) (v := ?_) rfl (by kernel_rfl) (by kernel_rfl) (by kernel_rfl) (by rfl) ?_ hS rfl ?_
                      rotate_left
                      · intro w' hw
                        go_simp
                        try with_reducible rfl
                      simp only [Act.put, List.setIfInBounds_toArray, List.set_cons_zero, List.set_cons_succ]
                      refine hs_take (i := 24) (d := some 182) (v := ?_) rfl (by kernel_rfl) (by kernel_rfl) (by kernel_rfl) (by rfl) ?_ hS rfl ?_
                      rotate_left
                      · intro w' hw
                        go_simp
                        try with_reducible rfl
                      simp only [Act.put, List.setIfInBounds_toArray, List.set_cons_zero, List.set_cons_succ]
                      refine hs_take (i := 25) (d := some 183) (v := .agg (v8 x.ec.v.d).toArray) rfl (by kernel_rfl) (by kernel_rfl) (by kernel_rfl) (by rfl) (fun w' hw => ex_mid rfl rfl (range_below he hw hXl) Tryd.underlying26 rfl hie) hS rfl ?_
                      simp only [Act.put, List.setIfInBounds_toArray, List.set_cons_zero, List.set_cons_succ]
                      refine hs_take (i := 26) (d := some 184) (v := ?_) rfl (by kernel_rfl) (by kernel_rfl) (by kernel_rfl) (by rfl) ?_ hS rfl ?_
                      rotate_left
                      · intro w' hw
                        go_simp
                        try with_reducible rfl
                      simp only [Act.put, List.setIfInBounds_toArray, List.set_cons_zero, List.set_cons_succ]
                      refine hs_take (i := 27) (d := some 185) (v := ?_) rfl (by kernel_rfl) (by kernel_rfl) (by kernel_rfl) (by rfl) ?_ hS rfl ?_
                      rotate_left
                      · intro w' hw
                        go_simp
                        try with_reducible rfl
                      simp only [Act.put, List.setIfInBounds_toArray, List.set_cons_zero, List.set_cons_succ]
                      refine hs_take (i := 28) (d := some 186) (v := .agg x.eb.cells.toArray) rfl (by kernel_rfl) (by kernel_rfl) (by kernel_rfl) (by rfl) (fun w' hw => ex_mid rfl rfl (range_below hb hw hXl) Tryd.underlying24 rfl hib2) hS rfl ?_
                      simp only [Act.put, List.setIfInBounds_toArray, List.set_cons_zero, List.set_cons_succ]
                      refine hs_call (i := 29) (d := some 187) rfl (by kernel_rfl) (by rfl) (by go_simp; first | done | exact ⟨rfl, rfl⟩ | with_reducible rfl) rfl ?_
                      refine (cE).mono ?_
                      rintro e' w9 ⟨rfl, hB9⟩
                      have hS : (Below w8.heap.size w8) w9 := hB9
                      refine ⟨_, rfl, hS, ?_⟩
                      simp only [Act.put, List.setIfInBounds_toArray, List.set_cons_zero, List.set_cons_succ]
                      refine hs_take (i := 30) (d := some 188) (v := .bool false) rfl (by kernel_rfl) (by kernel_rfl) (by kernel_rfl) (by rfl) (fun w' hw => ex_bin rfl rfl rfl (by kernel_rfl) (by rw [neq_any _ _ hel (Bat.dig_len _)]; simp [HE.out])) hS rfl ?_
                      simp only [Act.put, List.setIfInBounds_toArray, List.set_cons_zero, List.set_cons_succ]
                      refine hs_take (i := 31) (d := some 189) (v := ?_) rfl (by kernel_rfl) (by kernel_rfl) (by kernel_rfl) (by rfl) ?_ hS rfl ?_
                      rotate_left
                      · intro w' hw
                        go_simp
                        try with_reducible rfl
                      simp only [Act.put, List.setIfInBounds_toArray, List.set_cons_zero, List.set_cons_succ]
                      refine hs_take (i := 32) (d := some 190) (v := ?_) rfl (by kernel_rfl) (by kernel_rfl) (by kernel_rfl) (by rfl) ?_ hS rfl ?_
                      rotate_left
                      · intro w' hw
                        go_simp
                        try with_reducible rfl
                      simp only [Act.put, List.setIfInBounds_toArray, List.set_cons_zero, List.set_cons_succ]
                      refine hs_done (by kernel_rfl) ?_
                      have HM := hide (hmid.below hB9)
                      clear hmid
                      go_wp2_with fail
                      go_meet
                      exact ⟨rfl, HM⟩
                  case rest =>
                    obtain ⟨rfl, HM⟩ := hcut
                    have hmid := HM.out
                    clear HM hmid0
                    have lx : x.cells.length = 85 := Sl.len hfx.raw.vok
                    have ax : x.cells.toArray.size = 85 := by simpa using lx
                    have ox := all_oneS x.one
                    have ix : (Tryd.prog.info? 37).map (·.size) = some x.cells.length := by rw [lx]; exact iszTslot
                    have ixa : (Tryd.prog.info? 37).map (·.size) = some x.cells.toArray.size := by rw [ax]; exact iszTslot
                    have hr := hmid.x.r
                    have hTS : wc.there S 0 x.cells.toArray.size := by rw [ax]; exact hmid.s.th
                    have HI : Hid (∃ (s : Sl) (m : Int → Option (List Int)) (n : Nat), SlAt (wc.setCells S 0 x.cells) S s ∧ MapD (wc.setCells S 0 x.cells) M n m ∧ n ≤ i + 1 ∧ Inv s m ∧ s.fit w ∧ Below w.heap.size w (wc.setCells S 0 x.cells)) := hide ⟨x, metX m x, n + 1, hmid.s.put hfx.raw.vok, hmid.m.apart (by omega) _, by omega, W.inv, hfx, below_sets hws _ _ _ hmid.b⟩
                    clear hmid W
                    go_upto_region 35 with fail
                    try simp only [Act.put]
                    refine wp_region_list ?_
                    refine wpList_load_mid rfl 37 _ rfl _ _ rfl x.cells _ hr Tryd.underlying37 rfl ix ?_
                    refine wpList_store_mid rfl 37 _ _ rfl _ 0 x.cells.toArray rfl rfl hTS ixa ox ?_
                    go_wp2_with fail
                    go_roundw
                    case rel => first | exact ⟨i + 1, by omega, by go_num, HI⟩ | ((repeat apply Exists.intro); exact ⟨⟨i + 1, by omega, by go_num, HI⟩, rfl⟩)
                    case measure => first | (simp [intOf]; omega) | omega
        · obtain rfl : i = ys.length := by omega
          have cl := cL wr hB
          go_wp2_with fail
          refine cl.mono ?_
          rintro _ wl ⟨rfl, hBl⟩
          go_wp2_with fail
          go_ret
          exact ⟨rfl, hB.trans (hBl.mono hB.size)⟩
end Go.Proofs.YtogmkcabndgllaaDoor
