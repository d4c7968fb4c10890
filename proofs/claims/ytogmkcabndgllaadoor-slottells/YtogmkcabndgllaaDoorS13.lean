/- Known, the program's and the document's -/
import Derived.Test.YtogmkcabndgllaaDoorSM
import Derived.Deep.DeepCutAuto
import Derived.Deep.Cut
import Derived.Deep.CutRange
import Derived.Deep.CutBlock
namespace Go.Proofs.YtogmkcabndgllaaDoor
open Go.RowKit
open Sha Tal
set_option linter.unusedVariables false
set_option maxRecDepth 100000 in
set_option maxHeartbeats 8000000 in
theorem known_any (s : Sl) (d : List Int) (hd : d.length = 32) (w : World) (hG : Glob w) (hs : s.ok w) : Calls Tryd.prog 16 #[.agg s.cells.toArray, .agg (v8 d).toArray] w fun e w' => e = .returned (.tuple #[.agg (knownP s d).1.cells.toArray, .bool (knownP s d).2]) ∧ Below w.heap.size w w' := by
  have hv := hs.vok
  have h85 : s.cells.length = 85 := Sl.len hv
  have hiD : (Tryd.prog.info? 26).map (·.size) = some (v8 d).length := by rw [v8_length, hd]; exact iszD
  have hi1 : (Tryd.prog.info? 24).map (·.size) = some s.eb.cells.length := iszB
  have hi2 : (Tryd.prog.info? 24).map (·.size) = some s.b.cells.length := iszB
  have hi3 : (Tryd.prog.info? 24).map (·.size) = some s.hb.cells.length := iszB
  obtain ⟨B1, HB1⟩ : ∃ B, Hid ((s.de && (s.eb.dig == d)) = B) := ⟨_, hide rfl⟩
  obtain ⟨B2, HB2⟩ : ∃ B, Hid ((s.is && (s.b.dig == d)) = B) := ⟨_, hide rfl⟩
  obtain ⟨B3, HB3⟩ : ∃ B, Hid ((s.ho && (s.hb.dig == d)) = B) := ⟨_, hide rfl⟩
  have HK : Hid (knownP s d = if B1 = true then (s.eb, true) else if B2 = true then (s.b, true) else if B3 = true then (s.hb, true) else (bat0, false)) := hide (by
    rw [← HB1.out, ← HB2.out, ← HB3.out]
    simp [knownP, Bool.and_eq_true, beq_iff_eq])
  obtain ⟨K, hK⟩ : ∃ K, Hid (knownP s d = K) := ⟨_, hide rfl⟩
  rw [hK.out] at HK
  rw [hK.out]
  clear hK
  go_enter Tryd.func16, Tryd.ntmps16
  go_upto_region 1 with fail
  go_name_world w1 hw1
  obtain ⟨hB1, hr1, ht1, hr2, hT1, hsz⟩ := box3 hw1
  clear hw1
  have hT1 : w1.there (w.heap.size + 1 + 1) 0 2 := hT1
  rw [h85] at ht1
  have hA : SlAt w1 w.heap.size s := ⟨by omega, ht1, hr1⟩
  clear hr1 ht1
  go_upto_region 1 with fail
  go_cut [6] (fun v wx => v = .bool B1 ∧ Hid (Below w1.heap.size w1 wx))
  case first =>
    obtain ⟨w8, hw8⟩ : ∃ w8, w1.drew = w8 := ⟨_, rfl⟩
    have hB8 : Below w1.heap.size w1 w8 := by rw [← hw8]; exact (Below.refl _ _).drew
    have hA8 := hA.below hB8
    have P8 := hA8.parts hv
    have hr8 := range_below hr2 hB8 (by omega)
    have hBB : Below w.heap.size w w8 := hB1.trans (hB8.mono hB1.size)
    have hz8 : w.heap.size + 3 ≤ w8.heap.size := by have := hB8.size; omega
    have cf := P8.de
    have c1 := s.eb.dig_any w8 (hG.below hBB) (hs.eb.below hBB) hs.ebl
    cases hf : s.de
    · as_aux_lemma =>
        rw [hf] at cf
        have hV : false = B1 := by rw [← HB1.out, hf]; rfl
        have HV := hide hV
        clear hV hf
        try simp only [Act.put]
        refine hs_begin (S := (Below w8.heap.size w8)) 11 rfl (by kernel_rfl) ?_
        rw [hw8]
        clear hw8
        have hS : (Below w8.heap.size w8) w8 := Below.refl _ _
        refine hs_take (i := 0) (d := some 7) (v := ?_) rfl (by kernel_rfl) (by kernel_rfl) (by kernel_rfl) (by rfl) ?_ hS rfl ?_
        rotate_left
        · intro w' hw
          go_simp
          try with_reducible rfl
        simp only [Act.put, List.setIfInBounds_toArray, List.set_cons_zero, List.set_cons_succ]
        refine hs_take (i := 1) (d := some 8) (v := ?_) rfl (by kernel_rfl) (by kernel_rfl) (by kernel_rfl) (by rfl) ?_ hS rfl ?_
        rotate_left
        · intro w' hw
          have hq := (hw.cell (p := ⟨w.heap.size, 84, none⟩) hA8.lt).trans cf
          go_simp
          try with_reducible rfl
        simp only [Act.put, List.setIfInBounds_toArray, List.set_cons_zero, List.set_cons_succ]
        refine hs_take (i := 2) (d := some 9) (v := ?_) rfl (by kernel_rfl) (by kernel_rfl) (by kernel_rfl) (by rfl) ?_ hS rfl ?_
        rotate_left
        · intro w' hw
          go_simp
          try with_reducible rfl
        simp only [Act.put, List.setIfInBounds_toArray, List.set_cons_zero, List.set_cons_succ]
        refine hs_skip (i := 3) (d := some 10) rfl (by kernel_rfl) (by kernel_rfl) (by kernel_rfl) (by rfl) hS rfl ?_
        simp only [Act.put, List.setIfInBounds_toArray, List.set_cons_zero, List.set_cons_succ]
        refine hs_skip (i := 4) (d := some 11) rfl (by kernel_rfl) (by kernel_rfl) (by kernel_rfl) (by rfl) hS rfl ?_
        simp only [Act.put, List.setIfInBounds_toArray, List.set_cons_zero, List.set_cons_succ]
        refine hs_skip (i := 5) (d := some 12) rfl (by kernel_rfl) (by kernel_rfl) (by kernel_rfl) (by rfl) hS rfl ?_
        simp only [Act.put, List.setIfInBounds_toArray, List.set_cons_zero, List.set_cons_succ]
        refine hs_skip (i := 6) (d := some 13) rfl (by kernel_rfl) (by kernel_rfl) (by kernel_rfl) (by rfl) hS rfl ?_
        simp only [Act.put, List.setIfInBounds_toArray, List.set_cons_zero, List.set_cons_succ]
        refine hs_skip (i := 7) (d := some 14) rfl (by kernel_rfl) (by kernel_rfl) (by kernel_rfl) (by rfl) hS rfl ?_
        simp only [Act.put, List.setIfInBounds_toArray, List.set_cons_zero, List.set_cons_succ]
        refine hs_skip (i := 8) (d := some 15) rfl (by kernel_rfl) (by kernel_rfl) (by kernel_rfl) (by rfl) hS rfl ?_
        simp only [Act.put, List.setIfInBounds_toArray, List.set_cons_zero, List.set_cons_succ]
        refine hs_take (i := 9) (d := some 16) (v := ?_) rfl (by kernel_rfl) (by kernel_rfl) (by kernel_rfl) (by rfl) ?_ hS rfl ?_
        rotate_left
        · intro w' hw
          go_simp
          try with_reducible rfl
        simp only [Act.put, List.setIfInBounds_toArray, List.set_cons_zero, List.set_cons_succ]
        refine hs_take (i := 10) (d := some 6) (v := ?_) rfl (by kernel_rfl) (by kernel_rfl) (by kernel_rfl) (by rfl) ?_ hS rfl ?_
        rotate_left
        · intro w' hw
          go_simp
          try with_reducible rfl
        simp only [Act.put, List.setIfInBounds_toArray, List.set_cons_zero, List.set_cons_succ]
        refine hs_done (by kernel_rfl) ?_
        have HM := hide hB8
        clear hB8 hBB P8 hA8 hr8 c1 cf hS
        go_wp2_with fail
        go_meet
        exact ⟨by rw [HV.out], HM⟩
    · as_aux_lemma =>
        rw [hf] at cf
        obtain ⟨Q, HQ⟩ : ∃ Q, Hid ((s.eb.dig == d) = Q) := ⟨_, hide rfl⟩
        have hV : Q = B1 := by rw [← HB1.out, hf, ← HQ.out]; simp
        have HV := hide hV
        clear hV hf
        try simp only [Act.put]
        refine hs_begin (S := (Below w8.heap.size w8)) 11 rfl (by kernel_rfl) ?_
        rw [hw8]
        clear hw8
        have hS : (Below w8.heap.size w8) w8 := Below.refl _ _
        refine hs_take (i := 0) (d := some 7) (v := ?_) rfl (by kernel_rfl) (by kernel_rfl) (by kernel_rfl) (by rfl) ?_ hS rfl ?_
        rotate_left
        · intro w' hw
          go_simp
          try with_reducible rfl
        simp only [Act.put, List.setIfInBounds_toArray, List.set_cons_zero, List.set_cons_succ]
        refine hs_take (i := 1) (d := some 8) (v := ?_) rfl (by kernel_rfl) (by kernel_rfl) (by kernel_rfl) (by rfl) ?_ hS rfl ?_
        rotate_left
        · intro w' hw
          have hq := (hw.cell (p := ⟨w.heap.size, 84, none⟩) hA8.lt).trans cf
          go_simp
          try with_reducible rfl
        simp only [Act.put, List.setIfInBounds_toArray, List.set_cons_zero, List.set_cons_succ]
        refine hs_take (i := 2) (d := some 9) (v := ?_) rfl (by kernel_rfl) (by kernel_rfl) (by kernel_rfl) (by rfl) ?_ hS rfl ?_
        rotate_left
        · intro w' hw
          go_simp
          try with_reducible rfl
        simp only [Act.put, List.setIfInBounds_toArray, List.set_cons_zero, List.set_cons_succ]
        refine hs_take (i := 3) (d := some 10) (v := ?_) rfl (by kernel_rfl) (by kernel_rfl) (by kernel_rfl) (by rfl) ?_ hS rfl ?_
        rotate_left
        · intro w' hw
          go_simp
          try with_reducible rfl
        simp only [Act.put, List.setIfInBounds_toArray, List.set_cons_zero, List.set_cons_succ]
        refine hs_take (i := 4) (d := some 11) (v := ?_) rfl (by kernel_rfl) (by kernel_rfl) (by kernel_rfl) (by rfl) ?_ hS rfl ?_
        rotate_left
        · intro w' hw
          go_simp
          try with_reducible rfl
        simp only [Act.put, List.setIfInBounds_toArray, List.set_cons_zero, List.set_cons_succ]
        refine hs_take (i := 5) (d := some 12) (v := .agg s.eb.cells.toArray) rfl (by kernel_rfl) (by kernel_rfl) (by kernel_rfl) (by rfl) (fun w' hw => ex_mid rfl rfl (range_below P8.eb hw hA8.lt) Tryd.underlying24 rfl hi1) hS rfl ?_
        simp only [Act.put, List.setIfInBounds_toArray, List.set_cons_zero, List.set_cons_succ]
        refine hs_take (i := 7) (d := some 14) (v := .agg (v8 d).toArray) rfl (by kernel_rfl) (by kernel_rfl) (by kernel_rfl) (by rfl) (fun w' hw => ex_mid rfl rfl (range_below hr8 hw (by omega)) Tryd.underlying26 rfl hiD) hS rfl ?_
        simp only [Act.put, List.setIfInBounds_toArray, List.set_cons_zero, List.set_cons_succ]
        refine hs_call (i := 6) (d := some 13) rfl (by kernel_rfl) (by rfl) (by go_simp; first | done | exact ⟨rfl, rfl⟩ | with_reducible rfl) rfl ?_
        refine (c1).mono ?_
        rintro e' w9 ⟨rfl, hB9⟩
        have hS : (Below w8.heap.size w8) w9 := hB9
        refine ⟨_, rfl, hS, ?_⟩
        simp only [Act.put, List.setIfInBounds_toArray, List.set_cons_zero, List.set_cons_succ]
        refine hs_take (i := 8) (d := some 15) (v := .bool Q) rfl (by kernel_rfl) (by kernel_rfl) (by kernel_rfl) (by rfl) (fun w' hw => ex_bin rfl rfl rfl (by kernel_rfl) (by rw [eql_any _ _ (Bat.dig_len _) hd]; rw [← HQ.out])) hS rfl ?_
        simp only [Act.put, List.setIfInBounds_toArray, List.set_cons_zero, List.set_cons_succ]
        refine hs_take (i := 9) (d := some 16) (v := ?_) rfl (by kernel_rfl) (by kernel_rfl) (by kernel_rfl) (by rfl) ?_ hS rfl ?_
        rotate_left
        · intro w' hw
          go_simp
          try with_reducible rfl
        simp only [Act.put, List.setIfInBounds_toArray, List.set_cons_zero, List.set_cons_succ]
        refine hs_take (i := 10) (d := some 6) (v := ?_) rfl (by kernel_rfl) (by kernel_rfl) (by kernel_rfl) (by rfl) ?_ hS rfl ?_
        rotate_left
        · intro w' hw
          go_simp
          try with_reducible rfl
        simp only [Act.put, List.setIfInBounds_toArray, List.set_cons_zero, List.set_cons_succ]
        refine hs_done (by kernel_rfl) ?_
        have HM := hide (hB8.trans (hB9.mono hB8.size))
        clear hB8 hB9 hBB P8 hA8 hr8 cf hS
        go_wp2_with fail
        go_meet
        exact ⟨by rw [HV.out], HM⟩
  case rest =>
    obtain ⟨rfl, HM⟩ := hcut
    have hM := HM.out
    clear HM
    have hA := hA.below hM
    have hr2 := range_below hr2 hM (by omega)
    have hT1 := there_below hT1 hM (by omega)
    have hB1 : Below w.heap.size w wc := hB1.trans (hM.mono hB1.size)
    have hsz : w.heap.size + 3 ≤ wc.heap.size := by have := hM.size; omega
    clear hM
    cases B1
    rotate_left
    · as_aux_lemma =>
        have e : K = (s.eb, true) := by rw [HK.out]; rfl
        subst e
        have hrb := (hA.parts hv).eb
        go_upto_region 2 with fail
        try simp only [Act.put]
        refine wp_region_list ?_
        refine wpList_step fun K hK => ?_
        go_simp
        refine hK _ _ ?_
        clear hK K
        refine wpList_step fun K hK => ?_
        go_simp
        refine hK _ _ ?_
        clear hK K
        refine wpList_load_mid rfl 24 _ rfl _ _ rfl s.eb.cells _ hrb Tryd.underlying24 rfl hi1 ?_
        refine wpList_store_mid rfl 24 _ _ rfl _ 0 s.eb.cells.toArray rfl rfl hT1 hi1 (all_oneS s.eb.one) ?_
        go_wp2_with fail
        refine bodyPost_ret (results_ct rfl _ _ _ rfl (run_loadVar_mid (P := Tryd.prog) _ (w.heap.size + 1 + 1) 0 24 s.eb.cells _ (World.rangeAt_setCells_same _ _ _ _ hT1) Tryd.underlying24 rfl hi1)) rfl ?_
        exact ⟨rfl, below_sets (by omega) _ _ _ hB1⟩
    go_upto_region 3 with fail
    go_cut [20] (fun v wx => v = .bool B2 ∧ Hid (Below wc.heap.size wc wx))
    case first =>
      obtain ⟨w8, hw8⟩ : ∃ w8, wc.drew = w8 := ⟨_, rfl⟩
      have hB8 : Below wc.heap.size wc w8 := by rw [← hw8]; exact (Below.refl _ _).drew
      have hA8 := hA.below hB8
      have P8 := hA8.parts hv
      have hr8 := range_below hr2 hB8 (by omega)
      have hBB : Below w.heap.size w w8 := hB1.trans (hB8.mono hB1.size)
      have hz8 : w.heap.size + 3 ≤ w8.heap.size := by have := hB8.size; omega
      have cf := P8.is
      have c1 := s.b.dig_any w8 (hG.below hBB) (hs.b.below hBB) hs.bl
      cases hf : s.is
      · as_aux_lemma =>
          rw [hf] at cf
          have hV : false = B2 := by rw [← HB2.out, hf]; rfl
          have HV := hide hV
          clear hV hf
          try simp only [Act.put]
          refine hs_begin (S := (Below w8.heap.size w8)) 10 rfl (by kernel_rfl) ?_
          rw [hw8]
          clear hw8
          have hS : (Below w8.heap.size w8) w8 := Below.refl _ _
          refine hs_take (i := 0) (d := some 21) (v := ?_) rfl (by kernel_rfl) (by kernel_rfl) (by kernel_rfl) (by rfl) ?_ hS rfl ?_
          rotate_left
          · intro w' hw
            go_simp
            try with_reducible rfl
          simp only [Act.put, List.setIfInBounds_toArray, List.set_cons_zero, List.set_cons_succ]
          refine hs_take (i := 1) (d := some 22) (v := ?_) rfl (by kernel_rfl) (by kernel_rfl) (by kernel_rfl) (by rfl) ?_ hS rfl ?_
          rotate_left
          · intro w' hw
            have hq := (hw.cell (p := ⟨w.heap.size, 3, none⟩) hA8.lt).trans cf
            go_simp
            try with_reducible rfl
          simp only [Act.put, List.setIfInBounds_toArray, List.set_cons_zero, List.set_cons_succ]
          refine hs_take (i := 2) (d := some 23) (v := ?_) rfl (by kernel_rfl) (by kernel_rfl) (by kernel_rfl) (by rfl) ?_ hS rfl ?_
          rotate_left
          · intro w' hw
            go_simp
            try with_reducible rfl
          simp only [Act.put, List.setIfInBounds_toArray, List.set_cons_zero, List.set_cons_succ]
          refine hs_skip (i := 3) (d := some 24) rfl (by kernel_rfl) (by kernel_rfl) (by kernel_rfl) (by rfl) hS rfl ?_
          simp only [Act.put, List.setIfInBounds_toArray, List.set_cons_zero, List.set_cons_succ]
          refine hs_skip (i := 4) (d := some 25) rfl (by kernel_rfl) (by kernel_rfl) (by kernel_rfl) (by rfl) hS rfl ?_
          simp only [Act.put, List.setIfInBounds_toArray, List.set_cons_zero, List.set_cons_succ]
          refine hs_skip (i := 5) (d := some 26) rfl (by kernel_rfl) (by kernel_rfl) (by kernel_rfl) (by rfl) hS rfl ?_
          simp only [Act.put, List.setIfInBounds_toArray, List.set_cons_zero, List.set_cons_succ]
          refine hs_skip (i := 6) (d := some 27) rfl (by kernel_rfl) (by kernel_rfl) (by kernel_rfl) (by rfl) hS rfl ?_
          simp only [Act.put, List.setIfInBounds_toArray, List.set_cons_zero, List.set_cons_succ]
          refine hs_skip (i := 7) (d := some 28) rfl (by kernel_rfl) (by kernel_rfl) (by kernel_rfl) (by rfl) hS rfl ?_
          simp only [Act.put, List.setIfInBounds_toArray, List.set_cons_zero, List.set_cons_succ]
          refine hs_take (i := 8) (d := some 29) (v := ?_) rfl (by kernel_rfl) (by kernel_rfl) (by kernel_rfl) (by rfl) ?_ hS rfl ?_
          rotate_left
          · intro w' hw
            go_simp
            try with_reducible rfl
          simp only [Act.put, List.setIfInBounds_toArray, List.set_cons_zero, List.set_cons_succ]
          refine hs_take (i := 9) (d := some 20) (v := ?_) rfl (by kernel_rfl) (by kernel_rfl) (by kernel_rfl) (by rfl) ?_ hS rfl ?_
          rotate_left
          · intro w' hw
            go_simp
            try with_reducible rfl
          simp only [Act.put, List.setIfInBounds_toArray, List.set_cons_zero, List.set_cons_succ]
          refine hs_done (by kernel_rfl) ?_
          have HM := hide hB8
          clear hB8 hBB P8 hA8 hr8 c1 cf hS
          go_wp2_with fail
          go_meet
          exact ⟨by rw [HV.out], HM⟩
      · as_aux_lemma =>
          rw [hf] at cf
          obtain ⟨Q, HQ⟩ : ∃ Q, Hid ((s.b.dig == d) = Q) := ⟨_, hide rfl⟩
          have hV : Q = B2 := by rw [← HB2.out, hf, ← HQ.out]; simp
          have HV := hide hV
          clear hV hf
          try simp only [Act.put]
          refine hs_begin (S := (Below w8.heap.size w8)) 10 rfl (by kernel_rfl) ?_
          rw [hw8]
          clear hw8
          have hS : (Below w8.heap.size w8) w8 := Below.refl _ _
          refine hs_take (i := 0) (d := some 21) (v := ?_) rfl (by kernel_rfl) (by kernel_rfl) (by kernel_rfl) (by rfl) ?_ hS rfl ?_
          rotate_left
          · intro w' hw
            go_simp
            try with_reducible rfl
          simp only [Act.put, List.setIfInBounds_toArray, List.set_cons_zero, List.set_cons_succ]
          refine hs_take (i := 1) (d := some 22) (v := ?_) rfl (by kernel_rfl) (by kernel_rfl) (by kernel_rfl) (by rfl) ?_ hS rfl ?_
          rotate_left
          · intro w' hw
            have hq := (hw.cell (p := ⟨w.heap.size, 3, none⟩) hA8.lt).trans cf
            go_simp
            try with_reducible rfl
          simp only [Act.put, List.setIfInBounds_toArray, List.set_cons_zero, List.set_cons_succ]
          refine hs_take (i := 2) (d := some 23) (v := ?_) rfl (by kernel_rfl) (by kernel_rfl) (by kernel_rfl) (by rfl) ?_ hS rfl ?_
          rotate_left
          · intro w' hw
            go_simp
            try with_reducible rfl
          simp only [Act.put, List.setIfInBounds_toArray, List.set_cons_zero, List.set_cons_succ]
          refine hs_take (i := 3) (d := some 24) (v := ?_) rfl (by kernel_rfl) (by kernel_rfl) (by kernel_rfl) (by rfl) ?_ hS rfl ?_
          rotate_left
          · intro w' hw
            go_simp
            try with_reducible rfl
          simp only [Act.put, List.setIfInBounds_toArray, List.set_cons_zero, List.set_cons_succ]
          refine hs_take (i := 4) (d := some 25) (v := .agg s.b.cells.toArray) rfl (by kernel_rfl) (by kernel_rfl) (by kernel_rfl) (by rfl) (fun w' hw => ex_mid rfl rfl (range_below P8.b hw hA8.lt) Tryd.underlying24 rfl hi2) hS rfl ?_
          simp only [Act.put, List.setIfInBounds_toArray, List.set_cons_zero, List.set_cons_succ]
          refine hs_take (i := 6) (d := some 27) (v := .agg (v8 d).toArray) rfl (by kernel_rfl) (by kernel_rfl) (by kernel_rfl) (by rfl) (fun w' hw => ex_mid rfl rfl (range_below hr8 hw (by omega)) Tryd.underlying26 rfl hiD) hS rfl ?_
          simp only [Act.put, List.setIfInBounds_toArray, List.set_cons_zero, List.set_cons_succ]
          refine hs_call (i := 5) (d := some 26) rfl (by kernel_rfl) (by rfl) (by go_simp; first | done | exact ⟨rfl, rfl⟩ | with_reducible rfl) rfl ?_
          refine (c1).mono ?_
          rintro e' w9 ⟨rfl, hB9⟩
          have hS : (Below w8.heap.size w8) w9 := hB9
          refine ⟨_, rfl, hS, ?_⟩
          simp only [Act.put, List.setIfInBounds_toArray, List.set_cons_zero, List.set_cons_succ]
          refine hs_take (i := 7) (d := some 28) (v := .bool Q) rfl (by kernel_rfl) (by kernel_rfl) (by kernel_rfl) (by rfl) (fun w' hw => ex_bin rfl rfl rfl (by kernel_rfl) (by rw [eql_any _ _ (Bat.dig_len _) hd]; rw [← HQ.out])) hS rfl ?_
          simp only [Act.put, List.setIfInBounds_toArray, List.set_cons_zero, List.set_cons_succ]
          refine hs_take (i := 8) (d := some 29) (v := ?_) rfl (by kernel_rfl) (by kernel_rfl) (by kernel_rfl) (by rfl) ?_ hS rfl ?_
          rotate_left
          · intro w' hw
            go_simp
            try with_reducible rfl
          simp only [Act.put, List.setIfInBounds_toArray, List.set_cons_zero, List.set_cons_succ]
          refine hs_take (i := 9) (d := some 20) (v := ?_) rfl (by kernel_rfl) (by kernel_rfl) (by kernel_rfl) (by rfl) ?_ hS rfl ?_
          rotate_left
          · intro w' hw
            go_simp
            try with_reducible rfl
          simp only [Act.put, List.setIfInBounds_toArray, List.set_cons_zero, List.set_cons_succ]
          refine hs_done (by kernel_rfl) ?_
          have HM := hide (hB8.trans (hB9.mono hB8.size))
          clear hB8 hB9 hBB P8 hA8 hr8 cf hS
          go_wp2_with fail
          go_meet
          exact ⟨by rw [HV.out], HM⟩
    case rest =>
      obtain ⟨rfl, HM⟩ := hcut
      have hM := HM.out
      clear HM
      have hA := hA.below hM
      have hr2 := range_below hr2 hM (by omega)
      have hT1 := there_below hT1 hM (by omega)
      have hB1 : Below w.heap.size w wc := hB1.trans (hM.mono hB1.size)
      have hsz : w.heap.size + 3 ≤ wc.heap.size := by have := hM.size; omega
      clear hM
      cases B2
      rotate_left
      · as_aux_lemma =>
          have e : K = (s.b, true) := by rw [HK.out]; rfl
          subst e
          have hrb := (hA.parts hv).b
          go_upto_region 4 with fail
          try simp only [Act.put]
          refine wp_region_list ?_
          refine wpList_step fun K hK => ?_
          go_simp
          refine hK _ _ ?_
          clear hK K
          refine wpList_load_mid rfl 24 _ rfl _ _ rfl s.b.cells _ hrb Tryd.underlying24 rfl hi2 ?_
          refine wpList_store_mid rfl 24 _ _ rfl _ 0 s.b.cells.toArray rfl rfl hT1 hi2 (all_oneS s.b.one) ?_
          go_wp2_with fail
          refine bodyPost_ret (results_ct rfl _ _ _ rfl (run_loadVar_mid (P := Tryd.prog) _ (w.heap.size + 1 + 1) 0 24 s.b.cells _ (World.rangeAt_setCells_same _ _ _ _ hT1) Tryd.underlying24 rfl hi2)) rfl ?_
          exact ⟨rfl, below_sets (by omega) _ _ _ hB1⟩
      go_upto_region 5 with fail
      go_cut [32] (fun v wx => v = .bool B3 ∧ Hid (Below wc.heap.size wc wx))
      case first =>
        obtain ⟨w8, hw8⟩ : ∃ w8, wc.drew = w8 := ⟨_, rfl⟩
        have hB8 : Below wc.heap.size wc w8 := by rw [← hw8]; exact (Below.refl _ _).drew
        have hA8 := hA.below hB8
        have P8 := hA8.parts hv
        have hr8 := range_below hr2 hB8 (by omega)
        have hBB : Below w.heap.size w w8 := hB1.trans (hB8.mono hB1.size)
        have hz8 : w.heap.size + 3 ≤ w8.heap.size := by have := hB8.size; omega
        have cf := P8.ho
        have c1 := s.hb.dig_any w8 (hG.below hBB) (hs.hb.below hBB) hs.hbl
        cases hf : s.ho
        · as_aux_lemma =>
            rw [hf] at cf
            have hV : false = B3 := by rw [← HB3.out, hf]; rfl
            have HV := hide hV
            clear hV hf
            try simp only [Act.put]
            refine hs_begin (S := (Below w8.heap.size w8)) 11 rfl (by kernel_rfl) ?_
            rw [hw8]
            clear hw8
            have hS : (Below w8.heap.size w8) w8 := Below.refl _ _
            refine hs_take (i := 0) (d := some 33) (v := ?_) rfl (by kernel_rfl) (by kernel_rfl) (by kernel_rfl) (by rfl) ?_ hS rfl ?_
            rotate_left
            · intro w' hw
              go_simp
              try with_reducible rfl
            simp only [Act.put, List.setIfInBounds_toArray, List.set_cons_zero, List.set_cons_succ]
            refine hs_take (i := 1) (d := some 34) (v := ?_) rfl (by kernel_rfl) (by kernel_rfl) (by kernel_rfl) (by rfl) ?_ hS rfl ?_
            rotate_left
            · intro w' hw
              have hq := (hw.cell (p := ⟨w.heap.size, 43, none⟩) hA8.lt).trans cf
              go_simp
              try with_reducible rfl
            simp only [Act.put, List.setIfInBounds_toArray, List.set_cons_zero, List.set_cons_succ]
            refine hs_take (i := 2) (d := some 35) (v := ?_) rfl (by kernel_rfl) (by kernel_rfl) (by kernel_rfl) (by rfl) ?_ hS rfl ?_
            rotate_left
            · intro w' hw
              go_simp
              try with_reducible rfl
            simp only [Act.put, List.setIfInBounds_toArray, List.set_cons_zero, List.set_cons_succ]
            refine hs_skip (i := 3) (d := some 36) rfl (by kernel_rfl) (by kernel_rfl) (by kernel_rfl) (by rfl) hS rfl ?_
            simp only [Act.put, List.setIfInBounds_toArray, List.set_cons_zero, List.set_cons_succ]
            refine hs_skip (i := 4) (d := some 37) rfl (by kernel_rfl) (by kernel_rfl) (by kernel_rfl) (by rfl) hS rfl ?_
            simp only [Act.put, List.setIfInBounds_toArray, List.set_cons_zero, List.set_cons_succ]
            refine hs_skip (i := 5) (d := some 38) rfl (by kernel_rfl) (by kernel_rfl) (by kernel_rfl) (by rfl) hS rfl ?_
            simp only [Act.put, List.setIfInBounds_toArray, List.set_cons_zero, List.set_cons_succ]
            refine hs_skip (i := 6) (d := some 39) rfl (by kernel_rfl) (by kernel_rfl) (by kernel_rfl) (by rfl) hS rfl ?_
            simp only [Act.put, List.setIfInBounds_toArray, List.set_cons_zero, List.set_cons_succ]
            refine hs_skip (i := 7) (d := some 40) rfl (by kernel_rfl) (by kernel_rfl) (by kernel_rfl) (by rfl) hS rfl ?_
            simp only [Act.put, List.setIfInBounds_toArray, List.set_cons_zero, List.set_cons_succ]
            refine hs_skip (i := 8) (d := some 41) rfl (by kernel_rfl) (by kernel_rfl) (by kernel_rfl) (by rfl) hS rfl ?_
            simp only [Act.put, List.setIfInBounds_toArray, List.set_cons_zero, List.set_cons_succ]
            refine hs_take (i := 9) (d := some 42) (v := ?_) rfl (by kernel_rfl) (by kernel_rfl) (by kernel_rfl) (by rfl) ?_ hS rfl ?_
            rotate_left
            · intro w' hw
              go_simp
              try with_reducible rfl
            simp only [Act.put, List.setIfInBounds_toArray, List.set_cons_zero, List.set_cons_succ]
            refine hs_take (i := 10) (d := some 32) (v := ?_) rfl (by kernel_rfl) (by kernel_rfl) (by kernel_rfl) (by rfl) ?_ hS rfl ?_
            rotate_left
            · intro w' hw
              go_simp
              try with_reducible rfl
            simp only [Act.put, List.setIfInBounds_toArray, List.set_cons_zero, List.set_cons_succ]
            refine hs_done (by kernel_rfl) ?_
            have HM := hide hB8
            clear hB8 hBB P8 hA8 hr8 c1 cf hS
            go_wp2_with fail
            go_meet
            exact ⟨by rw [HV.out], HM⟩
        · as_aux_lemma =>
            rw [hf] at cf
            obtain ⟨Q, HQ⟩ : ∃ Q, Hid ((s.hb.dig == d) = Q) := ⟨_, hide rfl⟩
            have hV : Q = B3 := by rw [← HB3.out, hf, ← HQ.out]; simp
            have HV := hide hV
            clear hV hf
            try simp only [Act.put]
            refine hs_begin (S := (Below w8.heap.size w8)) 11 rfl (by kernel_rfl) ?_
            rw [hw8]
            clear hw8
            have hS : (Below w8.heap.size w8) w8 := Below.refl _ _
            refine hs_take (i := 0) (d := some 33) (v := ?_) rfl (by kernel_rfl) (by kernel_rfl) (by kernel_rfl) (by rfl) ?_ hS rfl ?_
            rotate_left
            · intro w' hw
              go_simp
              try with_reducible rfl
            simp only [Act.put, List.setIfInBounds_toArray, List.set_cons_zero, List.set_cons_succ]
            refine hs_take (i := 1) (d := some 34) (v := ?_) rfl (by kernel_rfl) (by kernel_rfl) (by kernel_rfl) (by rfl) ?_ hS rfl ?_
            rotate_left
            · intro w' hw
              have hq := (hw.cell (p := ⟨w.heap.size, 43, none⟩) hA8.lt).trans cf
              go_simp
              try with_reducible rfl
            simp only [Act.put, List.setIfInBounds_toArray, List.set_cons_zero, List.set_cons_succ]
            refine hs_take (i := 2) (d := some 35) (v := ?_) rfl (by kernel_rfl) (by kernel_rfl) (by kernel_rfl) (by rfl) ?_ hS rfl ?_
            rotate_left
            · intro w' hw
              go_simp
              try with_reducible rfl
            simp only [Act.put, List.setIfInBounds_toArray, List.set_cons_zero, List.set_cons_succ]
            refine hs_take (i := 3) (d := some 36) (v := ?_) rfl (by kernel_rfl) (by kernel_rfl) (by kernel_rfl) (by rfl) ?_ hS rfl ?_
            rotate_left
            · intro w' hw
              go_simp
              try with_reducible rfl
            simp only [Act.put, List.setIfInBounds_toArray, List.set_cons_zero, List.set_cons_succ]
            refine hs_take (i := 4) (d := some 37) (v := ?_) rfl (by kernel_rfl) (by kernel_rfl) (by kernel_rfl) (by rfl) ?_ hS rfl ?_
            rotate_left
            · intro w' hw
              go_simp
              try with_reducible rfl
            simp only [Act.put, List.setIfInBounds_toArray, List.set_cons_zero, List.set_cons_succ]
            refine hs_take (i := 5) (d := some 38) (v := .agg s.hb.cells.toArray) rfl (by kernel_rfl) (by kernel_rfl) (by kernel_rfl) (by rfl) (fun w' hw => ex_mid rfl rfl (range_below P8.hb hw hA8.lt) Tryd.underlying24 rfl hi3) hS rfl ?_
            simp only [Act.put, List.setIfInBounds_toArray, List.set_cons_zero, List.set_cons_succ]
            refine hs_take (i := 7) (d := some 40) (v := .agg (v8 d).toArray) rfl (by kernel_rfl) (by kernel_rfl) (by kernel_rfl) (by rfl) (fun w' hw => ex_mid rfl rfl (range_below hr8 hw (by omega)) Tryd.underlying26 rfl hiD) hS rfl ?_
            simp only [Act.put, List.setIfInBounds_toArray, List.set_cons_zero, List.set_cons_succ]
            refine hs_call (i := 6) (d := some 39) rfl (by kernel_rfl) (by rfl) (by go_simp; first | done | exact ⟨rfl, rfl⟩ | with_reducible rfl) rfl ?_
            refine (c1).mono ?_
            rintro e' w9 ⟨rfl, hB9⟩
            have hS : (Below w8.heap.size w8) w9 := hB9
            refine ⟨_, rfl, hS, ?_⟩
            simp only [Act.put, List.setIfInBounds_toArray, List.set_cons_zero, List.set_cons_succ]
            refine hs_take (i := 8) (d := some 41) (v := .bool Q) rfl (by kernel_rfl) (by kernel_rfl) (by kernel_rfl) (by rfl) (fun w' hw => ex_bin rfl rfl rfl (by kernel_rfl) (by rw [eql_any _ _ (Bat.dig_len _) hd]; rw [← HQ.out])) hS rfl ?_
            simp only [Act.put, List.setIfInBounds_toArray, List.set_cons_zero, List.set_cons_succ]
            refine hs_take (i := 9) (d := some 42) (v := ?_) rfl (by kernel_rfl) (by kernel_rfl) (by kernel_rfl) (by rfl) ?_ hS rfl ?_
            rotate_left
            · intro w' hw
              go_simp
              try with_reducible rfl
            simp only [Act.put, List.setIfInBounds_toArray, List.set_cons_zero, List.set_cons_succ]
            refine hs_take (i := 10) (d := some 32) (v := ?_) rfl (by kernel_rfl) (by kernel_rfl) (by kernel_rfl) (by rfl) ?_ hS rfl ?_
            rotate_left
            · intro w' hw
              go_simp
              try with_reducible rfl
            simp only [Act.put, List.setIfInBounds_toArray, List.set_cons_zero, List.set_cons_succ]
            refine hs_done (by kernel_rfl) ?_
            have HM := hide (hB8.trans (hB9.mono hB8.size))
            clear hB8 hB9 hBB P8 hA8 hr8 cf hS
            go_wp2_with fail
            go_meet
            exact ⟨by rw [HV.out], HM⟩
      case rest =>
        obtain ⟨rfl, HM⟩ := hcut
        have hM := HM.out
        clear HM
        have hA := hA.below hM
        have hr2 := range_below hr2 hM (by omega)
        have hT1 := there_below hT1 hM (by omega)
        have hB1 : Below w.heap.size w wc := hB1.trans (hM.mono hB1.size)
        have hsz : w.heap.size + 3 ≤ wc.heap.size := by have := hM.size; omega
        clear hM
        cases B3
        rotate_left
        · as_aux_lemma =>
            have e : K = (s.hb, true) := by rw [HK.out]; rfl
            subst e
            have hrb := (hA.parts hv).hb
            go_upto_region 6 with fail
            try simp only [Act.put]
            refine wp_region_list ?_
            refine wpList_step fun K hK => ?_
            go_simp
            refine hK _ _ ?_
            clear hK K
            refine wpList_step fun K hK => ?_
            go_simp
            refine hK _ _ ?_
            clear hK K
            refine wpList_load_mid rfl 24 _ rfl _ _ rfl s.hb.cells _ hrb Tryd.underlying24 rfl hi3 ?_
            refine wpList_store_mid rfl 24 _ _ rfl _ 0 s.hb.cells.toArray rfl rfl hT1 hi3 (all_oneS s.hb.one) ?_
            go_wp2_with fail
            refine bodyPost_ret (results_ct rfl _ _ _ rfl (run_loadVar_mid (P := Tryd.prog) _ (w.heap.size + 1 + 1) 0 24 s.hb.cells _ (World.rangeAt_setCells_same _ _ _ _ hT1) Tryd.underlying24 rfl hi3)) rfl ?_
            exact ⟨rfl, below_sets (by omega) _ _ _ hB1⟩
        have e : K = (bat0, false) := by rw [HK.out]; rfl
        subst e
        have hib : (Tryd.prog.info? 24).map (·.size) = some bat0.cells.length := iszB
        have hbz := fun w' => build_bat0 w'
        obtain ⟨z0, hz0⟩ : ∃ z, Hid (bat0.cells = z) := ⟨_, hide rfl⟩
        have z2 : z0.toArray.size = 2 := by rw [← hz0.out]; rfl
        have z1 : z0.toArray.all (·.oneCell') = true := by rw [← hz0.out]; exact all_oneS bat0.one
        rw [hz0.out] at hib
        simp only [hz0.out] at hbz
        have hTz : wc.there (w.heap.size + 1 + 1) 0 z0.toArray.size := by rw [z2]; exact hT1
        have hTl : wc.there (w.heap.size + 1 + 1) 0 z0.length := hTz
        go_wp2_with (first
          | (refine wpList_build rfl 24 [] rfl [] (.agg z0.toArray) rfl (hbz _) ?_)
          | (refine wpList_store_mid rfl 24 _ _ rfl _ 0 z0.toArray rfl rfl hTz hib z1 ?_))
        refine bodyPost_ret (results_ct rfl _ _ _ rfl (run_loadVar_mid (P := Tryd.prog) _ (w.heap.size + 1 + 1) 0 24 z0 _ (World.rangeAt_setCells_same _ _ _ _ hTl) Tryd.underlying24 rfl hib)) rfl ?_
        exact ⟨by rw [← hz0.out]; rfl, below_sets (by omega) _ _ _ hB1⟩
end Go.Proofs.YtogmkcabndgllaaDoor
