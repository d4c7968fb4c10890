/- MarksOne: the walk -/
import Derived.Test.YtfaagiilldkdgaaKArgs
namespace Go.Proofs.Ytfaagiilldkdgaa
open Go.RowKit
set_option linter.unusedVariables false
set_option linter.unusedSimpArgs false
theorem umodc (z : Int) (m : Nat) (h0 : 0 < m) (hm : m ≤ 65536) : ∃ p : Nat, p < m ∧ wrap64 ((IntKind.u64.wrap z).tmod (m : Int)) = (p : Int) := by
  rw [IntKind.wrap_u64]
  have h0' : 0 ≤ z % 18446744073709551616 := Int.emod_nonneg _ (by decide)
  generalize z % 18446744073709551616 = q at h0'
  rw [Int.tmod_eq_emod_of_nonneg h0']
  have h1 := Int.emod_nonneg q (b := (m : Int)) (by omega)
  have h2 := Int.emod_lt_of_pos q (b := (m : Int)) (by omega)
  refine ⟨(q % (m : Int)).toNat, by omega, ?_⟩
  generalize q % (m : Int) = r at h1 h2
  simp only [wrap64]
  omega
theorem iszA : (Try.prog.info? 33).map (·.size) = some 50 := by kernel_rfl
theorem new_yesX (n : Int) (w : World) (h : Nq.goodB n = true) : Calls Try.prog 6 #[.int .i64 n] w fun e w' => ∃ B b, e = .returned (.pointer (some ⟨B, 0, none⟩)) ∧ MkAt w' B b 0 n (fun _ => none) ∧ w.heap.size ≤ b ∧ Below w.heap.size w w' := by
  refine (new_yes n w h).mono ?_
  rintro e w' ⟨rfl, h1, h2⟩
  exact ⟨_, _, rfl, h1, Nat.le_refl _, h2⟩
/-- two digests of an epoch: no node has signed both -/
theorem sgs_two (m : Int → Option Mk) (e : Int) {d d' : List Int} (hd : d ≠ d') : ∀ k, (sgs m e d k).length + (sgs m e d' k).length ≤ k
  | 0 => by simp [sgs]
  | k + 1 => by
    have ih := sgs_two m e hd k
    unfold sgs
    cases hm : m k with
    | none => simp; omega
    | some x =>
      simp only [List.length_append]
      by_cases h1 : x.e = e ∧ x.d = d
      · have h2 : ¬ (x.e = e ∧ x.d = d') := fun q => hd (h1.2.symm.trans q.2)
        rw [if_pos h1, if_neg h2]
        simp
        omega
      · rw [if_neg h1]
        split <;> simp <;> omega
theorem signs_full {N : Int} {m : Int → Option Mk} {e : Int} {d : List Int} {need : Int} (h : signsP N m e d need ≠ []) : 1 ≤ need ∧ need ≤ ((sgs m e d N.toNat).length : Int) := by
  unfold signsP at h
  split at h
  · exact absurd rfl h
  · omega
theorem signs_none {N : Int} {m : Int → Option Mk} {e : Int} {d d' : List Int} {need : Int} (hN : N < 2 * need) (h0 : 0 ≤ N) (hd : d ≠ d') (h : signsP N m e d need ≠ []) : signsP N m e d' need = [] := by
  cases hc : signsP N m e d' need with
  | nil => rfl
  | cons a l =>
    have h1 := signs_full h
    have h2 := signs_full (need := need) (show signsP N m e d' need ≠ [] by rw [hc]; simp)
    have h3 := sgs_two m e hd N.toNat
    omega
theorem one_filled {w w3 : World} {a1 : Array Value} {t1 : TypeId} {c1 : List Value} (h : (w.alloc (.cells a1 t1)).setCells w.heap.size 0 c1 = w3) (h1 : c1.length = a1.size) :
    Below w.heap.size w w3 ∧ w3.rangeAt w.heap.size 0 c1 ∧ w.heap.size < w3.heap.size ∧ w3.there w.heap.size 0 a1.size := by
  subst h
  obtain ⟨q1, q2, q3, q4⟩ := fresh_store w a1 t1 c1 h1
  exact ⟨q2, q1, by omega, q4⟩
theorem zeroAc : ∃ z : List Value, z.length = 50 ∧ ∀ w : World, (zeroValue 33).run Try.prog w = .ok (.agg z.toArray) w := ⟨(Ac.mk 0 mk0).cells, by decide, fun w => by kernel_rfl⟩
set_option maxRecDepth 100000 in
set_option maxHeartbeats 4000000 in
theorem one_walk (f : Int) (al : Option Addr) (cl : Nat) (ys : List Ac) (more : Int) (w : World) (hok : ∀ y ∈ ys, y.ok) (hrow : RowOf Ac.cells w al ys) :
    Calls Try.prog 4 #[.int .i64 f, .slice al ys.length cl, .int .i64 more] w fun e w' => e = .returned (.bool true) ∧ Below w.heap.size w w' := by
  obtain ⟨za, hza50, hza⟩ := zeroAc
  obtain ⟨q, hq, eq⟩ := umodc f 21 (by omega) (by omega)
  have eq' : wrap64 ((IntKind.u64.wrap f).tmod 21) = (q : Int) := eq
  clear eq
  have hgood : Nq.goodB (4 + 3 * (q : Int)) = true := Nq.goodB_mk ⟨by omega, by omega, by omega⟩
  obtain ⟨h, hh⟩ : ∃ h : Nat, (4 + 3 * (q : Int)).tdiv 2 = (h : Int) ∧ 2 ≤ h ∧ h ≤ 32 ∧ 4 + 3 * (q : Int) ≤ 2 * h + 1 := by
    refine ⟨(4 + 3 * q) / 2, ?_, ?_, ?_, ?_⟩
    · rw [Int.tdiv_eq_ediv_of_nonneg (by omega)]; omega
    · omega
    · omega
    · omega
  obtain ⟨hh1, hh2, hh3, hh4⟩ := hh
  obtain ⟨m, hm, em⟩ := umodc more h (by omega) (by omega)
  have ehw : IntKind.u64.wrap (h : Int) = (h : Int) := by rw [IntKind.wrap_u64]; omega
  have cN := new_yesX (4 + 3 * (q : Int)) w hgood
  go_enter Try.func4, Try.ntmps4
  go_wp2_with fail
  refine cN.mono ?_
  rintro _ w1 ⟨B, b, rfl, hk1, hbw, hB1⟩
  clear cN
  by_cases hl : 200 < ys.length
  · have hlI : (200 : Int) < (ys.length : Int) := by omega
    have cL := lives_any w1
    go_wp2_with fail
    refine cL.mono ?_
    rintro _ w2 ⟨rfl, hB2⟩
    go_wp2_with fail
    go_ret
    exact ⟨rfl, hB1.trans (hB2.mono hB1.size)⟩
  · have hlI : ¬ (200 : Int) < (ys.length : Int) := by omega
    obtain ⟨N, hN⟩ : ∃ N : Int, Hid (4 + 3 * (q : Int) = N) := ⟨_, hide rfl⟩
    obtain ⟨need, hneed⟩ : ∃ nd : Int, Hid ((h : Int) + 1 + (m : Int) = nd) := ⟨_, hide rfl⟩
    have hN2 : N < 2 * need := by rw [← hN.out, ← hneed.out]; omega
    have hN0 : 0 ≤ N := by rw [← hN.out]; omega
    rw [hN.out] at hk1
    rw [hneed.out]
    have hst : Hid (∃ mm, MkAt w1 B b 0 N mm ∧ Below w.heap.size w w1) := hide ⟨_, hk1, hB1⟩
    have hs1 := hB1.size
    clear hk1 hneed em hh1 hh2 hh3 hh4 hm ehw hq eq' hgood hN
    go_wp2_with fail
    go_loopw [49] (fun iv wr => ∃ i : Nat, i ≤ ys.length ∧ iv = .int .i64 (i : Int) ∧ Hid (∃ mm, MkAt wr B b i N mm ∧ Below w.heap.size w wr)) (fun iv _ => ys.length - (intOf iv).toNat)
    case atStart => exact ⟨0, by omega, rfl, hst⟩
    case round =>
      clear hst
      obtain ⟨i, hi, rfl, HS⟩ := hrel
      obtain ⟨mm, hk, hBB⟩ := HS.out
      clear HS
      by_cases hlt : i < ys.length
      · have hiI : (i : Int) < (ys.length : Int) := by omega
        obtain ⟨ab, aoff, rfl, habl, hAr⟩ := (hrow.below hBB).elem (fun y hy => (hok y hy).len) i hlt
        have hx := hok _ (List.getElem_mem hlt)
        obtain ⟨x, hxe⟩ : ∃ x, Hid (ys[i] = x) := ⟨_, hide rfl⟩
        rw [hxe.out] at hAr hx
        clear hxe
        have hq50 : x.cells.length = 50 := hx.len
        have hq1 := x.one
        have hiA : (Try.prog.info? 33).map (·.size) = some x.cells.length := by rw [hx.len]; exact iszA
        have hiD : (Try.prog.info? 29).map (·.size) = some (v8 x.x.d).length := by rw [v8_length, hx.x.dl]; exact iszD
        have hiT : (Try.prog.info? 31).map (·.size) = some (v8 x.x.t).length := by rw [v8_length, hx.x.tl]; exact iszT
        have pR : ∀ w' : World, w'.rangeAt wr.heap.size 0 x.cells → w'.cell? ⟨wr.heap.size, 0, none⟩ = some (.int .i64 x.n) ∧ w'.cell? ⟨wr.heap.size, 1, none⟩ = some (.int .i64 x.x.e) ∧ w'.rangeAt wr.heap.size 2 (v8 x.x.d) ∧ w'.rangeAt wr.heap.size 34 (v8 x.x.t) := fun w' hr => by
          have := Ac.parts hx hr
          simpa using this
        have cA := fun w' (h : MkAt w' B b i N mm) => add_any B b i N mm x.n x.x hx.x w' h (by omega)
        obtain ⟨mm2, hmm2⟩ : ∃ st2, Hid (addM N mm x.n x.x = st2) := ⟨_, hide rfl⟩
        simp only [hmm2.out] at cA
        obtain ⟨n, e, d, t⟩ := x
        simp only at *
        obtain ⟨u, hu⟩ : ∃ u, Hid (v8 d = u) := ⟨_, hide rfl⟩
        obtain ⟨g, hg⟩ : ∃ g, Hid (v8 t = g) := ⟨_, hide rfl⟩
        obtain ⟨qc, hqc⟩ : ∃ q, Hid ((Ac.mk n ⟨e, d, t⟩).cells = q) := ⟨_, hide rfl⟩
        simp only [hu.out, hg.out, hqc.out] at cA pR hiD hiT hAr hq50 hq1 hiA
        clear hg hqc hx hu
        have hbs := hBB.size
        go_upto_region 8 with fail
        try simp only [Act.put]
        refine pl_begin ?_
        refine pl_take (d := some 51) (v := ?_) (by rfl) ?_ rfl ?_
        rotate_left
        · go_simp
          try with_reducible rfl
        simp only [Act.put, List.setIfInBounds_toArray, List.set_cons_zero, List.set_cons_succ]
        refine pl_take (d := some 52) (v := .agg qc.toArray) (by rfl) (ex_mid rfl rfl hAr Try.underlying33 rfl hiA) rfl ?_
        simp only [Act.put, List.setIfInBounds_toArray, List.set_cons_zero, List.set_cons_succ]
        refine pl_run (d := some 11) (v := .pointer (some ⟨wr.heap.size, 0, none⟩)) (w' := wr.alloc (.cells za.toArray 33)) (by rfl) (ex_alloc rfl (hza _)) rfl ?_
        simp only [Act.put, List.setIfInBounds_toArray, List.set_cons_zero, List.set_cons_succ]
        refine pl_store (w' := (wr.alloc (.cells za.toArray 33)).setCells wr.heap.size 0 qc) (by rfl) (ex_put (cs := qc.toArray) rfl rfl rfl (there_newN _ _ _ (by simp [hza50, hq50])) (by simpa using hiA) (all_one hq1)) rfl ?_
        refine pl_nil ?_
        obtain ⟨w2, hw2⟩ : ∃ W, (wr.alloc (.cells za.toArray 33)).setCells wr.heap.size 0 qc = W := ⟨_, rfl⟩
        obtain ⟨hBw2, hRw2, hltw2, -⟩ := one_filled hw2 (by simp [hza50, hq50])
        rw [hw2]
        clear hw2
        have hk := hk.below hBw2
        have hBB := hBB.trans (hBw2.mono hbs)
        have hbs := hBB.size
        obtain ⟨r0, r1, r2, r3⟩ := pR w2 hRw2
        go_upto_region 9 with fail
        try simp only [Act.put]
        refine pl_begin ?_
        refine pl_take (d := some 53) (v := ?_) (by rfl) ?_ rfl ?_
        rotate_left
        · go_simp
          try with_reducible rfl
        simp only [Act.put, List.setIfInBounds_toArray, List.set_cons_zero, List.set_cons_succ]
        refine pl_take (d := some 54) (v := ?_) (by rfl) ?_ rfl ?_
        rotate_left
        · go_simp
          try with_reducible rfl
        simp only [Act.put, List.setIfInBounds_toArray, List.set_cons_zero, List.set_cons_succ]
        refine pl_take (d := some 55) (v := .int .i64 n) (by rfl) (pl_one rfl rfl r0 Try.underlying3 rfl) rfl ?_
        simp only [Act.put, List.setIfInBounds_toArray, List.set_cons_zero, List.set_cons_succ]
        refine pl_take (d := some 56) (v := ?_) (by rfl) ?_ rfl ?_
        rotate_left
        · go_simp
          try with_reducible rfl
        simp only [Act.put, List.setIfInBounds_toArray, List.set_cons_zero, List.set_cons_succ]
        refine pl_take (d := some 57) (v := .int .i64 e) (by rfl) (pl_one rfl rfl r1 Try.underlying3 rfl) rfl ?_
        simp only [Act.put, List.setIfInBounds_toArray, List.set_cons_zero, List.set_cons_succ]
        refine pl_take (d := some 58) (v := ?_) (by rfl) ?_ rfl ?_
        rotate_left
        · go_simp
          try with_reducible rfl
        simp only [Act.put, List.setIfInBounds_toArray, List.set_cons_zero, List.set_cons_succ]
        refine pl_take (d := some 59) (v := .agg u.toArray) (by rfl) (ex_mid rfl rfl r2 Try.underlying29 rfl hiD) rfl ?_
        simp only [Act.put, List.setIfInBounds_toArray, List.set_cons_zero, List.set_cons_succ]
        refine pl_take (d := some 60) (v := ?_) (by rfl) ?_ rfl ?_
        rotate_left
        · go_simp
          try with_reducible rfl
        simp only [Act.put, List.setIfInBounds_toArray, List.set_cons_zero, List.set_cons_succ]
        refine pl_take (d := some 61) (v := .agg g.toArray) (by rfl) (ex_mid rfl rfl r3 Try.underlying31 rfl hiT) rfl ?_
        simp only [Act.put, List.setIfInBounds_toArray, List.set_cons_zero, List.set_cons_succ]
        refine pl_call (d := some 62) (by rfl) (by go_simp; first | done | exact ⟨rfl, rfl⟩ | with_reducible rfl) rfl ?_
        refine (cA w2 hk).mono ?_
        rintro _ w3 ⟨rfl, hk3, hO3⟩
        refine ⟨_, rfl, ?_⟩
        simp only [Act.put, List.setIfInBounds_toArray, List.set_cons_zero, List.set_cons_succ]
        refine pl_nil ?_
        have HR : Hid (∃ mm, MkAt w3 B b (i + 1) N mm ∧ Below w.heap.size w w3) := hide ⟨mm2, hk3, hBB.trans (hO3.below hbs (fun z hz q => by omega))⟩
        clear hk3 hO3 cA r0 r1 r2 r3 hk hBB hRw2 hBw2
        go_wp2_with fail
        go_roundw
        case rel => exact ⟨i + 1, by omega, by go_num, HR⟩
        case measure => simp [intOf]; omega
      · obtain rfl : i = ys.length := by omega
        have hbs := hBB.size
        have hrow2 := hrow.below hBB
        obtain ⟨W0, hW0⟩ : ∃ W0, wr = W0 := ⟨_, rfl⟩
        rw [hW0] at hk hBB hbs hrow2 ⊢
        clear hW0
        go_wp2_with fail
        go_loopw [66] (fun iv wr3 => ∃ i : Nat, i ≤ ys.length ∧ iv = .int .i64 (i : Int) ∧ Hid (Below W0.heap.size W0 wr3)) (fun iv _ => ys.length - (intOf iv).toNat)
        case atStart => exact ⟨0, by omega, rfl, hide (Below.refl _ _)⟩
        case round =>
          obtain ⟨i, hi, rfl, HB2⟩ := hrel
          have hB2 := HB2.out
          clear HB2
          by_cases hlt : i < ys.length
          · have hiI : (i : Int) < (ys.length : Int) := by omega
            obtain ⟨ab, aoff, rfl, habl, hAr⟩ := (hrow2.below hB2).elem (fun y hy => (hok y hy).len) i hlt
            have hx := hok _ (List.getElem_mem hlt)
            obtain ⟨x, hxe⟩ : ∃ x, Hid (ys[i] = x) := ⟨_, hide rfl⟩
            rw [hxe.out] at hAr hx
            clear hxe
            have hq50 : x.cells.length = 50 := hx.len
            have hq1 := x.one
            have hiA : (Try.prog.info? 33).map (·.size) = some x.cells.length := by rw [hx.len]; exact iszA
            have hiD : (Try.prog.info? 29).map (·.size) = some (v8 x.x.d).length := by rw [v8_length, hx.x.dl]; exact iszD
            have hiT : (Try.prog.info? 31).map (·.size) = some (v8 x.x.t).length := by rw [v8_length, hx.x.tl]; exact iszT
            have pR : ∀ w' : World, w'.rangeAt wr.heap.size 0 x.cells → w'.cell? ⟨wr.heap.size, 0, none⟩ = some (.int .i64 x.n) ∧ w'.cell? ⟨wr.heap.size, 1, none⟩ = some (.int .i64 x.x.e) ∧ w'.rangeAt wr.heap.size 2 (v8 x.x.d) ∧ w'.rangeAt wr.heap.size 34 (v8 x.x.t) := fun w' hr => by
              have := Ac.parts hx hr
              simpa using this
            have hdl := hx.x.dl
            have cS := fun w' (h : MkAt w' B b ys.length N mm) => signs_any x.x.e x.x.d hx.x.dl need B b ys.length N mm w' h
            obtain ⟨n, e, d, t⟩ := x
            simp only at *
            obtain ⟨u, hu⟩ : ∃ u, Hid (v8 d = u) := ⟨_, hide rfl⟩
            obtain ⟨g, hg⟩ : ∃ g, Hid (v8 t = g) := ⟨_, hide rfl⟩
            obtain ⟨qc, hqc⟩ : ∃ q, Hid ((Ac.mk n ⟨e, d, t⟩).cells = q) := ⟨_, hide rfl⟩
            simp only [hu.out, hg.out, hqc.out] at cS pR hiD hiT hAr hq50 hq1 hiA
            have hb2 := hB2.size
            go_upto_region 13 with fail
            try simp only [Act.put]
            refine pl_begin ?_
            refine pl_take (d := some 68) (v := ?_) (by rfl) ?_ rfl ?_
            rotate_left
            · go_simp
              try with_reducible rfl
            simp only [Act.put, List.setIfInBounds_toArray, List.set_cons_zero, List.set_cons_succ]
            refine pl_take (d := some 69) (v := .agg qc.toArray) (by rfl) (ex_mid rfl rfl hAr Try.underlying33 rfl hiA) rfl ?_
            simp only [Act.put, List.setIfInBounds_toArray, List.set_cons_zero, List.set_cons_succ]
            refine pl_run (d := some 13) (v := .pointer (some ⟨wr.heap.size, 0, none⟩)) (w' := wr.alloc (.cells za.toArray 33)) (by rfl) (ex_alloc rfl (hza _)) rfl ?_
            simp only [Act.put, List.setIfInBounds_toArray, List.set_cons_zero, List.set_cons_succ]
            refine pl_store (w' := (wr.alloc (.cells za.toArray 33)).setCells wr.heap.size 0 qc) (by rfl) (ex_put (cs := qc.toArray) rfl rfl rfl (there_newN _ _ _ (by simp [hza50, hq50])) (by simpa using hiA) (all_one hq1)) rfl ?_
            refine pl_nil ?_
            obtain ⟨w4, hw4⟩ : ∃ W, (wr.alloc (.cells za.toArray 33)).setCells wr.heap.size 0 qc = W := ⟨_, rfl⟩
            obtain ⟨hBw4, hRw4, hltw4, -⟩ := one_filled hw4 (by simp [hza50, hq50])
            rw [hw4]
            clear hw4
            have hB4 := hB2.trans (hBw4.mono hb2)
            obtain ⟨X, hX⟩ : ∃ X, Hid (wr.heap.size = X) := ⟨_, hide rfl⟩
            simp only [hX.out] at pR
            rw [hX.out] at hRw4 hltw4 ⊢
            clear hBw4 hAr hiA hq50 hq1
            have hb4 := hB4.size
            go_wp2_with fail
            go_loopw [72] (fun iv wr5 => ∃ i : Nat, i ≤ ys.length ∧ iv = .int .i64 (i : Int) ∧ Hid (Below w4.heap.size w4 wr5)) (fun iv _ => ys.length - (intOf iv).toNat)
            case atStart => exact ⟨0, by omega, rfl, hide (Below.refl _ _)⟩
            case round =>
              obtain ⟨j, hj, rfl, HB5⟩ := hrel
              have hB5 := HB5.out
              clear HB5
              by_cases hlt2 : j < ys.length
              · have hjI : (j : Int) < (ys.length : Int) := by omega
                obtain ⟨ab2, aoff2, hae, habl2, hArB⟩ := (hrow2.below (hB4.trans (hB5.mono hb4))).elem (fun y hy => (hok y hy).len) j hlt2
                cases hae
                have hxB := hok _ (List.getElem_mem hlt2)
                obtain ⟨xB, hxeB⟩ : ∃ x, Hid (ys[j] = x) := ⟨_, hide rfl⟩
                rw [hxeB.out] at hArB hxB
                clear hxeB
                have hq50B : xB.cells.length = 50 := hxB.len
                have hq1B := xB.one
                have hiAB : (Try.prog.info? 33).map (·.size) = some xB.cells.length := by rw [hxB.len]; exact iszA
                have hiDB : (Try.prog.info? 29).map (·.size) = some (v8 xB.x.d).length := by rw [v8_length, hxB.x.dl]; exact iszD
                have hiTB : (Try.prog.info? 31).map (·.size) = some (v8 xB.x.t).length := by rw [v8_length, hxB.x.tl]; exact iszT
                have pRB : ∀ w' : World, w'.rangeAt wr.heap.size 0 xB.cells → w'.cell? ⟨wr.heap.size, 0, none⟩ = some (.int .i64 xB.n) ∧ w'.cell? ⟨wr.heap.size, 1, none⟩ = some (.int .i64 xB.x.e) ∧ w'.rangeAt wr.heap.size 2 (v8 xB.x.d) ∧ w'.rangeAt wr.heap.size 34 (v8 xB.x.t) := fun w' hr => by
                  have := Ac.parts hxB hr
                  simpa using this
                have hdlB := hxB.x.dl
                have cSB := fun w' (h : MkAt w' B b ys.length N mm) => signs_any xB.x.e xB.x.d hxB.x.dl need B b ys.length N mm w' h
                obtain ⟨nB, eB, dB, tB⟩ := xB
                simp only at *
                obtain ⟨uB, huB⟩ : ∃ u, Hid (v8 dB = u) := ⟨_, hide rfl⟩
                obtain ⟨gB, hgB⟩ : ∃ g, Hid (v8 tB = g) := ⟨_, hide rfl⟩
                obtain ⟨qcB, hqcB⟩ : ∃ q, Hid ((Ac.mk nB ⟨eB, dB, tB⟩).cells = q) := ⟨_, hide rfl⟩
                simp only [huB.out, hgB.out, hqcB.out] at cSB pRB hiDB hiTB hArB hq50B hq1B hiAB
                have hb5 := hB5.size
                go_upto_region 16 with fail
                try simp only [Act.put]
                refine pl_begin ?_
                refine pl_take (d := some 74) (v := ?_) (by rfl) ?_ rfl ?_
                rotate_left
                · go_simp
                  try with_reducible rfl
                simp only [Act.put, List.setIfInBounds_toArray, List.set_cons_zero, List.set_cons_succ]
                refine pl_take (d := some 75) (v := .agg qcB.toArray) (by rfl) (ex_mid rfl rfl hArB Try.underlying33 rfl hiAB) rfl ?_
                simp only [Act.put, List.setIfInBounds_toArray, List.set_cons_zero, List.set_cons_succ]
                refine pl_run (d := some 15) (v := .pointer (some ⟨wr.heap.size, 0, none⟩)) (w' := wr.alloc (.cells za.toArray 33)) (by rfl) (ex_alloc rfl (hza _)) rfl ?_
                simp only [Act.put, List.setIfInBounds_toArray, List.set_cons_zero, List.set_cons_succ]
                refine pl_store (w' := (wr.alloc (.cells za.toArray 33)).setCells wr.heap.size 0 qcB) (by rfl) (ex_put (cs := qcB.toArray) rfl rfl rfl (there_newN _ _ _ (by simp [hza50, hq50B])) (by simpa using hiAB) (all_one hq1B)) rfl ?_
                refine pl_nil ?_
                obtain ⟨w6, hw6⟩ : ∃ W, (wr.alloc (.cells za.toArray 33)).setCells wr.heap.size 0 qcB = W := ⟨_, rfl⟩
                obtain ⟨hBw6, hRw6, hltw6, -⟩ := one_filled hw6 (by simp [hza50, hq50B])
                rw [hw6]
                clear hw6
                have hB6 := hB5.trans (hBw6.mono hb5)
                have hRA := range_below hRw4 hB6 hltw4
                have hM6 := hk.below (hB4.trans (hB6.mono hb4))
                obtain ⟨r0, r1, r2, r3⟩ := pR w6 hRA
                obtain ⟨r0B, r1B, r2B, r3B⟩ := pRB w6 hRw6
                have hltw6 := hltw6
                clear hBw6 hArB hiAB hq50B hq1B hB5
                have hb6 := hB6.size
                go_upto_region 17 with fail
                by_cases he : e = eB
                · subst he
                  by_cases hdd : d = dB
                  · have hne : ∀ w', (binOp .neq 29 (.agg u.toArray) (.agg uB.toArray)).run Try.prog w' = .ok (.bool false) w' := fun w' => by
                      have := neqD d dB hdl hdlB w'
                      rw [hu.out, huB.out] at this
                      rw [this, hdd]
                      simp
                    clear cS cSB hdd
                    try simp only [Act.put]
                    refine pl_begin ?_
                    refine pl_take (d := some 76) (v := ?_) (by rfl) ?_ rfl ?_
                    rotate_left
                    · go_simp
                      try with_reducible rfl
                    simp only [Act.put, List.setIfInBounds_toArray, List.set_cons_zero, List.set_cons_succ]
                    refine pl_take (d := some 77) (v := .int .i64 e) (by rfl) (pl_one rfl rfl r1 Try.underlying3 rfl) rfl ?_
                    simp only [Act.put, List.setIfInBounds_toArray, List.set_cons_zero, List.set_cons_succ]
                    refine pl_take (d := some 78) (v := ?_) (by rfl) ?_ rfl ?_
                    rotate_left
                    · go_simp
                      try with_reducible rfl
                    simp only [Act.put, List.setIfInBounds_toArray, List.set_cons_zero, List.set_cons_succ]
                    refine pl_take (d := some 79) (v := .int .i64 e) (by rfl) (pl_one rfl rfl r1B Try.underlying3 rfl) rfl ?_
                    simp only [Act.put, List.setIfInBounds_toArray, List.set_cons_zero, List.set_cons_succ]
                    refine pl_take (d := some 80) (v := ?_) (by rfl) ?_ rfl ?_
                    rotate_left
                    · go_simp
                      try with_reducible rfl
                    simp only [Act.put, List.setIfInBounds_toArray, List.set_cons_zero, List.set_cons_succ]
                    refine pl_take (d := some 81) (v := ?_) (by rfl) ?_ rfl ?_
                    rotate_left
                    · go_simp
                      try with_reducible rfl
                    simp only [Act.put, List.setIfInBounds_toArray, List.set_cons_zero, List.set_cons_succ]
                    refine pl_take (d := some 82) (v := ?_) (by rfl) ?_ rfl ?_
                    rotate_left
                    · go_simp
                      try with_reducible rfl
                    simp only [Act.put, List.setIfInBounds_toArray, List.set_cons_zero, List.set_cons_succ]
                    refine pl_take (d := some 83) (v := .agg u.toArray) (by rfl) (ex_mid rfl rfl r2 Try.underlying29 rfl hiD) rfl ?_
                    simp only [Act.put, List.setIfInBounds_toArray, List.set_cons_zero, List.set_cons_succ]
                    refine pl_take (d := some 84) (v := ?_) (by rfl) ?_ rfl ?_
                    rotate_left
                    · go_simp
                      try with_reducible rfl
                    simp only [Act.put, List.setIfInBounds_toArray, List.set_cons_zero, List.set_cons_succ]
                    refine pl_take (d := some 85) (v := .agg uB.toArray) (by rfl) (ex_mid rfl rfl r2B Try.underlying29 rfl hiDB) rfl ?_
                    simp only [Act.put, List.setIfInBounds_toArray, List.set_cons_zero, List.set_cons_succ]
                    refine pl_take (d := some 86) (v := .bool false) (by rfl) (ex_bin rfl rfl rfl (by kernel_rfl) (hne w6)) rfl ?_
                    simp only [Act.put, List.setIfInBounds_toArray, List.set_cons_zero, List.set_cons_succ]
                    refine pl_take (d := some 87) (v := ?_) (by rfl) ?_ rfl ?_
                    rotate_left
                    · go_simp
                      try with_reducible rfl
                    simp only [Act.put, List.setIfInBounds_toArray, List.set_cons_zero, List.set_cons_succ]
                    refine pl_take (d := some 88) (v := ?_) (by rfl) ?_ rfl ?_
                    rotate_left
                    · go_simp
                      try with_reducible rfl
                    simp only [Act.put, List.setIfInBounds_toArray, List.set_cons_zero, List.set_cons_succ]
                    refine pl_skip (d := some 89) (by rfl) rfl ?_
                    simp only [Act.put, List.setIfInBounds_toArray, List.set_cons_zero, List.set_cons_succ]
                    refine pl_skip (d := some 90) (by rfl) rfl ?_
                    simp only [Act.put, List.setIfInBounds_toArray, List.set_cons_zero, List.set_cons_succ]
                    refine pl_skip (d := some 91) (by rfl) rfl ?_
                    simp only [Act.put, List.setIfInBounds_toArray, List.set_cons_zero, List.set_cons_succ]
                    refine pl_skip (d := some 92) (by rfl) rfl ?_
                    simp only [Act.put, List.setIfInBounds_toArray, List.set_cons_zero, List.set_cons_succ]
                    refine pl_skip (d := some 93) (by rfl) rfl ?_
                    simp only [Act.put, List.setIfInBounds_toArray, List.set_cons_zero, List.set_cons_succ]
                    refine pl_skip (d := some 94) (by rfl) rfl ?_
                    simp only [Act.put, List.setIfInBounds_toArray, List.set_cons_zero, List.set_cons_succ]
                    refine pl_skip (d := some 95) (by rfl) rfl ?_
                    simp only [Act.put, List.setIfInBounds_toArray, List.set_cons_zero, List.set_cons_succ]
                    refine pl_skip (d := some 96) (by rfl) rfl ?_
                    simp only [Act.put, List.setIfInBounds_toArray, List.set_cons_zero, List.set_cons_succ]
                    refine pl_skip (d := some 97) (by rfl) rfl ?_
                    simp only [Act.put, List.setIfInBounds_toArray, List.set_cons_zero, List.set_cons_succ]
                    refine pl_take (d := some 98) (v := ?_) (by rfl) ?_ rfl ?_
                    rotate_left
                    · go_simp
                      try with_reducible rfl
                    simp only [Act.put, List.setIfInBounds_toArray, List.set_cons_zero, List.set_cons_succ]
                    refine pl_take (d := some 99) (v := ?_) (by rfl) ?_ rfl ?_
                    rotate_left
                    · go_simp
                      try with_reducible rfl
                    simp only [Act.put, List.setIfInBounds_toArray, List.set_cons_zero, List.set_cons_succ]
                    refine pl_skip (d := some 100) (by rfl) rfl ?_
                    simp only [Act.put, List.setIfInBounds_toArray, List.set_cons_zero, List.set_cons_succ]
                    refine pl_skip (d := some 101) (by rfl) rfl ?_
                    simp only [Act.put, List.setIfInBounds_toArray, List.set_cons_zero, List.set_cons_succ]
                    refine pl_skip (d := some 102) (by rfl) rfl ?_
                    simp only [Act.put, List.setIfInBounds_toArray, List.set_cons_zero, List.set_cons_succ]
                    refine pl_skip (d := some 103) (by rfl) rfl ?_
                    simp only [Act.put, List.setIfInBounds_toArray, List.set_cons_zero, List.set_cons_succ]
                    refine pl_skip (d := some 104) (by rfl) rfl ?_
                    simp only [Act.put, List.setIfInBounds_toArray, List.set_cons_zero, List.set_cons_succ]
                    refine pl_skip (d := some 105) (by rfl) rfl ?_
                    simp only [Act.put, List.setIfInBounds_toArray, List.set_cons_zero, List.set_cons_succ]
                    refine pl_skip (d := some 106) (by rfl) rfl ?_
                    simp only [Act.put, List.setIfInBounds_toArray, List.set_cons_zero, List.set_cons_succ]
                    refine pl_skip (d := some 107) (by rfl) rfl ?_
                    simp only [Act.put, List.setIfInBounds_toArray, List.set_cons_zero, List.set_cons_succ]
                    refine pl_skip (d := some 108) (by rfl) rfl ?_
                    simp only [Act.put, List.setIfInBounds_toArray, List.set_cons_zero, List.set_cons_succ]
                    refine pl_take (d := some 109) (v := ?_) (by rfl) ?_ rfl ?_
                    rotate_left
                    · go_simp
                      try with_reducible rfl
                    simp only [Act.put, List.setIfInBounds_toArray, List.set_cons_zero, List.set_cons_succ]
                    refine pl_nil ?_
                    have hB7 := hB6
                    have HB := hide hB7
                    go_wp2_with fail
                    go_roundw
                    case rel => exact ⟨j + 1, by omega, by go_num, HB⟩
                    case measure => simp [intOf]; omega
                  · have hne : ∀ w', (binOp .neq 29 (.agg u.toArray) (.agg uB.toArray)).run Try.prog w' = .ok (.bool true) w' := fun w' => by
                      have := neqD d dB hdl hdlB w'
                      rw [hu.out, huB.out] at this
                      rw [this]
                      simp [hdd]
                    by_cases h1 : signsP N mm e d need = []
                    · try simp only [Act.put]
                      refine pl_begin ?_
                      refine pl_take (d := some 76) (v := ?_) (by rfl) ?_ rfl ?_
                      rotate_left
                      · go_simp
                        try with_reducible rfl
                      simp only [Act.put, List.setIfInBounds_toArray, List.set_cons_zero, List.set_cons_succ]
                      refine pl_take (d := some 77) (v := .int .i64 e) (by rfl) (pl_one rfl rfl r1 Try.underlying3 rfl) rfl ?_
                      simp only [Act.put, List.setIfInBounds_toArray, List.set_cons_zero, List.set_cons_succ]
                      refine pl_take (d := some 78) (v := ?_) (by rfl) ?_ rfl ?_
                      rotate_left
                      · go_simp
                        try with_reducible rfl
                      simp only [Act.put, List.setIfInBounds_toArray, List.set_cons_zero, List.set_cons_succ]
                      refine pl_take (d := some 79) (v := .int .i64 e) (by rfl) (pl_one rfl rfl r1B Try.underlying3 rfl) rfl ?_
                      simp only [Act.put, List.setIfInBounds_toArray, List.set_cons_zero, List.set_cons_succ]
                      refine pl_take (d := some 80) (v := ?_) (by rfl) ?_ rfl ?_
                      rotate_left
                      · go_simp
                        try with_reducible rfl
                      simp only [Act.put, List.setIfInBounds_toArray, List.set_cons_zero, List.set_cons_succ]
                      refine pl_take (d := some 81) (v := ?_) (by rfl) ?_ rfl ?_
                      rotate_left
                      · go_simp
                        try with_reducible rfl
                      simp only [Act.put, List.setIfInBounds_toArray, List.set_cons_zero, List.set_cons_succ]
                      refine pl_take (d := some 82) (v := ?_) (by rfl) ?_ rfl ?_
                      rotate_left
                      · go_simp
                        try with_reducible rfl
                      simp only [Act.put, List.setIfInBounds_toArray, List.set_cons_zero, List.set_cons_succ]
                      refine pl_take (d := some 83) (v := .agg u.toArray) (by rfl) (ex_mid rfl rfl r2 Try.underlying29 rfl hiD) rfl ?_
                      simp only [Act.put, List.setIfInBounds_toArray, List.set_cons_zero, List.set_cons_succ]
                      refine pl_take (d := some 84) (v := ?_) (by rfl) ?_ rfl ?_
                      rotate_left
                      · go_simp
                        try with_reducible rfl
                      simp only [Act.put, List.setIfInBounds_toArray, List.set_cons_zero, List.set_cons_succ]
                      refine pl_take (d := some 85) (v := .agg uB.toArray) (by rfl) (ex_mid rfl rfl r2B Try.underlying29 rfl hiDB) rfl ?_
                      simp only [Act.put, List.setIfInBounds_toArray, List.set_cons_zero, List.set_cons_succ]
                      refine pl_take (d := some 86) (v := .bool true) (by rfl) (ex_bin rfl rfl rfl (by kernel_rfl) (hne w6)) rfl ?_
                      simp only [Act.put, List.setIfInBounds_toArray, List.set_cons_zero, List.set_cons_succ]
                      refine pl_take (d := some 87) (v := ?_) (by rfl) ?_ rfl ?_
                      rotate_left
                      · go_simp
                        try with_reducible rfl
                      simp only [Act.put, List.setIfInBounds_toArray, List.set_cons_zero, List.set_cons_succ]
                      refine pl_take (d := some 88) (v := ?_) (by rfl) ?_ rfl ?_
                      rotate_left
                      · go_simp
                        try with_reducible rfl
                      simp only [Act.put, List.setIfInBounds_toArray, List.set_cons_zero, List.set_cons_succ]
                      refine pl_take (d := some 89) (v := ?_) (by rfl) ?_ rfl ?_
                      rotate_left
                      · go_simp
                        try with_reducible rfl
                      simp only [Act.put, List.setIfInBounds_toArray, List.set_cons_zero, List.set_cons_succ]
                      refine pl_take (d := some 90) (v := ?_) (by rfl) ?_ rfl ?_
                      rotate_left
                      · go_simp
                        try with_reducible rfl
                      simp only [Act.put, List.setIfInBounds_toArray, List.set_cons_zero, List.set_cons_succ]
                      refine pl_take (d := some 91) (v := .int .i64 e) (by rfl) (pl_one rfl rfl r1 Try.underlying3 rfl) rfl ?_
                      simp only [Act.put, List.setIfInBounds_toArray, List.set_cons_zero, List.set_cons_succ]
                      refine pl_take (d := some 92) (v := ?_) (by rfl) ?_ rfl ?_
                      rotate_left
                      · go_simp
                        try with_reducible rfl
                      simp only [Act.put, List.setIfInBounds_toArray, List.set_cons_zero, List.set_cons_succ]
                      refine pl_take (d := some 93) (v := .agg u.toArray) (by rfl) (ex_mid rfl rfl r2 Try.underlying29 rfl hiD) rfl ?_
                      simp only [Act.put, List.setIfInBounds_toArray, List.set_cons_zero, List.set_cons_succ]
                      refine pl_take (d := some 94) (v := ?_) (by rfl) ?_ rfl ?_
                      rotate_left
                      · go_simp
                        try with_reducible rfl
                      simp only [Act.put, List.setIfInBounds_toArray, List.set_cons_zero, List.set_cons_succ]
                      refine pl_call (d := some 95) (by rfl) (by go_simp; first | done | exact ⟨rfl, rfl⟩ | with_reducible rfl) rfl ?_
                      refine (cS w6 hM6).mono ?_
                      rintro _ w7 ⟨a7, c7, rfl, hsg7, hcap7, hBx⟩
                      refine ⟨_, rfl, ?_⟩
                      simp only [Act.put, List.setIfInBounds_toArray, List.set_cons_zero, List.set_cons_succ]
                      have hB7 := hB6.trans (hBx.mono hb6)
                      have hb7 := hB7.size
                      rw [h1]
                      simp only [List.length_nil]
                      refine pl_take (d := some 96) (v := ?_) (by rfl) ?_ rfl ?_
                      rotate_left
                      · go_simp
                        try with_reducible rfl
                      simp only [Act.put, List.setIfInBounds_toArray, List.set_cons_zero, List.set_cons_succ]
                      refine pl_take (d := some 97) (v := ?_) (by rfl) ?_ rfl ?_
                      rotate_left
                      · go_simp
                        try with_reducible rfl
                      simp only [Act.put, List.setIfInBounds_toArray, List.set_cons_zero, List.set_cons_succ]
                      refine pl_take (d := some 98) (v := ?_) (by rfl) ?_ rfl ?_
                      rotate_left
                      · go_simp
                        try with_reducible rfl
                      simp only [Act.put, List.setIfInBounds_toArray, List.set_cons_zero, List.set_cons_succ]
                      refine pl_take (d := some 99) (v := ?_) (by rfl) ?_ rfl ?_
                      rotate_left
                      · go_simp
                        try with_reducible rfl
                      simp only [Act.put, List.setIfInBounds_toArray, List.set_cons_zero, List.set_cons_succ]
                      refine pl_skip (d := some 100) (by rfl) rfl ?_
                      simp only [Act.put, List.setIfInBounds_toArray, List.set_cons_zero, List.set_cons_succ]
                      refine pl_skip (d := some 101) (by rfl) rfl ?_
                      simp only [Act.put, List.setIfInBounds_toArray, List.set_cons_zero, List.set_cons_succ]
                      refine pl_skip (d := some 102) (by rfl) rfl ?_
                      simp only [Act.put, List.setIfInBounds_toArray, List.set_cons_zero, List.set_cons_succ]
                      refine pl_skip (d := some 103) (by rfl) rfl ?_
                      simp only [Act.put, List.setIfInBounds_toArray, List.set_cons_zero, List.set_cons_succ]
                      refine pl_skip (d := some 104) (by rfl) rfl ?_
                      simp only [Act.put, List.setIfInBounds_toArray, List.set_cons_zero, List.set_cons_succ]
                      refine pl_skip (d := some 105) (by rfl) rfl ?_
                      simp only [Act.put, List.setIfInBounds_toArray, List.set_cons_zero, List.set_cons_succ]
                      refine pl_skip (d := some 106) (by rfl) rfl ?_
                      simp only [Act.put, List.setIfInBounds_toArray, List.set_cons_zero, List.set_cons_succ]
                      refine pl_skip (d := some 107) (by rfl) rfl ?_
                      simp only [Act.put, List.setIfInBounds_toArray, List.set_cons_zero, List.set_cons_succ]
                      refine pl_skip (d := some 108) (by rfl) rfl ?_
                      simp only [Act.put, List.setIfInBounds_toArray, List.set_cons_zero, List.set_cons_succ]
                      refine pl_take (d := some 109) (v := ?_) (by rfl) ?_ rfl ?_
                      rotate_left
                      · go_simp
                        try with_reducible rfl
                      simp only [Act.put, List.setIfInBounds_toArray, List.set_cons_zero, List.set_cons_succ]
                      refine pl_nil ?_
                      have HB := hide hB7
                      go_wp2_with fail
                      go_roundw
                      case rel => exact ⟨j + 1, by omega, by go_num, HB⟩
                      case measure => simp [intOf]; omega
                    · have h2 := signs_none hN2 hN0 hdd h1
                      try simp only [Act.put]
                      refine pl_begin ?_
                      refine pl_take (d := some 76) (v := ?_) (by rfl) ?_ rfl ?_
                      rotate_left
                      · go_simp
                        try with_reducible rfl
                      simp only [Act.put, List.setIfInBounds_toArray, List.set_cons_zero, List.set_cons_succ]
                      refine pl_take (d := some 77) (v := .int .i64 e) (by rfl) (pl_one rfl rfl r1 Try.underlying3 rfl) rfl ?_
                      simp only [Act.put, List.setIfInBounds_toArray, List.set_cons_zero, List.set_cons_succ]
                      refine pl_take (d := some 78) (v := ?_) (by rfl) ?_ rfl ?_
                      rotate_left
                      · go_simp
                        try with_reducible rfl
                      simp only [Act.put, List.setIfInBounds_toArray, List.set_cons_zero, List.set_cons_succ]
                      refine pl_take (d := some 79) (v := .int .i64 e) (by rfl) (pl_one rfl rfl r1B Try.underlying3 rfl) rfl ?_
                      simp only [Act.put, List.setIfInBounds_toArray, List.set_cons_zero, List.set_cons_succ]
                      refine pl_take (d := some 80) (v := ?_) (by rfl) ?_ rfl ?_
                      rotate_left
                      · go_simp
                        try with_reducible rfl
                      simp only [Act.put, List.setIfInBounds_toArray, List.set_cons_zero, List.set_cons_succ]
                      refine pl_take (d := some 81) (v := ?_) (by rfl) ?_ rfl ?_
                      rotate_left
                      · go_simp
                        try with_reducible rfl
                      simp only [Act.put, List.setIfInBounds_toArray, List.set_cons_zero, List.set_cons_succ]
                      refine pl_take (d := some 82) (v := ?_) (by rfl) ?_ rfl ?_
                      rotate_left
                      · go_simp
                        try with_reducible rfl
                      simp only [Act.put, List.setIfInBounds_toArray, List.set_cons_zero, List.set_cons_succ]
                      refine pl_take (d := some 83) (v := .agg u.toArray) (by rfl) (ex_mid rfl rfl r2 Try.underlying29 rfl hiD) rfl ?_
                      simp only [Act.put, List.setIfInBounds_toArray, List.set_cons_zero, List.set_cons_succ]
                      refine pl_take (d := some 84) (v := ?_) (by rfl) ?_ rfl ?_
                      rotate_left
                      · go_simp
                        try with_reducible rfl
                      simp only [Act.put, List.setIfInBounds_toArray, List.set_cons_zero, List.set_cons_succ]
                      refine pl_take (d := some 85) (v := .agg uB.toArray) (by rfl) (ex_mid rfl rfl r2B Try.underlying29 rfl hiDB) rfl ?_
                      simp only [Act.put, List.setIfInBounds_toArray, List.set_cons_zero, List.set_cons_succ]
                      refine pl_take (d := some 86) (v := .bool true) (by rfl) (ex_bin rfl rfl rfl (by kernel_rfl) (hne w6)) rfl ?_
                      simp only [Act.put, List.setIfInBounds_toArray, List.set_cons_zero, List.set_cons_succ]
                      refine pl_take (d := some 87) (v := ?_) (by rfl) ?_ rfl ?_
                      rotate_left
                      · go_simp
                        try with_reducible rfl
                      simp only [Act.put, List.setIfInBounds_toArray, List.set_cons_zero, List.set_cons_succ]
                      refine pl_take (d := some 88) (v := ?_) (by rfl) ?_ rfl ?_
                      rotate_left
                      · go_simp
                        try with_reducible rfl
                      simp only [Act.put, List.setIfInBounds_toArray, List.set_cons_zero, List.set_cons_succ]
                      refine pl_take (d := some 89) (v := ?_) (by rfl) ?_ rfl ?_
                      rotate_left
                      · go_simp
                        try with_reducible rfl
                      simp only [Act.put, List.setIfInBounds_toArray, List.set_cons_zero, List.set_cons_succ]
                      refine pl_take (d := some 90) (v := ?_) (by rfl) ?_ rfl ?_
                      rotate_left
                      · go_simp
                        try with_reducible rfl
                      simp only [Act.put, List.setIfInBounds_toArray, List.set_cons_zero, List.set_cons_succ]
                      refine pl_take (d := some 91) (v := .int .i64 e) (by rfl) (pl_one rfl rfl r1 Try.underlying3 rfl) rfl ?_
                      simp only [Act.put, List.setIfInBounds_toArray, List.set_cons_zero, List.set_cons_succ]
                      refine pl_take (d := some 92) (v := ?_) (by rfl) ?_ rfl ?_
                      rotate_left
                      · go_simp
                        try with_reducible rfl
                      simp only [Act.put, List.setIfInBounds_toArray, List.set_cons_zero, List.set_cons_succ]
                      refine pl_take (d := some 93) (v := .agg u.toArray) (by rfl) (ex_mid rfl rfl r2 Try.underlying29 rfl hiD) rfl ?_
                      simp only [Act.put, List.setIfInBounds_toArray, List.set_cons_zero, List.set_cons_succ]
                      refine pl_take (d := some 94) (v := ?_) (by rfl) ?_ rfl ?_
                      rotate_left
                      · go_simp
                        try with_reducible rfl
                      simp only [Act.put, List.setIfInBounds_toArray, List.set_cons_zero, List.set_cons_succ]
                      refine pl_call (d := some 95) (by rfl) (by go_simp; first | done | exact ⟨rfl, rfl⟩ | with_reducible rfl) rfl ?_
                      refine (cS w6 hM6).mono ?_
                      rintro _ w7 ⟨a7, c7, rfl, hsg7, hcap7, hBx⟩
                      refine ⟨_, rfl, ?_⟩
                      simp only [Act.put, List.setIfInBounds_toArray, List.set_cons_zero, List.set_cons_succ]
                      have hB7 := hB6.trans (hBx.mono hb6)
                      have hb7 := hB7.size
                      have hM7 := hM6.below hBx
                      have hl1 : 0 < (signsP N mm e d need).length := List.length_pos_iff.2 h1
                      have hl1I : (0 : Int) < ((signsP N mm e d need).length : Int) := by omega
                      generalize (signsP N mm e d need).length = L1 at *
                      refine pl_take (d := some 96) (v := ?_) (by rfl) ?_ rfl ?_
                      rotate_left
                      · go_simp
                        try with_reducible rfl
                      simp only [Act.put, List.setIfInBounds_toArray, List.set_cons_zero, List.set_cons_succ]
                      refine pl_take (d := some 97) (v := .bool true) (by rfl) (by go_simp) rfl ?_
                      simp only [Act.put, List.setIfInBounds_toArray, List.set_cons_zero, List.set_cons_succ]
                      refine pl_take (d := some 98) (v := ?_) (by rfl) ?_ rfl ?_
                      rotate_left
                      · go_simp
                        try with_reducible rfl
                      simp only [Act.put, List.setIfInBounds_toArray, List.set_cons_zero, List.set_cons_succ]
                      refine pl_take (d := some 99) (v := ?_) (by rfl) ?_ rfl ?_
                      rotate_left
                      · go_simp
                        try with_reducible rfl
                      simp only [Act.put, List.setIfInBounds_toArray, List.set_cons_zero, List.set_cons_succ]
                      refine pl_take (d := some 100) (v := ?_) (by rfl) ?_ rfl ?_
                      rotate_left
                      · go_simp
                        try with_reducible rfl
                      simp only [Act.put, List.setIfInBounds_toArray, List.set_cons_zero, List.set_cons_succ]
                      refine pl_take (d := some 101) (v := ?_) (by rfl) ?_ rfl ?_
                      rotate_left
                      · go_simp
                        try with_reducible rfl
                      simp only [Act.put, List.setIfInBounds_toArray, List.set_cons_zero, List.set_cons_succ]
                      have hRB7 := range_below hRw6 hBx (by omega)
                      obtain ⟨r0B, r1B, r2B, r3B⟩ := pRB w7 hRB7
                      refine pl_take (d := some 102) (v := .int .i64 e) (by rfl) (pl_one rfl rfl r1B Try.underlying3 rfl) rfl ?_
                      simp only [Act.put, List.setIfInBounds_toArray, List.set_cons_zero, List.set_cons_succ]
                      refine pl_take (d := some 103) (v := ?_) (by rfl) ?_ rfl ?_
                      rotate_left
                      · go_simp
                        try with_reducible rfl
                      simp only [Act.put, List.setIfInBounds_toArray, List.set_cons_zero, List.set_cons_succ]
                      refine pl_take (d := some 104) (v := .agg uB.toArray) (by rfl) (ex_mid rfl rfl r2B Try.underlying29 rfl hiDB) rfl ?_
                      simp only [Act.put, List.setIfInBounds_toArray, List.set_cons_zero, List.set_cons_succ]
                      refine pl_take (d := some 105) (v := ?_) (by rfl) ?_ rfl ?_
                      rotate_left
                      · go_simp
                        try with_reducible rfl
                      simp only [Act.put, List.setIfInBounds_toArray, List.set_cons_zero, List.set_cons_succ]
                      refine pl_call (d := some 106) (by rfl) (by go_simp; first | done | exact ⟨rfl, rfl⟩ | with_reducible rfl) rfl ?_
                      refine (cSB w7 hM7).mono ?_
                      rintro _ w8 ⟨a8, c8, rfl, hsg8, hcap8, hBy⟩
                      refine ⟨_, rfl, ?_⟩
                      simp only [Act.put, List.setIfInBounds_toArray, List.set_cons_zero, List.set_cons_succ]
                      rw [h2]
                      simp only [List.length_nil]
                      refine pl_take (d := some 107) (v := ?_) (by rfl) ?_ rfl ?_
                      rotate_left
                      · go_simp
                        try with_reducible rfl
                      simp only [Act.put, List.setIfInBounds_toArray, List.set_cons_zero, List.set_cons_succ]
                      refine pl_take (d := some 108) (v := ?_) (by rfl) ?_ rfl ?_
                      rotate_left
                      · go_simp
                        try with_reducible rfl
                      simp only [Act.put, List.setIfInBounds_toArray, List.set_cons_zero, List.set_cons_succ]
                      refine pl_take (d := some 109) (v := ?_) (by rfl) ?_ rfl ?_
                      rotate_left
                      · go_simp
                        try with_reducible rfl
                      simp only [Act.put, List.setIfInBounds_toArray, List.set_cons_zero, List.set_cons_succ]
                      refine pl_nil ?_
                      have hB7 := hB7.trans (hBy.mono hb7)
                      have HB := hide hB7
                      go_wp2_with fail
                      go_roundw
                      case rel => exact ⟨j + 1, by omega, by go_num, HB⟩
                      case measure => simp [intOf]; omega
                · have heq : (e == eB) = false := by simpa using he
                  clear cS cSB he
                  try simp only [Act.put]
                  refine pl_begin ?_
                  refine pl_take (d := some 76) (v := ?_) (by rfl) ?_ rfl ?_
                  rotate_left
                  · go_simp
                    try with_reducible rfl
                  simp only [Act.put, List.setIfInBounds_toArray, List.set_cons_zero, List.set_cons_succ]
                  refine pl_take (d := some 77) (v := .int .i64 e) (by rfl) (pl_one rfl rfl r1 Try.underlying3 rfl) rfl ?_
                  simp only [Act.put, List.setIfInBounds_toArray, List.set_cons_zero, List.set_cons_succ]
                  refine pl_take (d := some 78) (v := ?_) (by rfl) ?_ rfl ?_
                  rotate_left
                  · go_simp
                    try with_reducible rfl
                  simp only [Act.put, List.setIfInBounds_toArray, List.set_cons_zero, List.set_cons_succ]
                  refine pl_take (d := some 79) (v := .int .i64 eB) (by rfl) (pl_one rfl rfl r1B Try.underlying3 rfl) rfl ?_
                  simp only [Act.put, List.setIfInBounds_toArray, List.set_cons_zero, List.set_cons_succ]
                  refine pl_take (d := some 80) (v := ?_) (by rfl) ?_ rfl ?_
                  rotate_left
                  · go_simp
                    try with_reducible rfl
                  simp only [Act.put, List.setIfInBounds_toArray, List.set_cons_zero, List.set_cons_succ]
                  refine pl_take (d := some 81) (v := ?_) (by rfl) ?_ rfl ?_
                  rotate_left
                  · go_simp
                    try with_reducible rfl
                  simp only [Act.put, List.setIfInBounds_toArray, List.set_cons_zero, List.set_cons_succ]
                  refine pl_skip (d := some 82) (by rfl) rfl ?_
                  simp only [Act.put, List.setIfInBounds_toArray, List.set_cons_zero, List.set_cons_succ]
                  refine pl_skip (d := some 83) (by rfl) rfl ?_
                  simp only [Act.put, List.setIfInBounds_toArray, List.set_cons_zero, List.set_cons_succ]
                  refine pl_skip (d := some 84) (by rfl) rfl ?_
                  simp only [Act.put, List.setIfInBounds_toArray, List.set_cons_zero, List.set_cons_succ]
                  refine pl_skip (d := some 85) (by rfl) rfl ?_
                  simp only [Act.put, List.setIfInBounds_toArray, List.set_cons_zero, List.set_cons_succ]
                  refine pl_skip (d := some 86) (by rfl) rfl ?_
                  simp only [Act.put, List.setIfInBounds_toArray, List.set_cons_zero, List.set_cons_succ]
                  refine pl_take (d := some 87) (v := ?_) (by rfl) ?_ rfl ?_
                  rotate_left
                  · go_simp
                    try with_reducible rfl
                  simp only [Act.put, List.setIfInBounds_toArray, List.set_cons_zero, List.set_cons_succ]
                  refine pl_take (d := some 88) (v := ?_) (by rfl) ?_ rfl ?_
                  rotate_left
                  · go_simp
                    try with_reducible rfl
                  simp only [Act.put, List.setIfInBounds_toArray, List.set_cons_zero, List.set_cons_succ]
                  refine pl_skip (d := some 89) (by rfl) rfl ?_
                  simp only [Act.put, List.setIfInBounds_toArray, List.set_cons_zero, List.set_cons_succ]
                  refine pl_skip (d := some 90) (by rfl) rfl ?_
                  simp only [Act.put, List.setIfInBounds_toArray, List.set_cons_zero, List.set_cons_succ]
                  refine pl_skip (d := some 91) (by rfl) rfl ?_
                  simp only [Act.put, List.setIfInBounds_toArray, List.set_cons_zero, List.set_cons_succ]
                  refine pl_skip (d := some 92) (by rfl) rfl ?_
                  simp only [Act.put, List.setIfInBounds_toArray, List.set_cons_zero, List.set_cons_succ]
                  refine pl_skip (d := some 93) (by rfl) rfl ?_
                  simp only [Act.put, List.setIfInBounds_toArray, List.set_cons_zero, List.set_cons_succ]
                  refine pl_skip (d := some 94) (by rfl) rfl ?_
                  simp only [Act.put, List.setIfInBounds_toArray, List.set_cons_zero, List.set_cons_succ]
                  refine pl_skip (d := some 95) (by rfl) rfl ?_
                  simp only [Act.put, List.setIfInBounds_toArray, List.set_cons_zero, List.set_cons_succ]
                  refine pl_skip (d := some 96) (by rfl) rfl ?_
                  simp only [Act.put, List.setIfInBounds_toArray, List.set_cons_zero, List.set_cons_succ]
                  refine pl_skip (d := some 97) (by rfl) rfl ?_
                  simp only [Act.put, List.setIfInBounds_toArray, List.set_cons_zero, List.set_cons_succ]
                  refine pl_take (d := some 98) (v := ?_) (by rfl) ?_ rfl ?_
                  rotate_left
                  · go_simp
                    try with_reducible rfl
                  simp only [Act.put, List.setIfInBounds_toArray, List.set_cons_zero, List.set_cons_succ]
                  refine pl_take (d := some 99) (v := ?_) (by rfl) ?_ rfl ?_
                  rotate_left
                  · go_simp
                    try with_reducible rfl
                  simp only [Act.put, List.setIfInBounds_toArray, List.set_cons_zero, List.set_cons_succ]
                  refine pl_skip (d := some 100) (by rfl) rfl ?_
                  simp only [Act.put, List.setIfInBounds_toArray, List.set_cons_zero, List.set_cons_succ]
                  refine pl_skip (d := some 101) (by rfl) rfl ?_
                  simp only [Act.put, List.setIfInBounds_toArray, List.set_cons_zero, List.set_cons_succ]
                  refine pl_skip (d := some 102) (by rfl) rfl ?_
                  simp only [Act.put, List.setIfInBounds_toArray, List.set_cons_zero, List.set_cons_succ]
                  refine pl_skip (d := some 103) (by rfl) rfl ?_
                  simp only [Act.put, List.setIfInBounds_toArray, List.set_cons_zero, List.set_cons_succ]
                  refine pl_skip (d := some 104) (by rfl) rfl ?_
                  simp only [Act.put, List.setIfInBounds_toArray, List.set_cons_zero, List.set_cons_succ]
                  refine pl_skip (d := some 105) (by rfl) rfl ?_
                  simp only [Act.put, List.setIfInBounds_toArray, List.set_cons_zero, List.set_cons_succ]
                  refine pl_skip (d := some 106) (by rfl) rfl ?_
                  simp only [Act.put, List.setIfInBounds_toArray, List.set_cons_zero, List.set_cons_succ]
                  refine pl_skip (d := some 107) (by rfl) rfl ?_
                  simp only [Act.put, List.setIfInBounds_toArray, List.set_cons_zero, List.set_cons_succ]
                  refine pl_skip (d := some 108) (by rfl) rfl ?_
                  simp only [Act.put, List.setIfInBounds_toArray, List.set_cons_zero, List.set_cons_succ]
                  refine pl_take (d := some 109) (v := ?_) (by rfl) ?_ rfl ?_
                  rotate_left
                  · go_simp
                    try with_reducible rfl
                  simp only [Act.put, List.setIfInBounds_toArray, List.set_cons_zero, List.set_cons_succ]
                  refine pl_nil ?_
                  have hB7 := hB6
                  have HB := hide hB7
                  go_wp2_with fail
                  go_roundw
                  case rel => exact ⟨j + 1, by omega, by go_num, HB⟩
                  case measure => simp [intOf]; omega
              · obtain rfl : j = ys.length := by omega
                have HB := hide (hB4.trans (hB5.mono hb4))
                clear cS
                go_wp2_with fail
                go_roundw
                case rel => exact ⟨i + 1, by omega, by go_num, HB⟩
                case measure => simp [intOf]; omega
          · obtain rfl : i = ys.length := by omega
            have cL := lives_any wr
            have hbw := hBB.trans (hB2.mono hbs)
            go_wp2_with fail
            refine cL.mono ?_
            rintro _ wl ⟨rfl, hBl⟩
            go_wp2_with fail
            go_ret
            exact ⟨rfl, hbw.trans (hBl.mono hbw.size)⟩
end Go.Proofs.Ytfaagiilldkdgaa
