/- VotesOne: the walk -/
import Derived.Test.YtogmkcabndgllaaV22
import Derived.Test.YtogmkcabndgllaaV18
namespace Go.Proofs.Ytogmkcabndgllaa
open Go.RowKit
theorem two_filters (st : List On) {v w : Vt} (hne : v ≠ w) (hk : v.k = w.k) : countL st v + countL st w ≤ (st.filter (fun x => decide (x.v.k = v.k))).length := by
  unfold countL
  induction st with
  | nil => simp
  | cons x r ih =>
    simp only [List.filter_cons]
    by_cases h1 : x.v = v
    · have h2 : ¬ x.v = w := fun e => hne (h1.symm.trans e)
      simp [h1, hne]
      omega
    · by_cases h2 : x.v = w
      · have h3 : x.v.k = v.k := by rw [h2, hk]
        simp [h2, hk, hne.symm]
        rw [hk] at ih
        omega
      · by_cases h3 : x.v.k = v.k
        · simp [h1, h2, h3]
          omega
        · simp [h1, h2, h3]
          exact ih
theorem kind_le {N : Int} {st : List On} (hb : Bk N st) (k : Int) : (st.filter (fun x => decide (x.v.k = k))).length ≤ N.toNat := by
  have e : (st.filter (fun x => decide (x.v.k = k))).length = ((st.filter (fun x => decide (x.v.k = k))).map (fun x => x.n.toNat)).length := by simp
  rw [e]
  have := sub_len ((st.filter (fun x => decide (x.v.k = k))).map (fun x => x.n.toNat)) (List.range N.toNat) (by
    unfold List.Nodup
    rw [List.pairwise_map]
    refine List.Pairwise.imp_of_mem ?_ (hb.uniq.filter _)
    intro a c ha hc hac
    obtain ⟨ha1, ha2⟩ := List.mem_filter.1 ha
    obtain ⟨hc1, hc2⟩ := List.mem_filter.1 hc
    have ha2 : a.v.k = k := by simpa using ha2
    have hc2 : c.v.k = k := by simpa using hc2
    have g1 := hb.node a ha1
    have g2 := hb.node c hc1
    intro he
    exact hac ⟨by rw [ha2, hc2], by omega⟩) (fun n hn => by
    obtain ⟨x, hx, rfl⟩ := List.mem_map.1 hn
    have := hb.node x (List.mem_filter.1 hx).1
    exact List.mem_range.2 (by omega))
  simpa using this
theorem one_vote {N : Int} {st : List On} (hb : Bk N st) {k need : Int} (hn : N < 2 * need) {o : Option Vt} (ht : Top (Cand st k need) o) {v : Vt} (hv : Cand st k need v) : o = some v := by
  cases o with
  | none => exact absurd hv (ht v)
  | some b =>
    by_cases e : b = v
    · rw [e]
    · have h1 := two_filters st e (ht.1.1.trans hv.1.symm)
      have h2 := kind_le hb b.k
      have h3 := ht.1.2.2
      have h4 := hv.2.2
      have h5 := hb.good
      omega
theorem cert_cand {st : List On} {v : Vt} {need : Int} (h1 : 1 ≤ need) (h : need ≤ (countL st v : Int)) : Cand st v.k need v := by
  refine ⟨rfl, ?_, h⟩
  have : 0 < countL st v := by omega
  unfold countL at this
  obtain ⟨x, hx⟩ := List.exists_mem_of_length_pos this
  obtain ⟨h2, h3⟩ := List.mem_filter.1 hx
  exact ⟨x, h2, by simpa using h3⟩
set_option maxRecDepth 100000 in
set_option maxHeartbeats 16000000 in
theorem one_walk (f : Int) (al : Option Addr) (cl : Nat) (ys : List On) (more : Int) (w : World) (hok : ∀ y ∈ ys, y.ok) (hrow : RowOf On.cells w al ys) :
    Calls Try.prog 5 #[.int .i64 f, .slice al ys.length cl, .int .i64 more] w fun e w' => e = .returned (.bool true) ∧ Below w.heap.size w w' := by
  obtain ⟨q, hq, eq⟩ := umodc f 21 (by omega) (by omega)
  have eq' : wrap64 ((IntKind.u64.wrap f).tmod 21) = (q : Int) := eq
  clear eq
  have hgood : goodB (4 + 3 * (q : Int)) = true := goodB_mk ⟨by omega, by omega, by omega⟩
  obtain ⟨h, hh⟩ : ∃ h : Nat, (4 + 3 * (q : Int)).tdiv 2 = (h : Int) ∧ 2 ≤ h ∧ h ≤ 32 ∧ 4 + 3 * (q : Int) ≤ 2 * h + 1 := by
    refine ⟨(4 + 3 * q) / 2, ?_, ?_, ?_, ?_⟩
    · rw [Int.tdiv_eq_ediv_of_nonneg (by omega)]; omega
    · omega
    · omega
    · omega
  obtain ⟨hh1, hh2, hh3, hh4⟩ := hh
  obtain ⟨m, hm, em⟩ := umodc more h (by omega) (by omega)
  have ehw : IntKind.u64.wrap (h : Int) = (h : Int) := by rw [IntKind.wrap_u64]; omega
  have cN := new_yesX (4 + 3 * (q : Int)) w hgood
  go_enter Try.func5, Try.ntmps5
  go_wp2_with fail
  refine cN.mono ?_
  rintro _ w1 ⟨B, b, rfl, hk1, hbw, hB1⟩
  clear cN
  by_cases hl : 200 < ys.length
  · have hlI : (200 : Int) < (ys.length : Int) := by omega
    have cL := lives_any w1
    go_wp2_with fail
    refine cL.mono ?_
    rintro _ w2 ⟨rfl, hB2⟩
    go_wp2_with fail
    go_ret
    exact ⟨rfl, hB1.trans (hB2.mono hB1.size)⟩
  · have hlI : ¬ (200 : Int) < (ys.length : Int) := by omega
    obtain ⟨N, hN⟩ : ∃ N : Int, Hid (4 + 3 * (q : Int) = N) := ⟨_, hide rfl⟩
    obtain ⟨need, hneed⟩ : ∃ nd : Int, Hid ((h : Int) + 1 + (m : Int) = nd) := ⟨_, hide rfl⟩
    have hN2 : N < 2 * need := by rw [← hN.out, ← hneed.out]; omega
    have hn1 : 1 ≤ need := by rw [← hneed.out]; omega
    rw [hN.out] at hk1
    rw [hneed.out]
    have hst : Hid (∃ st : List On, BookAt w1 B b N st ∧ st.length ≤ 0 ∧ Below w.heap.size w w1) := hide ⟨[], hk1, Nat.le_refl _, hB1⟩
    have hs1 := hB1.size
    clear hk1 hneed em hh1 hh2 hh3 hh4 hm ehw hq eq' hgood hN
    go_wp2_with fail
    go_loopw [52] (fun iv wr => ∃ i : Nat, i ≤ ys.length ∧ iv = .int .i64 (i : Int) ∧ Hid (∃ st : List On, BookAt wr B b N st ∧ st.length ≤ i ∧ Below w.heap.size w wr)) (fun iv _ => ys.length - (intOf iv).toNat)
    case atStart => exact ⟨0, by omega, rfl, hst⟩
    case round =>
      clear hst
      obtain ⟨i, hi, rfl, HS⟩ := hrel
      obtain ⟨st, hk, hsl, hBB⟩ := HS.out
      clear HS
      by_cases hlt : i < ys.length
      · have hiI : (i : Int) < (ys.length : Int) := by omega
        obtain ⟨ab, aoff, rfl, habl, hAr⟩ := (hrow.below hBB).elem (fun y hy => (hok y hy).len) i hlt
        have hx := hok _ (List.getElem_mem hlt)
        obtain ⟨x, hxe⟩ : ∃ x, Hid (ys[i] = x) := ⟨_, hide rfl⟩
        rw [hxe.out] at hAr hx
        clear hxe
        have hq53 : x.cells.toArray.size = 53 := by simpa using hx.len
        have hq1 := all_one x.one
        have hiA : (Try.prog.info? 35).map (·.size) = some x.cells.length := by rw [hx.len]; exact iszA
        have hiA2 : (Try.prog.info? 35).map (·.size) = some x.cells.toArray.size := by rw [hq53]; exact iszA
        have hiV : (Try.prog.info? 31).map (·.size) = some x.v.cells.length := by rw [hx.v.len]; exact iszV
        have hiT : (Try.prog.info? 33).map (·.size) = some (v8 x.t).length := by rw [v8_length, hx.tl]; exact iszT
        have hu36 := hx.v.len
        have huo := x.v.one
        have hneq : ∀ w : World, (binOp .neq 31 (.agg x.v.cells.toArray) (.agg x.v.cells.toArray)).run Try.prog w = .ok (.bool false) w := fun w => by rw [neqV x.v x.v hx.v hx.v]; simp
        have pR : ∀ w' : World, w'.rangeAt wr.heap.size 0 x.cells → w'.cell? ⟨wr.heap.size, 0, none⟩ = some (.int .i64 x.n) ∧ w'.cell? ⟨wr.heap.size, 1, none⟩ = some (.int .i64 x.v.k) ∧ w'.rangeAt wr.heap.size 1 x.v.cells ∧ w'.rangeAt wr.heap.size 37 (v8 x.t) := fun w' hr => by
          obtain ⟨q1, q2, q3⟩ := On.parts hx hr
          rw [Nat.zero_add] at q2 q3
          exact ⟨q1, q2 0 _ rfl, q2, q3⟩
        have cA := fun w' (h : BookAt w' B b N st) => add_any B b N st x hx w' h (by omega)
        have hlen2 := add_len N st x
        obtain ⟨st2, hst2⟩ : ∃ st2, Hid (addL N st x = st2) := ⟨_, hide rfl⟩
        rw [hst2.out] at hlen2
        simp only [hst2.out] at cA
        obtain ⟨n, v, t⟩ := x
        simp only at *
        obtain ⟨k, ep, vw, sl, d⟩ := v
        simp only at *
        obtain ⟨u, hu⟩ : ∃ u, Hid ((Vt.mk k ep vw sl d).cells = u) := ⟨_, hide rfl⟩
        obtain ⟨g, hg⟩ : ∃ g, Hid (v8 t = g) := ⟨_, hide rfl⟩
        obtain ⟨qc, hqc⟩ : ∃ q, Hid ((On.mk n ⟨k, ep, vw, sl, d⟩ t).cells = q) := ⟨_, hide rfl⟩
        simp only [hu.out, hg.out, hqc.out] at cA pR hiV hiT hneq hu36 huo
        rw [hqc.out] at hAr hq53 hq1 hiA hiA2
        clear hg hqc hx hneq huo hu36
        have hbs := hBB.size
        have hAb : wr.heap.size ≠ b := by have := hk.m.lt; omega
        go_upto_region 9 with (first
          | (refine wpList_load_mid rfl 35 _ rfl _ _ rfl qc _ hAr Try.underlying35 rfl hiA ?_)
          | (refine wpList_store_mid rfl 35 _ _ rfl _ 0 qc.toArray rfl rfl (there_newN _ _ _ hq53.symm) hiA2 hq1 ?_))
        go_name_world w2 hw2
        obtain ⟨hB2, hR, hlt2, -⟩ := one_filled hw2 (by simpa using hq53)
        clear hw2
        have hk := hk.below hB2
        have hBB := hBB.trans (hB2.mono hbs)
        have hbs := hBB.size
        clear hB2 hAr
        obtain ⟨r0, r1, r2, r3⟩ := pR w2 hR
        go_wp2_with (first | (refine wpList_load_mid rfl 31 _ rfl _ _ rfl u _ r2 Try.underlying31 rfl hiV ?_) | (refine wpList_load_mid rfl 33 _ rfl _ _ rfl g _ r3 Try.underlying33 rfl hiT ?_))
        refine (cA w2 hk).mono ?_
        rintro _ w3 ⟨rfl, hk3, hO3⟩
        have HR : Hid (∃ st : List On, BookAt w3 B b N st ∧ st.length ≤ i + 1 ∧ Below w.heap.size w w3) := hide ⟨st2, hk3, by omega, hBB.trans (hO3.below hbs (fun z hz q => by omega))⟩
        clear hk3 hO3 cA r0 r1 r2 r3 hk hBB hR
        go_wp2_with fail
        go_roundw
        case rel => exact ⟨i + 1, by omega, by go_num, HR⟩
        case measure => simp [intOf]; omega
      · obtain rfl : i = ys.length := by omega
        have hbs := hBB.size
        have hbk := hk.bk
        obtain ⟨w2, hw2⟩ : ∃ w2, wr = w2 := ⟨_, rfl⟩
        subst hw2
        go_wp2_with fail
        go_loopw [12] (fun iv wr3 => ∃ kd : Nat, 1 ≤ kd ∧ kd ≤ 3 ∧ iv = .int .i64 (kd : Int) ∧ Hid (Below wr.heap.size wr wr3)) (fun iv _ => 3 - (intOf iv).toNat)
        case atStart => exact ⟨1, by omega, by omega, rfl, hide (Below.refl _ _)⟩
        case round =>
          obtain ⟨kd, hkd1, hkd3, rfl, HB2⟩ := hrel
          have hB2 := HB2.out
          clear HB2
          by_cases hkl : kd ≤ 2
          · have hkI : (kd : Int) ≤ 2 := by omega
            have hk2 := hk.below hB2
            have cB := best_any B b N st (kd : Int) need wr hk2 (by omega)
            have hb2 := hB2.size
            go_wp2_with fail
            refine cB.mono ?_
            rintro _ w3 ⟨o, ht, hoo, a, cap, rfl, -, -, -, hB3⟩
            clear cB
            have HQ : Hid (∀ v : Vt, v.k = (kd : Int) → need ≤ (countL st v : Int) → (certOf N st (o.getD vt0) need).isSome = true ∧ cvOf (o.getD vt0) (certOf N st (o.getD vt0) need) = v) := hide (fun v hv hc => by
              have hcd := cert_cand hn1 hc
              rw [hv] at hcd
              have := one_vote hbk hN2 ht hcd
              subst this
              have hs : (certOf N st v need).isSome = true := by unfold certOf; rw [if_neg (by omega)]; rfl
              simp only [Option.getD_some]
              exact ⟨hs, by unfold cvOf; rw [if_pos hs]⟩)
            have hcv : (cvOf (o.getD vt0) (certOf N st (o.getD vt0) need)).ok := by unfold cvOf; split <;> first | exact hoo | exact vt0_ok
            have hc37 : ((cvOf (o.getD vt0) (certOf N st (o.getD vt0) need)).cells ++ [Value.slice a ((certOf N st (o.getD vt0) need).getD []).length cap]).toArray.size = 37 := by simp [hcv.len]
            have hc1 := cert_one1 (a := a) (m := ((certOf N st (o.getD vt0) need).getD []).length) (cap := cap) _ (cvOf (o.getD vt0) (certOf N st (o.getD vt0) need)).one
            obtain ⟨bc, hbc⟩ : ∃ bc, Hid (cvOf (o.getD vt0) (certOf N st (o.getD vt0) need) = bc) := ⟨_, hide rfl⟩
            obtain ⟨bb, hbb⟩ : ∃ bb, Hid ((certOf N st (o.getD vt0) need).isSome = bb) := ⟨_, hide rfl⟩
            rw [hbc.out, hbb.out] at HQ
            rw [hbb.out]
            rw [hbc.out] at hcv hc37 hc1 ⊢
            obtain ⟨cc, hcc⟩ : ∃ cc, Hid (bc.cells ++ [Value.slice a ((certOf N st (o.getD vt0) need).getD []).length cap] = cc) := ⟨_, hide rfl⟩
            rw [hcc.out] at hc37 hc1 ⊢
            have hic : (Try.prog.info? 44).map (·.size) = some cc.toArray.size := by rw [hc37]; exact iszCt
            have hB3 := hB2.trans (hB3.mono hb2)
            have hb3 := hB3.size
            clear ht hoo hbc hbb
            go_upto_region 15 with (refine wpList_store_mid rfl 44 _ _ rfl _ 0 cc.toArray rfl rfl (there_newN _ _ _ hc37.symm) hic hc1 ?_)
            go_name_world w4 hw4
            obtain ⟨hB4, hCR, hlt4, -⟩ := one_filled hw4 (by simpa using hc37)
            clear hw4
            have rB : w4.rangeAt w3.heap.size 0 bc.cells := by rw [← hcc.out] at hCR; exact range_left hCR
            have hB4 := hB3.trans (hB4.mono hb3)
            have hb4 := hB4.size
            clear hCR hcc hc37 hc1 hic hB3 hb3 hb2 hcv
            have hk4 := hk.below hB4
            have hrow4 := hrow.below (hBB.trans (hB4.mono hbs))
            go_wp2_with fail
            go_loopw [78] (fun iv wr4 => ∃ i : Nat, i ≤ ys.length ∧ iv = .int .i64 (i : Int) ∧ Hid (Below w4.heap.size w4 wr4)) (fun iv _ => ys.length - (intOf iv).toNat)
            case atStart => exact ⟨0, by omega, rfl, hide (Below.refl _ _)⟩
            case round =>
              obtain ⟨i, hi, rfl, HI⟩ := hrel
              have hBi := HI.out
              clear HI
              by_cases hlt : i < ys.length
              · have hiI : (i : Int) < (ys.length : Int) := by omega
                obtain ⟨ab, aoff, rfl, habl, hAr⟩ := (hrow4.below hBi).elem (fun y hy => (hok y hy).len) i hlt
                have hx := hok _ (List.getElem_mem hlt)
                obtain ⟨x, hxe⟩ : ∃ x, Hid (ys[i] = x) := ⟨_, hide rfl⟩
                rw [hxe.out] at hAr hx
                clear hxe
                have hq53 : x.cells.toArray.size = 53 := by simpa using hx.len
                have hq1 := all_one x.one
                have hiA : (Try.prog.info? 35).map (·.size) = some x.cells.length := by rw [hx.len]; exact iszA
                have hiA2 : (Try.prog.info? 35).map (·.size) = some x.cells.toArray.size := by rw [hq53]; exact iszA
                have hiV : (Try.prog.info? 31).map (·.size) = some x.v.cells.length := by rw [hx.v.len]; exact iszV
                have hiT : (Try.prog.info? 33).map (·.size) = some (v8 x.t).length := by rw [v8_length, hx.tl]; exact iszT
                have hu36 := hx.v.len
                have huo := x.v.one
                have hneq : ∀ w : World, (binOp .neq 31 (.agg x.v.cells.toArray) (.agg x.v.cells.toArray)).run Try.prog w = .ok (.bool false) w := fun w => by rw [neqV x.v x.v hx.v hx.v]; simp
                have pR : ∀ w' : World, w'.rangeAt wr.heap.size 0 x.cells → w'.cell? ⟨wr.heap.size, 0, none⟩ = some (.int .i64 x.n) ∧ w'.cell? ⟨wr.heap.size, 1, none⟩ = some (.int .i64 x.v.k) ∧ w'.rangeAt wr.heap.size 1 x.v.cells ∧ w'.rangeAt wr.heap.size 37 (v8 x.t) := fun w' hr => by
                  obtain ⟨q1, q2, q3⟩ := On.parts hx hr
                  rw [Nat.zero_add] at q2 q3
                  exact ⟨q1, q2 0 _ rfl, q2, q3⟩
                have hki := hk4.below hBi
                have rBi := range_below rB hBi (by omega)
                have hbi := hBi.size
                have cC := fun w' (h : BookAt w' B b N st) => cert_any B b N st x.v hx.v need w' h (by omega)
                by_cases hcn : need < 1 ∨ (countL st x.v : Int) < need
                · simp only [certOf_none hcn, Option.getD_none, Option.isSome_none, List.length_nil, cvOf, Bool.false_eq_true, if_false] at cC
                  clear hcn
                  obtain ⟨n, v, t⟩ := x
                  simp only at *
                  obtain ⟨k, ep, vw, sl, d⟩ := v
                  simp only at *
                  obtain ⟨u, hu⟩ : ∃ u, Hid ((Vt.mk k ep vw sl d).cells = u) := ⟨_, hide rfl⟩
                  obtain ⟨g, hg⟩ : ∃ g, Hid (v8 t = g) := ⟨_, hide rfl⟩
                  obtain ⟨qc, hqc⟩ : ∃ q, Hid ((On.mk n ⟨k, ep, vw, sl, d⟩ t).cells = q) := ⟨_, hide rfl⟩
                  simp only [hu.out, hg.out, hqc.out] at cC pR hiV hiT hneq hu36 huo
                  rw [hqc.out] at hAr hq53 hq1 hiA hiA2
                  clear hg hqc hx hneq huo hu36
                  go_upto_region 18 with (first
                    | (refine wpList_load_mid rfl 35 _ rfl _ _ rfl qc _ hAr Try.underlying35 rfl hiA ?_)
                    | (refine wpList_store_mid rfl 35 _ _ rfl _ 0 qc.toArray rfl rfl (there_newN _ _ _ hq53.symm) hiA2 hq1 ?_))
                  go_name_world w5 hw5
                  obtain ⟨hB2, hR, hlt2, -⟩ := one_filled hw5 (by simpa using hq53)
                  clear hw5
                  have hki := hki.below hB2
                  have hBi := hBi.trans (hB2.mono hbi)
                  have hbi := hBi.size
                  clear hB2 hAr
                  obtain ⟨r0, r1, r2, r3⟩ := pR w5 hR
                  go_wp2_with (refine wpList_load_mid rfl 31 _ rfl _ _ rfl u _ r2 Try.underlying31 rfl hiV ?_)
                  refine (cC w5 hki).mono ?_
                  rintro _ w6 ⟨a6, cap6, rfl, -, -, -, hB6⟩
                  have hc37 : (vt0.cells ++ [Value.slice a6 0 cap6]).toArray.size = 37 := by simp [vt0_ok.len]
                  have hc1 : (vt0.cells ++ [Value.slice a6 0 cap6]).toArray.all (·.oneCell') = true := cert_one _ vt0.one
                  have hic : (Try.prog.info? 44).map (·.size) = some (vt0.cells ++ [Value.slice a6 0 cap6]).toArray.size := by rw [hc37]; exact iszCt
                  obtain ⟨cc, hcc⟩ : ∃ cc, Hid (vt0.cells ++ [Value.slice a6 0 cap6] = cc) := ⟨_, hide rfl⟩
                  rw [hcc.out] at hc37 hc1 hic ⊢
                  clear hcc
                  have hBi := hBi.trans (hB6.mono hbi)
                  have hbi := hBi.size
                  clear hB6 cC r0 r1 r2 r3
                  go_upto_region 19 with (refine wpList_store_mid rfl 44 _ _ rfl _ 0 cc.toArray rfl rfl (there_newN _ _ _ hc37.symm) hic hc1 ?_)
                  go_name_world w7 hw7
                  obtain ⟨hB7, -, -, -⟩ := one_filled hw7 (by simpa using hc37)
                  clear hw7
                  have hBi := hBi.trans (hB7.mono hbi)
                  clear hB7 hR hki
                  have HI := hide hBi
                  clear hBi
                  go_wp2_with fail
                  go_roundw
                  case rel => exact ⟨i + 1, by omega, by go_num, HI⟩
                  case measure => simp [intOf]; omega
                · obtain ⟨nd, hndE⟩ : ∃ nd : Nat, need = (nd : Int) := ⟨need.toNat, by omega⟩
                  have hnd : 1 ≤ nd ∧ (nd : Int) ≤ countL st x.v := by omega
                  have hce := certOf_some (N := N) hnd.1 hnd.2
                  rw [← hndE] at hce
                  simp only [hce, Option.getD_some, Option.isSome_some, cvOf, if_true] at cC
                  have HQx : Hid (x.v.k = (kd : Int) → bb = true ∧ bc = x.v) := hide (fun hv => HQ.out x.v hv (by omega))
                  obtain ⟨sl9, hsl9⟩ : ∃ sl9, Hid ((signsL N.toNat st x.v).take nd = sl9) := ⟨_, hide rfl⟩
                  simp only [hsl9.out] at cC
                  clear hce hnd hcn hsl9 hndE
                  obtain ⟨n, v, t⟩ := x
                  simp only at *
                  obtain ⟨k, ep, vw, sl, d⟩ := v
                  simp only at *
                  obtain ⟨u, hu⟩ : ∃ u, Hid ((Vt.mk k ep vw sl d).cells = u) := ⟨_, hide rfl⟩
                  obtain ⟨g, hg⟩ : ∃ g, Hid (v8 t = g) := ⟨_, hide rfl⟩
                  obtain ⟨qc, hqc⟩ : ∃ q, Hid ((On.mk n ⟨k, ep, vw, sl, d⟩ t).cells = q) := ⟨_, hide rfl⟩
                  simp only [hu.out, hg.out, hqc.out] at cC pR hiV hiT hneq hu36 huo
                  rw [hqc.out] at hAr hq53 hq1 hiA hiA2
                  clear hg hqc hx
                  go_upto_region 18 with (first
                    | (refine wpList_load_mid rfl 35 _ rfl _ _ rfl qc _ hAr Try.underlying35 rfl hiA ?_)
                    | (refine wpList_store_mid rfl 35 _ _ rfl _ 0 qc.toArray rfl rfl (there_newN _ _ _ hq53.symm) hiA2 hq1 ?_))
                  go_name_world w5 hw5
                  obtain ⟨hB2, hR, hlt2, -⟩ := one_filled hw5 (by simpa using hq53)
                  clear hw5
                  have hki := hki.below hB2
                  have rBi := range_below rBi hB2 (by omega)
                  have hBi := hBi.trans (hB2.mono hbi)
                  have hbi := hBi.size
                  clear hB2 hAr
                  obtain ⟨r0, r1, r2, r3⟩ := pR w5 hR
                  go_wp2_with (refine wpList_load_mid rfl 31 _ rfl _ _ rfl u _ r2 Try.underlying31 rfl hiV ?_)
                  refine (cC w5 hki).mono ?_
                  rintro _ w6 ⟨a6, cap6, rfl, -, -, -, hB6⟩
                  have hc37 : (u ++ [Value.slice a6 sl9.length cap6]).toArray.size = 37 := by simp [hu36]
                  have hc1 : (u ++ [Value.slice a6 sl9.length cap6]).toArray.all (·.oneCell') = true := cert_one _ huo
                  have hic : (Try.prog.info? 44).map (·.size) = some (u ++ [Value.slice a6 sl9.length cap6]).toArray.size := by rw [hc37]; exact iszCt
                  obtain ⟨cc, hcc⟩ : ∃ cc, Hid (u ++ [Value.slice a6 sl9.length cap6] = cc) := ⟨_, hide rfl⟩
                  rw [hcc.out] at hc37 hc1 hic ⊢
                  have hR := range_below hR hB6 (by omega)
                  have rBi := range_below rBi hB6 (by omega)
                  have hs6 := hB6.size
                  have hBi := hBi.trans (hB6.mono hbi)
                  have hbi := hBi.size
                  clear hB6 cC r0 r1 r2 r3
                  go_upto_region 19 with (refine wpList_store_mid rfl 44 _ _ rfl _ 0 cc.toArray rfl rfl (there_newN _ _ _ hc37.symm) hic hc1 ?_)
                  go_name_world w7 hw7
                  obtain ⟨hB7, hCR, hlt7, -⟩ := one_filled hw7 (by simpa using hc37)
                  clear hw7
                  have rC2 : w7.rangeAt w6.heap.size 0 u := by rw [← hcc.out] at hCR; exact range_left hCR
                  have hR := range_below hR hB7 (by omega)
                  have rC1 := range_below rBi hB7 (by omega)
                  have hBi := hBi.trans (hB7.mono hbi)
                  clear hB7 hki hCR hcc rBi
                  obtain ⟨r0, r1, r2, r3⟩ := pR w7 hR
                  by_cases hkk : k = (kd : Int)
                  · obtain ⟨rfl, hbcv⟩ := HQx.out hkk
                    rw [hbcv, hu.out] at rC1
                    have hke : (k == (kd : Int)) = true := by simpa using hkk
                    clear HQx HQ hbcv hkk r0 r3
                    go_wp2_with (first
                      | (refine wpList_load_g (by rfl) 31 _ rfl w6.heap.size 0 rfl u _ rC2 Try.underlying31 rfl hiV ?_)
                      | (refine wpList_load_g (by rfl) 31 _ rfl w3.heap.size 0 rfl u _ rC1 Try.underlying31 rfl hiV ?_))
                    have HI := hide hBi
                    clear hBi
                    go_wp2_with fail
                    go_roundw
                    case rel => exact ⟨i + 1, by omega, by go_num, HI⟩
                    case measure => simp [intOf]; omega
                  · have hke : (k == (kd : Int)) = false := by simpa using hkk
                    clear HQx HQ hkk r0 r2 r3 rC1 rC2
                    have HI := hide hBi
                    clear hBi
                    go_wp2_with fail
                    go_roundw
                    case rel => exact ⟨i + 1, by omega, by go_num, HI⟩
                    case measure => simp [intOf]; omega
              · obtain rfl : i = ys.length := by omega
                have HB := hide (hB4.trans (hBi.mono hb4))
                clear hBi hk4 hrow4 rB
                go_wp2_with fail
                go_roundw
                case rel => exact ⟨kd + 1, by omega, by omega, by go_num, HB⟩
                case measure => simp [intOf]; omega
          · obtain rfl : kd = 3 := by omega
            have cL := lives_any wr
            have hb2 := hB2.size
            go_wp2_with fail
            refine cL.mono ?_
            rintro _ w3 ⟨rfl, hB3⟩
            go_wp2_with fail
            go_ret
            exact ⟨rfl, hBB.trans ((hB2.trans (hB3.mono hb2)).mono hbs)⟩
end Go.Proofs.Ytogmkcabndgllaa
