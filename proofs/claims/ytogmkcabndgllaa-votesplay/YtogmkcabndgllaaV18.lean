/- VotesOnce: the walk -/
import Derived.Test.YtogmkcabndgllaaV17
namespace Go.Proofs.Ytogmkcabndgllaa
open Go.RowKit
theorem iszA : (Try.prog.info? 35).map (·.size) = some 53 := by kernel_rfl
theorem iszG : (Try.prog.info? 52).map (·.size) = some 17 := by kernel_rfl
theorem cert_one (u : List Value) (hu : ∀ v ∈ u, v.oneCell' = true) {a : Option Addr} {m cap : Nat} : (u ++ [Value.slice a m cap]).toArray.all (·.oneCell') = true := all_one (fun x hx => by
  rcases List.mem_append.1 hx with q | q
  · exact hu x q
  · simp only [List.mem_singleton] at q
    subst q
    rfl)
set_option maxRecDepth 100000 in
set_option maxHeartbeats 16000000 in
theorem once_walk (f : Int) (al : Option Addr) (cl : Nat) (ys : List On) (need : Int) (w : World) (hok : ∀ y ∈ ys, y.ok) (hrow : RowOf On.cells w al ys) :
    Calls Try.prog 4 #[.int .i64 f, .slice al ys.length cl, .int .i64 need] w fun e w' => e = .returned (.bool true) ∧ Below w.heap.size w w' := by
  obtain ⟨q, hq, eq⟩ := umodc f 21 (by omega) (by omega)
  have eq' : wrap64 ((IntKind.u64.wrap f).tmod 21) = (q : Int) := eq
  clear eq
  have hgood : goodB (4 + 3 * (q : Int)) = true := goodB_mk ⟨by omega, by omega, by omega⟩
  have cN := new_yesX (4 + 3 * (q : Int)) w hgood
  go_enter Try.func4, Try.ntmps4
  go_wp2_with fail
  refine cN.mono ?_
  rintro _ w1 ⟨B, b, rfl, hk1, hbw, hB1⟩
  clear cN
  have hrow1 := hrow.below hB1
  by_cases hl : 200 < ys.length
  · have hlI : (200 : Int) < (ys.length : Int) := by omega
    have cL := lives_any w1
    go_wp2_with fail
    refine cL.mono ?_
    rintro _ w2 ⟨rfl, hB2⟩
    go_wp2_with fail
    go_ret
    exact ⟨rfl, hB1.trans (hB2.mono hB1.size)⟩
  · have hlI : ¬ (200 : Int) < (ys.length : Int) := by omega
    obtain ⟨N, hN⟩ : ∃ N : Int, Hid (4 + 3 * (q : Int) = N) := ⟨_, hide rfl⟩
    rw [hN.out] at hk1
    have hst : Hid (∃ st : List On, BookAt w1 B b N st ∧ st.length ≤ 0 ∧ Below w.heap.size w w1) := hide ⟨[], hk1, Nat.le_refl _, hB1⟩
    have hs1 := hB1.size
    clear hk1 hrow1
    go_wp2_with fail
    go_loopw [41] (fun iv wr => ∃ i : Nat, i ≤ ys.length ∧ iv = .int .i64 (i : Int) ∧ Hid (∃ st : List On, BookAt wr B b N st ∧ st.length ≤ i ∧ Below w.heap.size w wr)) (fun iv _ => ys.length - (intOf iv).toNat)
    case atStart => exact ⟨0, by omega, rfl, hst⟩
    case round =>
      clear hst
      obtain ⟨i, hi, rfl, HS⟩ := hrel
      obtain ⟨st, hk, hsl, hBB⟩ := HS.out
      clear HS
      by_cases hlt : i < ys.length
      · have hiI : (i : Int) < (ys.length : Int) := by omega
        obtain ⟨ab, aoff, rfl, habl, hAr⟩ := (hrow.below hBB).elem (fun y hy => (hok y hy).len) i hlt
        have hx := hok _ (List.getElem_mem hlt)
        obtain ⟨x, hxe⟩ : ∃ x, Hid (ys[i] = x) := ⟨_, hide rfl⟩
        rw [hxe.out] at hAr hx
        clear hxe
        have hq53 : x.cells.toArray.size = 53 := by simpa using hx.len
        have hq1 := all_one x.one
        have hiA : (Try.prog.info? 35).map (·.size) = some x.cells.length := by rw [hx.len]; exact iszA
        have hiA2 : (Try.prog.info? 35).map (·.size) = some x.cells.toArray.size := by rw [hq53]; exact iszA
        have hiV : (Try.prog.info? 31).map (·.size) = some x.v.cells.length := by rw [hx.v.len]; exact iszV
        have hiT : (Try.prog.info? 33).map (·.size) = some (v8 x.t).length := by rw [v8_length, hx.tl]; exact iszT
        have hu36 := hx.v.len
        have huo := x.v.one
        have hneq : ∀ w : World, (binOp .neq 31 (.agg x.v.cells.toArray) (.agg x.v.cells.toArray)).run Try.prog w = .ok (.bool false) w := fun w => by rw [neqV x.v x.v hx.v hx.v]; simp
        have cA := fun w' (h : BookAt w' B b N st) => add_any B b N st x hx w' h (by omega)
        have hlen2 := add_len N st x
        obtain ⟨st2, hst2⟩ : ∃ st2, Hid (addL N st x = st2) := ⟨_, hide rfl⟩
        rw [hst2.out] at hlen2
        simp only [hst2.out] at cA
        have cC := fun w' (h : BookAt w' B b N st2) => cert_any B b N st2 x.v hx.v need w' h (by omega)
        have cCt := fun w' (h : BookAt w' B b N st2) => count_any B b N st2 x.v hx.v w' h (by omega)
        have pR : ∀ w' : World, w'.rangeAt wr.heap.size 0 x.cells → w'.cell? ⟨wr.heap.size, 0, none⟩ = some (.int .i64 x.n) ∧ w'.cell? ⟨wr.heap.size, 1, none⟩ = some (.int .i64 x.v.k) ∧ w'.rangeAt wr.heap.size 1 x.v.cells ∧ w'.rangeAt wr.heap.size 37 (v8 x.t) := fun w' hr => by
          obtain ⟨q1, q2, q3⟩ := On.parts hx hr
          rw [Nat.zero_add] at q2 q3
          exact ⟨q1, q2 0 _ rfl, q2, q3⟩
        obtain ⟨n, v, t⟩ := x
        simp only at *
        obtain ⟨k, ep, vw, sl, d⟩ := v
        simp only at *
        have hvo : (Vt.mk k ep vw sl d).ok := hx.v
        have hIk : I64 k := hx.v.k
        obtain ⟨u, hu⟩ : ∃ u, Hid ((Vt.mk k ep vw sl d).cells = u) := ⟨_, hide rfl⟩
        obtain ⟨g, hg⟩ : ∃ g, Hid (v8 t = g) := ⟨_, hide rfl⟩
        obtain ⟨qc, hqc⟩ : ∃ q, Hid ((On.mk n ⟨k, ep, vw, sl, d⟩ t).cells = q) := ⟨_, hide rfl⟩
        simp only [hu.out, hg.out, hqc.out] at cA cCt pR hiV hiT hneq hu36 huo
        rw [hqc.out] at hAr hq53 hq1 hiA hiA2
        clear hg hqc hx
        have hbs := hBB.size
        have hAb : wr.heap.size ≠ b := by have := hk.m.lt; omega
        go_upto_region 8 with (first
          | (refine wpList_load_mid rfl 35 _ rfl _ _ rfl qc _ hAr Try.underlying35 rfl hiA ?_)
          | (refine wpList_store_mid rfl 35 _ _ rfl _ 0 qc.toArray rfl rfl (there_newN _ _ _ hq53.symm) hiA2 hq1 ?_))
        go_name_world w2 hw2
        obtain ⟨hB2, hR, hlt2, -⟩ := one_filled hw2 (by simpa using hq53)
        clear hw2
        have hk := hk.below hB2
        have hBB := hBB.trans (hB2.mono hbs)
        have hbs := hBB.size
        clear hB2 hAr
        obtain ⟨r0, r1, r2, r3⟩ := pR w2 hR
        go_wp2_with (first | (refine wpList_load_mid rfl 31 _ rfl _ _ rfl u _ r2 Try.underlying31 rfl hiV ?_) | (refine wpList_load_mid rfl 33 _ rfl _ _ rfl g _ r3 Try.underlying33 rfl hiT ?_))
        refine (cA w2 hk).mono ?_
        rintro _ w3 ⟨rfl, hk3, hO3⟩
        have hR := range_at hR (hO3.2 _ hlt2 hAb)
        have hlt3 := Nat.lt_of_lt_of_le hlt2 hO3.size
        have hBB := hBB.trans (hO3.below hbs (fun z hz q => by omega))
        have hbs := hBB.size
        have hk := hk3
        clear hk3 hO3 cA r0 r1 r2 r3
        obtain ⟨r0, r1, r2, r3⟩ := pR w3 hR
        have HC := cC w3 hk
        by_cases hcn : need < 1 ∨ (countL st2 ⟨k, ep, vw, sl, d⟩ : Int) < need
        · rw [certOf_none hcn] at HC
          simp only [Option.getD_none, Option.isSome_none, List.length_nil, cvOf, Bool.false_eq_true, if_false, hu.out] at HC
          clear hcn cC cCt
          go_wp2_with (refine wpList_load_mid rfl 31 _ rfl _ _ rfl u _ r2 Try.underlying31 rfl hiV ?_)
          refine HC.mono ?_
          rintro _ w4 ⟨a, cap, rfl, -, -, -, hB4⟩
          have hc37 : (vt0.cells ++ [Value.slice a 0 cap]).toArray.size = 37 := by simp [vt0_ok.len]
          have hc1 : (vt0.cells ++ [Value.slice a 0 cap]).toArray.all (·.oneCell') = true := cert_one _ vt0.one
          have hic : (Try.prog.info? 44).map (·.size) = some (vt0.cells ++ [Value.slice a 0 cap]).toArray.size := by rw [hc37]; exact iszCt
          obtain ⟨cc, hcc⟩ : ∃ cc, Hid (vt0.cells ++ [Value.slice a 0 cap] = cc) := ⟨_, hide rfl⟩
          rw [hcc.out] at hc37 hc1 hic ⊢
          clear hcc HC
          have hk := hk.below hB4
          have hBB := hBB.trans (hB4.mono hbs)
          have hbs := hBB.size
          clear hB4
          go_upto_region 10 with (refine wpList_store_mid rfl 44 _ _ rfl _ 0 cc.toArray rfl rfl (there_newN _ _ _ hc37.symm) hic hc1 ?_)
          go_name_world w5 hw5
          obtain ⟨hB5, -, -, -⟩ := one_filled hw5 (by simpa using hc37)
          clear hw5
          have HR : Hid (∃ st : List On, BookAt w5 B b N st ∧ st.length ≤ i + 1 ∧ Below w.heap.size w w5) := hide ⟨st2, hk.below hB5, by omega, hBB.trans (hB5.mono hbs)⟩
          clear hk hBB hB5 hR
          go_wp2_with fail
          go_roundw
          case rel => exact ⟨i + 1, by omega, by go_num, HR⟩
          case measure => simp [intOf]; omega
        · obtain ⟨nd, rfl⟩ : ∃ nd : Nat, need = (nd : Int) := ⟨need.toNat, by omega⟩
          have hnd : 1 ≤ nd ∧ (nd : Int) ≤ countL st2 ⟨k, ep, vw, sl, d⟩ := by omega
          rw [certOf_some hnd.1 hnd.2] at HC
          have hgs := goods_of hk.bk ⟨k, ep, vw, sl, d⟩ nd
          have hln := cert_len hk.bk hnd.2
          have h64 : nd ≤ 64 := by
            have h1 := signs_le N.toNat st2 ⟨k, ep, vw, sl, d⟩
            have h2 := hk.bk.good
            have h3 := hln
            rw [List.length_take] at h3
            omega
          obtain ⟨rs, hrs⟩ : ∃ rs, Hid ((signsL N.toNat st2 ⟨k, ep, vw, sl, d⟩).take nd = rs) := ⟨_, hide rfl⟩
          rw [hrs.out] at hgs hln
          simp only [hrs.out, Option.getD_some, Option.isSome_some, cvOf, if_true, hu.out, hln] at HC
          clear hrs hcn cC
          go_wp2_with (refine wpList_load_mid rfl 31 _ rfl _ _ rfl u _ r2 Try.underlying31 rfl hiV ?_)
          refine HC.mono ?_
          rintro _ w4 ⟨a, cap, rfl, hsg, hcap, -, hB4⟩
          have hc37 : (u ++ [Value.slice a nd cap]).toArray.size = 37 := by simp [hu36]
          have hc1 : (u ++ [Value.slice a nd cap]).toArray.all (·.oneCell') = true := cert_one _ huo
          have hic : (Try.prog.info? 44).map (·.size) = some (u ++ [Value.slice a nd cap]).toArray.size := by rw [hc37]; exact iszCt
          have hcl : (u ++ [Value.slice a nd cap])[36]? = some (.slice a nd cap) := by
            rw [List.getElem?_append_right (by omega), hu36]
            rfl
          obtain ⟨cc, hcc⟩ : ∃ cc, Hid (u ++ [Value.slice a nd cap] = cc) := ⟨_, hide rfl⟩
          rw [hcc.out] at hc37 hc1 hic hcl ⊢
          clear HC
          have hk := hk.below hB4
          have hR := range_below hR hB4 hlt3
          have hs4 := hB4.size
          have hBB := hBB.trans (hB4.mono hbs)
          have hbs := hBB.size
          clear hB4 r0 r1 r2 r3
          go_upto_region 10 with (refine wpList_store_mid rfl 44 _ _ rfl _ 0 cc.toArray rfl rfl (there_newN _ _ _ hc37.symm) hic hc1 ?_)
          go_name_world w5 hw5
          obtain ⟨hB5, hCR, hlt5, -⟩ := one_filled hw5 (by simpa using hc37)
          clear hw5
          have hs36 := hCR 36 _ hcl
          rw [Nat.zero_add] at hs36
          have rC : w5.rangeAt w4.heap.size 0 u := by rw [← hcc.out] at hCR; exact range_left hCR
          clear hCR hcc
          have hk := hk.below hB5
          have hR := range_below hR hB5 (by omega)
          have hsg := hsg.below hB5
          have hBB := hBB.trans (hB5.mono hbs)
          have hbs := hBB.size
          have hs5 := hB5.size
          clear hB5
          obtain ⟨r0, r1, r2, r3⟩ := pR w5 hR
          have cCt5 := cCt w5 hk
          have hnlt : ¬ (countL st2 ⟨k, ep, vw, sl, d⟩ : Int) < (nd : Int) := by omega
          obtain ⟨ct, hct⟩ : ∃ ct : Int, Hid ((countL st2 ⟨k, ep, vw, sl, d⟩ : Int) = ct) := ⟨_, hide rfl⟩
          rw [hct.out] at hnlt hnd
          simp only [hct.out] at cCt5
          clear cCt hct
          go_upto_region 11 with fail
          try simp only [Act.put]
          refine wp_region_list ?_
          refine wpList_step fun K hK => ?_
          go_simp
          refine hK _ _ ?_
          clear hK K
          refine wpList_step fun K hK => ?_
          go_simp
          refine hK _ _ ?_
          clear hK K
          refine wpList_step fun K hK => ?_
          go_simp
          refine hK _ _ ?_
          clear hK K
          refine wpList_step fun K hK => ?_
          go_simp
          refine hK _ _ ?_
          clear hK K
          refine wpList_step fun K hK => ?_
          go_simp
          refine hK _ _ ?_
          clear hK K
          refine wpList_step fun K hK => ?_
          go_simp
          refine hK _ _ ?_
          clear hK K
          refine wpList_step fun K hK => ?_
          go_simp
          refine hK _ _ ?_
          clear hK K
          refine wpList_load_g (by rfl) 31 _ rfl _ _ rfl u _ rC Try.underlying31 rfl hiV ?_
          refine wpList_step fun K hK => ?_
          go_simp
          refine hK _ _ ?_
          clear hK K
          refine wpList_load_g (by rfl) 31 _ rfl _ _ rfl u _ r2 Try.underlying31 rfl hiV ?_
          refine wpList_step fun K hK => ?_
          go_simp
          try rw [hneq]
          try go_simp
          refine hK _ _ ?_
          clear hK K
          refine wpList_step fun K hK => ?_
          go_simp
          refine hK _ _ ?_
          clear hK K
          refine wpList_step fun K hK => ?_
          go_simp
          refine hK _ _ ?_
          clear hK K
          refine wpList_step fun K hK => ?_
          go_simp
          refine hK _ _ ?_
          clear hK K
          refine wpList_step fun K hK => ?_
          go_simp
          refine hK _ _ ?_
          clear hK K
          refine wpList_load_g (by rfl) 31 _ rfl _ _ rfl u _ r2 Try.underlying31 rfl hiV ?_
          go_wp2_with fail
          refine cCt5.mono ?_
          rintro _ w6 ⟨rfl, hB6⟩
          have hk := hk.below hB6
          have hR := range_below hR hB6 (by omega)
          have hsg := hsg.below hB6
          have hs36 := (hB6.cell (p := ⟨w4.heap.size, 36, none⟩) hlt5).trans hs36
          have hBB := hBB.trans (hB6.mono hbs)
          have hbs := hBB.size
          have hs6 := hB6.size
          clear hB6 cCt5 rC r0 r1 r2 r3
          go_wp2_with fail
          go_loopw [13, 86] (fun lvv iv wi => ∃ j : Nat, j ≤ nd ∧ iv = .int .i64 (j : Int) ∧ lvv = .int .i64 (lastN rs j) ∧ Hid (Below w6.heap.size w6 wi)) (fun _ iv _ => nd - (intOf iv).toNat)
          case atStart => exact ⟨0, by omega, rfl, by rw [last_zero], hide (Below.refl _ _)⟩
          case round =>
            obtain ⟨j, hj, rfl, rfl, HI⟩ := hrel
            have hBi := HI.out
            clear HI
            by_cases hjl : j < nd
            · have hjI : (j : Int) < (nd : Int) := by omega
              obtain ⟨sb, soff, rfl, hsbl, hSr⟩ := hsg.elem j (by omega)
              have hsok := hsg.2.1 _ (List.getElem_mem (by omega : j < rs.length))
              obtain ⟨y, hfy, hyv, hyt⟩ := hgs.of _ (List.getElem_mem (by omega : j < rs.length))
              have hll := last_lt hgs j (by omega)
              have HLS : Hid (lastN rs (j + 1) = rs[j].n) := hide (last_succ rs j (by omega))
              obtain ⟨sx, hsx⟩ : ∃ sx, Hid (rs[j] = sx) := ⟨_, hide rfl⟩
              rw [hsx.out] at hSr hsok hfy hyt hll HLS
              clear hsx
              obtain ⟨ln, hln2⟩ : ∃ ln, Hid (lastN rs j = ln) := ⟨_, hide rfl⟩
              rw [hln2.out] at hll ⊢
              clear hln2
              have hq17 : sx.cells.toArray.size = 17 := by simpa using hsok.length
              have hqs1 := all_one sx.one
              have hiS : (Try.prog.info? 52).map (·.size) = some sx.cells.length := by rw [hsok.length]; exact iszG
              have hiS2 : (Try.prog.info? 52).map (·.size) = some sx.cells.toArray.size := by rw [hq17]; exact iszG
              have hSr := range_below hSr hBi hsbl
              have hki := hk.below hBi
              have hRi := range_below hR hBi (by omega)
              have cO := fun w' (h : BookAt w' B b N st2) => of_yes B b N st2 k sx.n hIk hsok.n w' h
              have hfy : find st2 k sx.n = some y := hfy
              rw [hfy] at cO
              simp only [Option.getD_some, Option.isSome_some, hyv, hyt, hu.out] at cO
              have hneqt : ∀ w : World, (binOp .neq 33 (.agg (v8 sx.t).toArray) (.agg (v8 sx.t).toArray)).run Try.prog w = .ok (.bool false) w := fun w => by rw [neqT _ _ hsok.tl hsok.tl]; simp
              have ht16 : (v8 sx.t).toArray.size = 16 := by simpa using hsok.tl
              have hto := all_one (v8_one sx.t)
              have hit : (Try.prog.info? 33).map (·.size) = some (v8 sx.t).length := by rw [v8_length, hsok.tl]; exact iszT
              have hit2 : (Try.prog.info? 33).map (·.size) = some (v8 sx.t).toArray.size := by rw [ht16]; exact iszT
              have hu2 : u.toArray.size = 36 := by simpa using hu36
              have huo2 := all_one huo
              have hiV2 : (Try.prog.info? 31).map (·.size) = some u.toArray.size := by rw [hu2]; exact iszV
              have pS : ∀ (w' : World) (z : Nat), w'.rangeAt z 0 sx.cells → w'.cell? ⟨z, 0, none⟩ = some (.int .i64 sx.n) ∧ w'.rangeAt z 1 (v8 sx.t) := fun w' z hr => ⟨hr 0 _ rfl, by have := Sg.tag hr; rwa [Nat.zero_add] at this⟩
              clear hsok
              obtain ⟨sn, stg⟩ := sx
              simp only at *
              obtain ⟨gt, hgt⟩ : ∃ gt, Hid (v8 stg = gt) := ⟨_, hide rfl⟩
              obtain ⟨sc, hsc⟩ : ∃ sc, Hid ((Sg.mk sn stg).cells = sc) := ⟨_, hide rfl⟩
              simp only [hgt.out, hsc.out] at cO hneqt ht16 hto hit hit2 pS hSr hq17 hqs1 hiS hiS2
              clear hgt hsc
              have hbi := hBi.size
              go_upto_region 17 with (first
                | (refine wpList_load_mid rfl 52 _ rfl _ _ rfl sc _ hSr Try.underlying52 rfl hiS ?_)
                | (refine wpList_store_mid rfl 52 _ _ rfl _ 0 sc.toArray rfl rfl (there_newN _ _ _ hq17.symm) hiS2 hqs1 ?_))
              go_name_world w7 hw7
              obtain ⟨hB7, hSR7, hlt7, -⟩ := one_filled hw7 (by simpa using hq17)
              clear hw7 hSr
              have hRi := range_below hRi hB7 (by omega)
              have hki := hki.below hB7
              have hBi := hBi.trans (hB7.mono hbi)
              have hbi := hBi.size
              obtain ⟨s0, rS⟩ := pS w7 _ hSR7
              obtain ⟨r0, r1, r2, r3⟩ := pR w7 hRi
              clear hB7
              go_wp2_with fail
              refine (cO w7 hki).mono ?_
              rintro _ w8 ⟨rfl, hB8⟩
              have hSR7 := range_below hSR7 hB8 hlt7
              have hRi := range_below hRi hB8 (by omega)
              have hBi := hBi.trans (hB8.mono hbi)
              have hbi := hBi.size
              have hs8 := hB8.size
              clear hB8 cO s0 rS r0 r1 r2 r3
              go_upto_region 18 with (first
                | (refine wpList_store_mid rfl 31 _ _ rfl _ 0 u.toArray rfl rfl (two_thereA _ _ _ _ _ hu2.symm) hiV2 huo2 ?_)
                | (refine wpList_store_mid rfl 33 _ _ rfl _ 0 gt.toArray rfl rfl (two_thereB _ _ _ _ _ _ ht16.symm) hit2 hto ?_))
              go_name_world w9 hw9
              obtain ⟨hB9, hYv, hYt⟩ := two_filled2 hw9 (by simpa using hu2) (by simpa using ht16)
              clear hw9
              have hSR7 := range_below hSR7 hB9 (by omega)
              have hRi := range_below hRi hB9 (by omega)
              have hBi := hBi.trans (hB9.mono hbi)
              have hbi := hBi.size
              clear hB9
              obtain ⟨s0, rS⟩ := pS w9 _ hSR7
              obtain ⟨r0, r1, r2, r3⟩ := pR w9 hRi
              have hle : decide (sn ≤ ln) = false := decide_eq_false (by omega)
              have hle2 : ¬ sn ≤ ln := by omega
              try simp only [Act.put]
              refine wp_region_list ?_
              refine wpList_step fun K hK => ?_
              go_simp
              refine hK _ _ ?_
              clear hK K
              refine wpList_step fun K hK => ?_
              go_simp
              refine hK _ _ ?_
              clear hK K
              refine wpList_step fun K hK => ?_
              go_simp
              refine hK _ _ ?_
              clear hK K
              refine wpList_step fun K hK => ?_
              go_simp
              refine hK _ _ ?_
              clear hK K
              refine wpList_step fun K hK => ?_
              go_simp
              refine hK _ _ ?_
              clear hK K
              refine wpList_step fun K hK => ?_
              go_simp
              refine hK _ _ ?_
              clear hK K
              refine wpList_step fun K hK => ?_
              go_simp
              refine hK _ _ ?_
              clear hK K
              refine wpList_step fun K hK => ?_
              go_simp
              refine hK _ _ ?_
              clear hK K
              refine wpList_step fun K hK => ?_
              go_simp
              refine hK _ _ ?_
              clear hK K
              refine wpList_load_g (by rfl) 31 _ rfl _ _ rfl u _ hYv Try.underlying31 rfl hiV ?_
              refine wpList_step fun K hK => ?_
              go_simp
              refine hK _ _ ?_
              clear hK K
              refine wpList_load_g (by rfl) 31 _ rfl _ _ rfl u _ r2 Try.underlying31 rfl hiV ?_
              refine wpList_step fun K hK => ?_
              go_simp
              try rw [hneq]
              try go_simp
              refine hK _ _ ?_
              clear hK K
              refine wpList_step fun K hK => ?_
              go_simp
              refine hK _ _ ?_
              clear hK K
              refine wpList_step fun K hK => ?_
              go_simp
              refine hK _ _ ?_
              clear hK K
              refine wpList_load_g (by rfl) 33 _ rfl _ _ rfl gt _ hYt Try.underlying33 rfl hit ?_
              refine wpList_step fun K hK => ?_
              go_simp
              refine hK _ _ ?_
              clear hK K
              refine wpList_load_g (by rfl) 33 _ rfl _ _ rfl gt _ rS Try.underlying33 rfl hit ?_
              refine wpList_step fun K hK => ?_
              go_simp
              try rw [hneqt]
              try go_simp
              refine hK _ _ ?_
              clear hK K
              refine wpList_step fun K hK => ?_
              go_simp
              refine hK _ _ ?_
              clear hK K
              have HI := hide hBi
              clear hBi hYv hYt hRi hki hSR7
              go_wp2_with fail
              go_roundw
              case rel => exact ⟨j + 1, by omega, by go_num, by rw [HLS.out], HI⟩
              case measure => simp [intOf]; omega
            · obtain rfl : j = nd := by omega
              have HR : Hid (∃ st : List On, BookAt wr B b N st ∧ st.length ≤ i + 1 ∧ Below w.heap.size w wr) := hide ⟨st2, hk.below hBi, by omega, hBB.trans (hBi.mono hbs)⟩
              clear hk hBB hBi hR hsg hs36
              go_wp2_with fail
              go_roundw
              case rel => exact ⟨i + 1, by omega, by go_num, HR⟩
              case measure => simp [intOf]; omega
      · obtain rfl : i = ys.length := by omega
        have cL := lives_any wr
        have hbs := hBB.size
        go_wp2_with fail
        refine cL.mono ?_
        rintro _ w3 ⟨rfl, hB3⟩
        go_wp2_with fail
        go_ret
        exact ⟨rfl, hBB.trans (hB3.mono hbs)⟩
end Go.Proofs.Ytogmkcabndgllaa
