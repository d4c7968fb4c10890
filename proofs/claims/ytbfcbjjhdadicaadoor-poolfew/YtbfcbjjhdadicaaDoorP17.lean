/- the walk of PoolFew -/
import Derived.Test.YtbfcbjjhdadicaaDoorP16
namespace Go.Proofs.YtbfcbjjhdadicaaDoor
open Go.RowKit
open Sha Tal
theorem fld0 (v : Value) (w : World) : (Instr.field 54 (.agg #[.bool false, v]) 0).run Tryd.prog w = .ok (.bool false) w := by kernel_rfl
theorem umod16 (z : Int) : ∃ k : Nat, 1 ≤ k ∧ k ≤ 16 ∧ wrap64 (1 + wrap64 ((IntKind.u64.wrap z).tmod 16)) = (k : Int) := by
  rw [IntKind.wrap_u64]
  have h0 : 0 ≤ z % 18446744073709551616 := Int.emod_nonneg _ (by decide)
  generalize z % 18446744073709551616 = q at h0
  rw [Int.tmod_eq_emod_of_nonneg h0]
  have h1 := Int.emod_nonneg q (b := 16) (by omega)
  have h2 := Int.emod_lt_of_pos q (b := 16) (by omega)
  generalize q % 16 = r at h1 h2
  refine ⟨(1 + r).toNat, by omega, by omega, ?_⟩
  simp only [wrap64]
  omega
theorem flat_nodup {ls : List (List Rq)} (h : (flatP ls).Nodup) {l : List Rq} (hl : l ∈ ls) : (l.map pk).Nodup := by
  unfold flatP at h
  induction ls with
  | nil => cases hl
  | cons a ls ih =>
    rw [List.flatten_cons, List.map_append] at h
    have h2 := List.nodup_append.1 h
    rcases List.mem_cons.1 hl with rfl | hl
    · exact h2.1
    · exact ih h2.2.1 hl
theorem flat_take {ls : List (List Rq)} {b : Nat} {l : List Rq} (hl : ls[b]? = some l) : (flatP (ls.take b)).length + l.length = (flatP (ls.take (b + 1))).length := by
  have hb := (List.getElem?_eq_some_iff.1 hl).1
  have he : ls[b] = l := (List.getElem?_eq_some_iff.1 hl).2
  rw [List.take_succ_eq_append_getElem hb, he]
  simp [flatP]
theorem flat_take_le (ls : List (List Rq)) (b : Nat) : (flatP (ls.take b)).length ≤ (flatP ls).length := by
  have : ls = ls.take b ++ ls.drop b := (List.take_append_drop b ls).symm
  have e : (flatP ls).length = (flatP (ls.take b)).length + (flatP (ls.drop b)).length := by
    have := congrArg (fun x => (flatP x).length) this
    simp only [flatP, List.flatten_append, List.map_append, List.length_append] at this ⊢
    exact this
  omega
theorem nodup_ne {l : List Rq} (h : (l.map pk).Nodup) {i j : Nat} (hj : j < i) (hi : i < l.length) : pk l[i] ≠ pk (l[j]'(by omega)) := by
  intro he
  have := (List.getElem_inj (i := i) (j := j) (h₀ := by simpa using hi) (h₁ := by simp; omega) h).1 (by simpa using he)
  omega
theorem add_zero {room : Nat} {ls : List (List Rq)} {r : Rq} (h : addE room ls r = 0) : ¬ pk r ∈ flatP ls ∧ addL room ls r = ls.set (bkt ls.length r) (ls.getD (bkt ls.length r) [] ++ [r]) := by
  refine ⟨fun hm => ?_, by unfold addL; rw [if_pos h]⟩
  unfold addE at h
  split at h
  · omega
  · first | omega | (rw [if_pos hm] at h; omega)
theorem add_grow {room : Nat} {ls : List (List Rq)} {r : Rq} (hk : 0 < ls.length) (h : addE room ls r = 0) : (flatP (addL room ls r)).length = (flatP ls).length + 1 ∧ pk r ∈ flatP (addL room ls r) := by
  have hb := (bkt_lt r hk).1
  have hl : ls[bkt ls.length r]? = some (ls.getD (bkt ls.length r) []) := by simp [List.getD, hb]
  have hp := flat_perm hl r
  rw [(add_zero h).2]
  exact ⟨by rw [← hp.length_eq]; simp, hp.mem_iff.1 (by simp)⟩
set_option maxRecDepth 100000 in
set_option maxHeartbeats 8000000 in
theorem few_walk (z y : Int) (a : Option Addr) (cap : Nat) (As : List Ac) (w : World) (hrow : RowOf Ac.cells w a As) (hok : ∀ A ∈ As, A.ok w) (hG : Glob w) :
    Calls Tryd.prog 4 #[.int .i64 z, .int .i64 y, .slice a As.length cap] w fun e w' => e = .returned (.bool true) ∧ Below w.heap.size w w' := by
  go_enter Tryd.func4, Tryd.ntmps4
  go_upto_region 2 with fail
  obtain ⟨k, hk1, hk64, hke⟩ := umod64 z
  obtain ⟨M, hm1, hm16, hme⟩ := umod16 y
  rw [hke, hme]
  clear hke hme
  have cN := new_yes k M w (by omega) hk64 (by omega) hm16
  have h0 := pnew_in w k M (by omega) hk64 hm16
  obtain ⟨wa, hwa⟩ : ∃ wa, newW w k M = wa := ⟨_, rfl⟩
  rw [hwa] at cN h0
  obtain ⟨P0, hP0⟩ : ∃ P0, newPl w k = P0 := ⟨_, rfl⟩
  rw [hP0] at cN h0
  clear hwa hP0
  obtain ⟨q, hq⟩ : ∃ q, Hid (ptr P0 = .pointer (some q)) := ⟨_, hide rfl⟩
  rw [hq.out] at cN
  go_wp2_with fail
  refine cN.mono ?_
  rintro e w' ⟨rfl, hx⟩
  obtain rfl := hx.symm
  clear cN hx
  have cli := light10_any a cap As wa (hrow.below h0.b) (fun A hA => (hok A hA).below h0.b)
  go_wp2_with fail
  refine cli.mono ?_
  rintro e w2 (⟨rfl, hb2⟩ | ⟨rfl, hb2, hl200, hlA⟩)
  · have h2 := h0.below hb2
    have cL := lives_any w2 (hG.below h2.b)
    clear cli
    go_wp2_with fail
    refine cL.mono ?_
    rintro e w9 ⟨rfl, hb9⟩
    clear cL
    go_wp2_with fail
    go_ret
    exact ⟨rfl, h2.b.trans (hb9.mono h2.b.size)⟩
  · have h2 := h0.below hb2
    clear cli h0
    go_wp2_with fail
    go_loopw [59] (fun iv wr => ∃ (j : Nat) (Q : Pl) (ls : List (List Rq)), j ≤ As.length ∧ iv = .int .i64 (j : Int) ∧ Hid (ptr Q = .pointer (some q)) ∧ PoolIn w wr Q M ls ∧ ls.length = k) (fun iv _ => As.length - (intOf iv).toNat)
    case atStart => exact ⟨0, P0, List.replicate k [], by omega, rfl, hq, h2, by simp⟩
    case round =>
      clear h2 hq
      obtain ⟨j, Q2, ls, hj, rfl, hqQ, h3, hLen⟩ := hrel
      by_cases hlt2 : j < As.length
      · have j1 : (j : Int) < (As.length : Int) := by omega
        obtain ⟨ab, aoff, rfl, hab, hre⟩ := (hrow.below h3.b).elem (k := 24) (fun A hA => (hok A hA).length) j hlt2
        have hoW := hok _ (List.getElem_mem hlt2)
        generalize As[j] = A at *
        have hok0 := hok
        clear hok
        have hok := hoW.below h3.b
        have hiq : (Tryd.prog.info? 40).map (·.size) = some A.cells.length := by rw [hok.length]; exact iszA
        have hiA : (Tryd.prog.info? 40).map (·.size) = some A.cells.toArray.size := by rw [List.size_toArray, hok.length]; exact iszA
        have hN := act_blank hok.length wr
        have h1c := all_oneCell_toArray A.one
        have F := fresh_store wr #[.int .i64 0, .int .i64 0, .int .i64 0, .string ⟨#[]⟩, .int .u8 0, .int .u8 0, .int .u8 0, .int .u8 0, .int .u8 0, .int .u8 0, .int .u8 0, .int .u8 0, .int .u8 0, .int .u8 0, .int .u8 0, .int .u8 0, .int .u8 0, .int .u8 0, .int .u8 0, .int .u8 0, .slice none 0 0, .int .i64 0, .slice none 0 0, .slice none 0 0] 40 A.cells (by rw [hok.length]; rfl)
        obtain ⟨ua, hua⟩ : ∃ u, Hid (A.cells = u) := ⟨_, hide rfl⟩
        rw [hua.out] at hre hiq hiA hN h1c F
        clear hok0
        go_upto_region 7 with fail
        try simp only [Act.put]
        refine wp_region_list ?_
        refine wpList_step fun K hK => ?_
        go_simp
        refine hK _ _ ?_
        clear hK K
        refine wpList_load_mid rfl 40 _ rfl _ _ rfl ua _ hre Tryd.underlying40 rfl hiq ?_
        go_upto_region 8 with (refine wpList_store_mid (op := ⟨none, .store 40 (.tmp 12) (.tmp 62), _, _, _, none⟩) rfl 40 _ _ rfl _ _ ua.toArray rfl rfl hN hiA h1c ?_)
        go_name_world w3 hw3
        rw [show (wr.alloc (.cells #[.int .i64 0, .int .i64 0, .int .i64 0, .string ⟨#[]⟩, .int .u8 0, .int .u8 0, .int .u8 0, .int .u8 0, .int .u8 0, .int .u8 0, .int .u8 0, .int .u8 0, .int .u8 0, .int .u8 0, .int .u8 0, .int .u8 0, .int .u8 0, .int .u8 0, .int .u8 0, .int .u8 0, .slice none 0 0, .int .i64 0, .slice none 0 0, .slice none 0 0] 40)).setCells wr.heap.size 0 ua = w3 from hw3] at F
        clear hw3 hN
        obtain ⟨hR3, hF3, hz3, -⟩ := F
        rw [← hua.out] at hR3
        have h4 := h3.below hF3
        have hnX : ¬ Q2.own wr.heap.size := fun hx => Nat.lt_irrefl _ (h3.at_.R.own_lt hx)
        have ha := act_cells hok.r hR3
        simp only [Nat.zero_add] at ha
        obtain ⟨ca0, ca1, ca2, -, -, -, ca23⟩ := ha
        have cl0 := len_any Q2 M ls w3 h4.at_
        rw [hqQ.out] at cl0
        have hsm0 := h4.at_.small
        clear h3 hre hF3
        obtain ⟨WAS, hWAS⟩ : ∃ W : Nat, Hid ((flatP ls).length = W) := ⟨_, hide rfl⟩
        rw [hWAS.out] at cl0 hsm0
        go_wp2_with fail
        refine cl0.mono ?_
        rintro e w' ⟨rfl, hx⟩
        obtain rfl := hx.symm
        clear cl0 hx
        by_cases hk0 : A.kind = 0
        · rw [hk0] at ca0
          have hRr := act_req hR3
          have hiA2 := hok.r.isz
          have cA := fun W (h : PoolIn w W Q2 M ls) => padd_in h A.r hok.r hG
          simp only [hqQ.out] at cA
          have hX3 : wr.heap.size < w3.heap.size := by omega
          have hI : I64 A.r.c ∧ I64 A.r.n := ⟨⟨hok.r.cl, hok.r.ch⟩, ⟨hok.r.nl, hok.r.nh⟩⟩
          have chs := phas_any Q2 M ls A.r.c A.r.n hI.1 hI.2 w3 h4.at_
          rw [hqQ.out] at chs
          have hLen2 : (addL M ls A.r).length = k := by rw [← hLen]; unfold addL; split; simp; rfl
          obtain ⟨u2, hu2⟩ : ∃ u2, Hid (A.r.cells = u2) := ⟨_, hide rfl⟩
          rw [hu2.out] at hRr hiA2
          simp only [hu2.out] at cA
          by_cases hE : addE M ls A.r = 0
          · have hno := (add_zero hE).1
            have hgrow := add_grow (by omega) hE
            rw [decide_eq_false (show ¬ (A.r.c, A.r.n) ∈ flatP ls from hno)] at chs
            simp only [hE] at cA
            have HG1 : Hid ((flatP (addL M ls A.r)).length = WAS + 1) := hide (by rw [hgrow.1, hWAS.out])
            have HG2 : Hid (decide ((A.r.c, A.r.n) ∈ flatP (addL M ls A.r)) = true) := hide (decide_eq_true hgrow.2)
            generalize addL M ls A.r = ls2 at *
            clear hgrow hno hE hWAS
            go_wp2_with fail
            refine chs.mono ?_
            rintro e w4 ⟨rfl, hb4⟩
            have h4b := h4.below hb4
            have hRr4 := range_below hRr hb4 hX3
            have f1 := cell_at ca1 (hb4.block _ hX3)
            have f2 := cell_at ca2 (hb4.block _ hX3)
            have hX4 : wr.heap.size < w4.heap.size := Nat.lt_of_lt_of_le hX3 hb4.size
            have cA := cA w4 h4b
            clear chs
            go_upto_region 12 with fail
            refine wp_region_list ?_
            refine wpList_step fun K hK => ?_
            go_simp
            refine hK _ _ ?_
            clear hK K
            refine wpList_step fun K hK => ?_
            go_simp
            refine hK _ _ ?_
            clear hK K
            refine wpList_load_mid rfl 35 _ rfl _ _ rfl u2 _ hRr4 Tryd.underlying35 rfl hiA2 ?_
            go_wp2_with fail
            refine cA.mono ?_
            rintro e w5 ⟨rfl, Q3, hp3, h5, hoff5, -⟩
            have hq3 : Hid (ptr Q3 = .pointer (some q)) := hide hp3
            have g1 := cell_at f1 (hoff5.2 _ hX4 hnX)
            have g2 := cell_at f2 (hoff5.2 _ hX4 hnX)
            clear cA hp3 h4b hRr4 hRr f1 f2 h4 hqQ hLen ca1 ca2
            have cl := len_any Q3 M ls2 w5 h5.at_
            rw [hq3.out, HG1.out] at cl
            go_wp2_with fail
            refine cl.mono ?_
            rintro e w' ⟨rfl, hx⟩
            obtain rfl := hx.symm
            clear cl hx
            have ch := phas_any Q3 M ls2 A.r.c A.r.n hI.1 hI.2 w5 h5.at_
            rw [hq3.out, HG2.out] at ch
            go_wp2_with fail
            refine ch.mono ?_
            rintro e w5b ⟨rfl, hb5⟩
            have h5 := h5.below hb5
            clear ch hb5 g1 g2 HG1 HG2
            have hfld := fld0
            have hsm := h5.at_.small
            have hfew := h5.at_.R.few
            go_wp2_with fail
            go_loopw [16, 133] (fun nv iv wr => ∃ b N : Nat, b ≤ k ∧ iv = .int .i64 (b : Int) ∧ nv = .int .i64 (N : Int) ∧ Hid (N = (flatP (ls2.take b)).length) ∧ N ≤ 1024 ∧ PoolIn w wr Q3 M ls2) (fun _ iv _ => k - (intOf iv).toNat)
            case atStart => exact ⟨0, 0, by omega, rfl, rfl, hide (by simp [flatP]), by omega, h5⟩
            case round =>
              clear h5
              obtain ⟨b, N, hb, rfl, rfl, HN, hN, h5⟩ := hrel
              by_cases hltb : b < k
              · have kb : (b : Int) < (k : Int) := by omega
                have hbl : b < ls2.length := by omega
                obtain ⟨l, hl⟩ : ∃ l, ls2[b]? = some l := ⟨ls2[b], List.getElem?_eq_getElem hbl⟩
                have hinl : inL ls2 (b : Int) = l := by
                  unfold inL
                  rw [if_pos ⟨by omega, by omega⟩]
                  simp [List.getD, hl]
                have cIn := pin_any Q3 M ls2 (b : Int) wr h5.at_
                rw [hq3.out, hinl] at cIn
                have hlm : l.length ≤ M := hfew l (List.mem_of_getElem? hl)
                have hndl : (l.map pk).Nodup := flat_nodup h5.at_.nd (List.mem_of_getElem? hl)
                have hrk := h5.at_.R.rok l (List.mem_of_getElem? hl)
                have HN2 : Hid (N + l.length = (flatP (ls2.take (b + 1))).length) := hide (by rw [HN.out]; exact flat_take hl)
                have hN2 : N + l.length ≤ 1024 := by
                  rw [HN2.out]
                  exact Nat.le_trans (flat_take_le ls2 (b + 1)) hsm
                clear hinl HN
                go_wp2_with fail
                refine cIn.mono ?_
                rintro e w6 ⟨v, rfl, ho, hb6⟩
                have h6 := h5.below hb6
                obtain ⟨la, lcap, rfl, -, -, hRA, -⟩ := own_reqs0 ho hrk (by unfold maxLen; omega)
                clear cIn ho h5 hb6
                have hlI : ¬ (M : Int) < (l.length : Int) := by omega
                go_wp2_with fail
                go_loopw [154] (fun iv wr => ∃ i2 : Nat, i2 ≤ l.length ∧ iv = .int .i64 (i2 : Int) ∧ Below w6.heap.size w6 wr) (fun iv _ => l.length - (intOf iv).toNat)
                case atStart => exact ⟨0, by omega, rfl, Below.refl _ _⟩
                case round =>
                  obtain ⟨i2, hi2, rfl, hBi⟩ := hrel
                  by_cases hlti : i2 < l.length
                  · have ki : (i2 : Int) < (l.length : Int) := by omega
                    obtain ⟨wi, hwi⟩ : ∃ wi, wi = wr := ⟨_, rfl⟩
                    subst hwi
                    go_wp2_with fail
                    go_loopw [158] (fun iv wr => ∃ j2 : Nat, j2 ≤ i2 ∧ iv = .int .i64 (j2 : Int) ∧ Below wi.heap.size wi wr) (fun iv _ => i2 - (intOf iv).toNat)
                    case atStart => exact ⟨0, by omega, rfl, Below.refl _ _⟩
                    case round =>
                      obtain ⟨j2, hj2, rfl, hBj⟩ := hrel
                      by_cases hltj : j2 < i2
                      · have kj : (j2 : Int) < (i2 : Int) := by omega
                        have kjl : (j2 : Int) < (l.length : Int) := by omega
                        have hBr : Below w6.heap.size w6 wr := hBi.trans (hBj.mono hBi.size)
                        obtain ⟨rb, ro, rfl, hrb, hre1⟩ := (hRA.below hBr).elem i2 hlti
                        obtain ⟨rb2, ro2, he2, -, hre2⟩ := (hRA.below hBr).elem j2 (by omega)
                        cases he2
                        have hne := nodup_ne hndl hltj hlti
                        obtain ⟨r1, hr1⟩ : ∃ r1, Hid (l[i2] = r1) := ⟨_, hide rfl⟩
                        obtain ⟨r2, hr2⟩ : ∃ r2, Hid (l[j2] = r2) := ⟨_, hide rfl⟩
                        rw [hr1.out] at hre1 hne
                        rw [hr2.out] at hre2 hne
                        go_upto_region 31 with fail
                        obtain ⟨w8, hw8⟩ : ∃ w8, wr.drew = w8 := ⟨_, rfl⟩
                        have hB8 : Below wr.heap.size wr w8 := by rw [← hw8]; exact (Below.refl _ _).drew
                        have hB8' : Below wi.heap.size wi w8 := hBj.trans (hB8.mono hBj.size)
                        have hrb8 : rb < w8.heap.size := Nat.lt_of_lt_of_le hrb hB8.size
                        have a1 := range_below hre1 hB8 hrb
                        have a2 := range_below hre2 hB8 hrb
                        have c0 : ∀ w', Below w8.heap.size w8 w' → w'.cell? ⟨rb, ro + i2 * 19, none⟩ = some (.int .i64 r1.c) := fun w' hw' => (range_below a1 hw' hrb8) 0 _ rfl
                        have c1 : ∀ w', Below w8.heap.size w8 w' → w'.cell? ⟨rb, ro + i2 * 19 + 1, none⟩ = some (.int .i64 r1.n) := fun w' hw' => (range_below a1 hw' hrb8) 1 _ rfl
                        have e0 : ∀ w', Below w8.heap.size w8 w' → w'.cell? ⟨rb, ro + j2 * 19, none⟩ = some (.int .i64 r2.c) := fun w' hw' => (range_below a2 hw' hrb8) 0 _ rfl
                        have e1 : ∀ w', Below w8.heap.size w8 w' → w'.cell? ⟨rb, ro + j2 * 19 + 1, none⟩ = some (.int .i64 r2.n) := fun w' hw' => (range_below a2 hw' hrb8) 1 _ rfl
                        by_cases hcc : r1.c = r2.c
                        · have hnn : ¬ r1.n = r2.n := fun hx => hne (by unfold pk; rw [hcc, hx])
                          have hb1 : (r1.c == r2.c) = true := by simpa using hcc
                          have hb2 : (r1.n == r2.n) = false := by simpa using hnn
                          clear hcc hnn hne
                          refine hs_begin (S := (Below w8.heap.size w8)) 24 rfl (by kernel_rfl) ?_
                          rw [hw8]
                          clear hw8
                          have hS : (Below w8.heap.size w8) w8 := Below.refl _ _
                          refine hs_take (i := 0) (d := some 161) (v := ?_) rfl (by kernel_rfl) (by kernel_rfl) (by kernel_rfl) (by rfl) ?_ hS rfl ?_
                          rotate_left
                          · intro w' hw
                            go_simp
                            try with_reducible rfl
                          simp only [Act.put, List.setIfInBounds_toArray, List.set_cons_zero, List.set_cons_succ]
                          refine hs_take (i := 1) (d := some 162) (v := ?_) rfl (by kernel_rfl) (by kernel_rfl) (by kernel_rfl) (by rfl) ?_ hS rfl ?_
                          rotate_left
                          · intro w' hw
                            go_simp
                            try with_reducible rfl
                          simp only [Act.put, List.setIfInBounds_toArray, List.set_cons_zero, List.set_cons_succ]
                          refine hs_take (i := 2) (d := some 163) (v := ?_) rfl (by kernel_rfl) (by kernel_rfl) (by kernel_rfl) (by rfl) ?_ hS rfl ?_
                          rotate_left
                          · intro w' hw
                            go_simp
                            try with_reducible rfl
                          simp only [Act.put, List.setIfInBounds_toArray, List.set_cons_zero, List.set_cons_succ]
                          refine hs_take (i := 3) (d := some 164) (v := ?_) rfl (by kernel_rfl) (by kernel_rfl) (by kernel_rfl) (by rfl) ?_ hS rfl ?_
                          rotate_left
                          · intro w' hw
                            go_simp
                            try with_reducible rfl
                          simp only [Act.put, List.setIfInBounds_toArray, List.set_cons_zero, List.set_cons_succ]
                          refine hs_take (i := 4) (d := some 165) (v := ?_) rfl (by kernel_rfl) (by kernel_rfl) (by kernel_rfl) (by rfl) ?_ hS rfl ?_
                          rotate_left
                          · intro w' hw
                            have hc := c0 w' hw
                            go_simp
                            try with_reducible rfl
                          simp only [Act.put, List.setIfInBounds_toArray, List.set_cons_zero, List.set_cons_succ]
                          refine hs_take (i := 5) (d := some 166) (v := ?_) rfl (by kernel_rfl) (by kernel_rfl) (by kernel_rfl) (by rfl) ?_ hS rfl ?_
                          rotate_left
                          · intro w' hw
                            go_simp
                            try with_reducible rfl
                          simp only [Act.put, List.setIfInBounds_toArray, List.set_cons_zero, List.set_cons_succ]
                          refine hs_take (i := 6) (d := some 167) (v := ?_) rfl (by kernel_rfl) (by kernel_rfl) (by kernel_rfl) (by rfl) ?_ hS rfl ?_
                          rotate_left
                          · intro w' hw
                            go_simp
                            try with_reducible rfl
                          simp only [Act.put, List.setIfInBounds_toArray, List.set_cons_zero, List.set_cons_succ]
                          refine hs_take (i := 7) (d := some 168) (v := ?_) rfl (by kernel_rfl) (by kernel_rfl) (by kernel_rfl) (by rfl) ?_ hS rfl ?_
                          rotate_left
                          · intro w' hw
                            go_simp
                            try with_reducible rfl
                          simp only [Act.put, List.setIfInBounds_toArray, List.set_cons_zero, List.set_cons_succ]
                          refine hs_take (i := 8) (d := some 169) (v := ?_) rfl (by kernel_rfl) (by kernel_rfl) (by kernel_rfl) (by rfl) ?_ hS rfl ?_
                          rotate_left
                          · intro w' hw
                            go_simp
                            try with_reducible rfl
                          simp only [Act.put, List.setIfInBounds_toArray, List.set_cons_zero, List.set_cons_succ]
                          refine hs_take (i := 9) (d := some 170) (v := ?_) rfl (by kernel_rfl) (by kernel_rfl) (by kernel_rfl) (by rfl) ?_ hS rfl ?_
                          rotate_left
                          · intro w' hw
                            have hc := e0 w' hw
                            go_simp
                            try with_reducible rfl
                          simp only [Act.put, List.setIfInBounds_toArray, List.set_cons_zero, List.set_cons_succ]
                          refine hs_take (i := 10) (d := some 171) (v := .bool true) rfl (by kernel_rfl) (by kernel_rfl) (by kernel_rfl) (by rfl) (fun w' hw => by go_simp) hS rfl ?_
                          simp only [Act.put, List.setIfInBounds_toArray, List.set_cons_zero, List.set_cons_succ]
                          refine hs_take (i := 11) (d := some 172) (v := ?_) rfl (by kernel_rfl) (by kernel_rfl) (by kernel_rfl) (by rfl) ?_ hS rfl ?_
                          rotate_left
                          · intro w' hw
                            go_simp
                            try with_reducible rfl
                          simp only [Act.put, List.setIfInBounds_toArray, List.set_cons_zero, List.set_cons_succ]
                          refine hs_take (i := 12) (d := some 173) (v := ?_) rfl (by kernel_rfl) (by kernel_rfl) (by kernel_rfl) (by rfl) ?_ hS rfl ?_
                          rotate_left
                          · intro w' hw
                            go_simp
                            try with_reducible rfl
                          simp only [Act.put, List.setIfInBounds_toArray, List.set_cons_zero, List.set_cons_succ]
                          refine hs_take (i := 13) (d := some 174) (v := ?_) rfl (by kernel_rfl) (by kernel_rfl) (by kernel_rfl) (by rfl) ?_ hS rfl ?_
                          rotate_left
                          · intro w' hw
                            go_simp
                            try with_reducible rfl
                          simp only [Act.put, List.setIfInBounds_toArray, List.set_cons_zero, List.set_cons_succ]
                          refine hs_take (i := 14) (d := some 175) (v := ?_) rfl (by kernel_rfl) (by kernel_rfl) (by kernel_rfl) (by rfl) ?_ hS rfl ?_
                          rotate_left
                          · intro w' hw
                            go_simp
                            try with_reducible rfl
                          simp only [Act.put, List.setIfInBounds_toArray, List.set_cons_zero, List.set_cons_succ]
                          refine hs_take (i := 15) (d := some 176) (v := ?_) rfl (by kernel_rfl) (by kernel_rfl) (by kernel_rfl) (by rfl) ?_ hS rfl ?_
                          rotate_left
                          · intro w' hw
                            go_simp
                            try with_reducible rfl
                          simp only [Act.put, List.setIfInBounds_toArray, List.set_cons_zero, List.set_cons_succ]
                          refine hs_take (i := 16) (d := some 177) (v := ?_) rfl (by kernel_rfl) (by kernel_rfl) (by kernel_rfl) (by rfl) ?_ hS rfl ?_
                          rotate_left
                          · intro w' hw
                            have hc := c1 w' hw
                            go_simp
                            try with_reducible rfl
                          simp only [Act.put, List.setIfInBounds_toArray, List.set_cons_zero, List.set_cons_succ]
                          refine hs_take (i := 17) (d := some 178) (v := ?_) rfl (by kernel_rfl) (by kernel_rfl) (by kernel_rfl) (by rfl) ?_ hS rfl ?_
                          rotate_left
                          · intro w' hw
                            go_simp
                            try with_reducible rfl
                          simp only [Act.put, List.setIfInBounds_toArray, List.set_cons_zero, List.set_cons_succ]
                          refine hs_take (i := 18) (d := some 179) (v := ?_) rfl (by kernel_rfl) (by kernel_rfl) (by kernel_rfl) (by rfl) ?_ hS rfl ?_
                          rotate_left
                          · intro w' hw
                            go_simp
                            try with_reducible rfl
                          simp only [Act.put, List.setIfInBounds_toArray, List.set_cons_zero, List.set_cons_succ]
                          refine hs_take (i := 19) (d := some 180) (v := ?_) rfl (by kernel_rfl) (by kernel_rfl) (by kernel_rfl) (by rfl) ?_ hS rfl ?_
                          rotate_left
                          · intro w' hw
                            go_simp
                            try with_reducible rfl
                          simp only [Act.put, List.setIfInBounds_toArray, List.set_cons_zero, List.set_cons_succ]
                          refine hs_take (i := 20) (d := some 181) (v := ?_) rfl (by kernel_rfl) (by kernel_rfl) (by kernel_rfl) (by rfl) ?_ hS rfl ?_
                          rotate_left
                          · intro w' hw
                            go_simp
                            try with_reducible rfl
                          simp only [Act.put, List.setIfInBounds_toArray, List.set_cons_zero, List.set_cons_succ]
                          refine hs_take (i := 21) (d := some 182) (v := ?_) rfl (by kernel_rfl) (by kernel_rfl) (by kernel_rfl) (by rfl) ?_ hS rfl ?_
                          rotate_left
                          · intro w' hw
                            have hc := e1 w' hw
                            go_simp
                            try with_reducible rfl
                          simp only [Act.put, List.setIfInBounds_toArray, List.set_cons_zero, List.set_cons_succ]
                          refine hs_take (i := 22) (d := some 183) (v := .bool false) rfl (by kernel_rfl) (by kernel_rfl) (by kernel_rfl) (by rfl) (fun w' hw => by go_simp) hS rfl ?_
                          simp only [Act.put, List.setIfInBounds_toArray, List.set_cons_zero, List.set_cons_succ]
                          refine hs_take (i := 23) (d := some 184) (v := .bool false) rfl (by kernel_rfl) (by kernel_rfl) (by kernel_rfl) (by rfl) (fun w' hw => by go_simp) hS rfl ?_
                          simp only [Act.put, List.setIfInBounds_toArray, List.set_cons_zero, List.set_cons_succ]
                          refine hs_done (by kernel_rfl) ?_
                          go_wp2_with fail
                          go_roundw
                          case rel => exact ⟨j2 + 1, by omega, by go_num, hB8'⟩
                          case measure => simp [intOf]; omega
                        · have hb1 : (r1.c == r2.c) = false := by simpa using hcc
                          clear hcc hne
                          refine hs_begin (S := (Below w8.heap.size w8)) 24 rfl (by kernel_rfl) ?_
                          rw [hw8]
                          clear hw8
                          have hS : (Below w8.heap.size w8) w8 := Below.refl _ _
                          refine hs_take (i := 0) (d := some 161) (v := ?_) rfl (by kernel_rfl) (by kernel_rfl) (by kernel_rfl) (by rfl) ?_ hS rfl ?_
                          rotate_left
                          · intro w' hw
                            go_simp
                            try with_reducible rfl
                          simp only [Act.put, List.setIfInBounds_toArray, List.set_cons_zero, List.set_cons_succ]
                          refine hs_take (i := 1) (d := some 162) (v := ?_) rfl (by kernel_rfl) (by kernel_rfl) (by kernel_rfl) (by rfl) ?_ hS rfl ?_
                          rotate_left
                          · intro w' hw
                            go_simp
                            try with_reducible rfl
                          simp only [Act.put, List.setIfInBounds_toArray, List.set_cons_zero, List.set_cons_succ]
                          refine hs_take (i := 2) (d := some 163) (v := ?_) rfl (by kernel_rfl) (by kernel_rfl) (by kernel_rfl) (by rfl) ?_ hS rfl ?_
                          rotate_left
                          · intro w' hw
                            go_simp
                            try with_reducible rfl
                          simp only [Act.put, List.setIfInBounds_toArray, List.set_cons_zero, List.set_cons_succ]
                          refine hs_take (i := 3) (d := some 164) (v := ?_) rfl (by kernel_rfl) (by kernel_rfl) (by kernel_rfl) (by rfl) ?_ hS rfl ?_
                          rotate_left
                          · intro w' hw
                            go_simp
                            try with_reducible rfl
                          simp only [Act.put, List.setIfInBounds_toArray, List.set_cons_zero, List.set_cons_succ]
                          refine hs_take (i := 4) (d := some 165) (v := ?_) rfl (by kernel_rfl) (by kernel_rfl) (by kernel_rfl) (by rfl) ?_ hS rfl ?_
                          rotate_left
                          · intro w' hw
                            have hc := c0 w' hw
                            go_simp
                            try with_reducible rfl
                          simp only [Act.put, List.setIfInBounds_toArray, List.set_cons_zero, List.set_cons_succ]
                          refine hs_take (i := 5) (d := some 166) (v := ?_) rfl (by kernel_rfl) (by kernel_rfl) (by kernel_rfl) (by rfl) ?_ hS rfl ?_
                          rotate_left
                          · intro w' hw
                            go_simp
                            try with_reducible rfl
                          simp only [Act.put, List.setIfInBounds_toArray, List.set_cons_zero, List.set_cons_succ]
                          refine hs_take (i := 6) (d := some 167) (v := ?_) rfl (by kernel_rfl) (by kernel_rfl) (by kernel_rfl) (by rfl) ?_ hS rfl ?_
                          rotate_left
                          · intro w' hw
                            go_simp
                            try with_reducible rfl
                          simp only [Act.put, List.setIfInBounds_toArray, List.set_cons_zero, List.set_cons_succ]
                          refine hs_take (i := 7) (d := some 168) (v := ?_) rfl (by kernel_rfl) (by kernel_rfl) (by kernel_rfl) (by rfl) ?_ hS rfl ?_
                          rotate_left
                          · intro w' hw
                            go_simp
                            try with_reducible rfl
                          simp only [Act.put, List.setIfInBounds_toArray, List.set_cons_zero, List.set_cons_succ]
                          refine hs_take (i := 8) (d := some 169) (v := ?_) rfl (by kernel_rfl) (by kernel_rfl) (by kernel_rfl) (by rfl) ?_ hS rfl ?_
                          rotate_left
                          · intro w' hw
                            go_simp
                            try with_reducible rfl
                          simp only [Act.put, List.setIfInBounds_toArray, List.set_cons_zero, List.set_cons_succ]
                          refine hs_take (i := 9) (d := some 170) (v := ?_) rfl (by kernel_rfl) (by kernel_rfl) (by kernel_rfl) (by rfl) ?_ hS rfl ?_
                          rotate_left
                          · intro w' hw
                            have hc := e0 w' hw
                            go_simp
                            try with_reducible rfl
                          simp only [Act.put, List.setIfInBounds_toArray, List.set_cons_zero, List.set_cons_succ]
                          refine hs_take (i := 10) (d := some 171) (v := .bool false) rfl (by kernel_rfl) (by kernel_rfl) (by kernel_rfl) (by rfl) (fun w' hw => by go_simp) hS rfl ?_
                          simp only [Act.put, List.setIfInBounds_toArray, List.set_cons_zero, List.set_cons_succ]
                          refine hs_take (i := 11) (d := some 172) (v := ?_) rfl (by kernel_rfl) (by kernel_rfl) (by kernel_rfl) (by rfl) ?_ hS rfl ?_
                          rotate_left
                          · intro w' hw
                            go_simp
                            try with_reducible rfl
                          simp only [Act.put, List.setIfInBounds_toArray, List.set_cons_zero, List.set_cons_succ]
                          refine hs_skip (i := 12) (d := some 173) rfl (by kernel_rfl) (by kernel_rfl) (by kernel_rfl) (by rfl) hS rfl ?_
                          simp only [Act.put, List.setIfInBounds_toArray, List.set_cons_zero, List.set_cons_succ]
                          refine hs_skip (i := 13) (d := some 174) rfl (by kernel_rfl) (by kernel_rfl) (by kernel_rfl) (by rfl) hS rfl ?_
                          simp only [Act.put, List.setIfInBounds_toArray, List.set_cons_zero, List.set_cons_succ]
                          refine hs_skip (i := 14) (d := some 175) rfl (by kernel_rfl) (by kernel_rfl) (by kernel_rfl) (by rfl) hS rfl ?_
                          simp only [Act.put, List.setIfInBounds_toArray, List.set_cons_zero, List.set_cons_succ]
                          refine hs_skip (i := 15) (d := some 176) rfl (by kernel_rfl) (by kernel_rfl) (by kernel_rfl) (by rfl) hS rfl ?_
                          simp only [Act.put, List.setIfInBounds_toArray, List.set_cons_zero, List.set_cons_succ]
                          refine hs_skip (i := 16) (d := some 177) rfl (by kernel_rfl) (by kernel_rfl) (by kernel_rfl) (by rfl) hS rfl ?_
                          simp only [Act.put, List.setIfInBounds_toArray, List.set_cons_zero, List.set_cons_succ]
                          refine hs_skip (i := 17) (d := some 178) rfl (by kernel_rfl) (by kernel_rfl) (by kernel_rfl) (by rfl) hS rfl ?_
                          simp only [Act.put, List.setIfInBounds_toArray, List.set_cons_zero, List.set_cons_succ]
                          refine hs_skip (i := 18) (d := some 179) rfl (by kernel_rfl) (by kernel_rfl) (by kernel_rfl) (by rfl) hS rfl ?_
                          simp only [Act.put, List.setIfInBounds_toArray, List.set_cons_zero, List.set_cons_succ]
                          refine hs_skip (i := 19) (d := some 180) rfl (by kernel_rfl) (by kernel_rfl) (by kernel_rfl) (by rfl) hS rfl ?_
                          simp only [Act.put, List.setIfInBounds_toArray, List.set_cons_zero, List.set_cons_succ]
                          refine hs_skip (i := 20) (d := some 181) rfl (by kernel_rfl) (by kernel_rfl) (by kernel_rfl) (by rfl) hS rfl ?_
                          simp only [Act.put, List.setIfInBounds_toArray, List.set_cons_zero, List.set_cons_succ]
                          refine hs_skip (i := 21) (d := some 182) rfl (by kernel_rfl) (by kernel_rfl) (by kernel_rfl) (by rfl) hS rfl ?_
                          simp only [Act.put, List.setIfInBounds_toArray, List.set_cons_zero, List.set_cons_succ]
                          refine hs_skip (i := 22) (d := some 183) rfl (by kernel_rfl) (by kernel_rfl) (by kernel_rfl) (by rfl) hS rfl ?_
                          simp only [Act.put, List.setIfInBounds_toArray, List.set_cons_zero, List.set_cons_succ]
                          refine hs_take (i := 23) (d := some 184) (v := .bool false) rfl (by kernel_rfl) (by kernel_rfl) (by kernel_rfl) (by rfl) (fun w' hw => by go_simp) hS rfl ?_
                          simp only [Act.put, List.setIfInBounds_toArray, List.set_cons_zero, List.set_cons_succ]
                          refine hs_done (by kernel_rfl) ?_
                          go_wp2_with fail
                          go_roundw
                          case rel => exact ⟨j2 + 1, by omega, by go_num, hB8'⟩
                          case measure => simp [intOf]; omega
                      · have kj : ¬ (j2 : Int) < (i2 : Int) := by omega
                        go_wp2_with fail
                        go_roundw
                        case rel => exact ⟨i2 + 1, by omega, by go_num, hBi.trans (hBj.mono hBi.size)⟩
                        case measure => simp [intOf]; omega
                  · have ki : ¬ (i2 : Int) < (l.length : Int) := by omega
                    have h7 := h6.below hBi
                    go_wp2_with fail
                    go_roundw
                    case rel => exact ⟨b + 1, N + l.length, by omega, by go_num, by go_num, HN2, hN2, h7⟩
                    case measure => simp [intOf]; omega
              · have kb : ¬ (b : Int) < (k : Int) := by omega
                have HE : Hid ((flatP ls2).length = N) := hide (by rw [HN.out, List.take_of_length_le (by omega)])
                have cl := len_any Q3 M ls2 wr h5.at_
                rw [hq3.out, HE.out] at cl
                go_wp2_with fail
                refine cl.mono ?_
                rintro e w6 ⟨rfl, hx⟩
                obtain rfl := hx.symm
                clear cl hx
                go_wp2_with fail
                go_roundw
                case rel => exact ⟨j + 1, Q3, ls2, by omega, by go_num, hq3, h5, hLen2⟩
                case measure => simp [intOf]; omega
          · have hE2 : Hid (addL M ls A.r = ls) := hide (by unfold addL; rw [if_neg hE])
            obtain ⟨B, hB⟩ : ∃ B, Hid (decide ((A.r.c, A.r.n) ∈ flatP ls) = B) := ⟨_, hide rfl⟩
            rw [hB.out] at chs
            have HG1 : Hid ((flatP (addL M ls A.r)).length = WAS) := hide (by rw [hE2.out, hWAS.out])
            have HG2 : Hid (decide ((A.r.c, A.r.n) ∈ flatP (addL M ls A.r)) = B) := hide (by rw [← hB.out, hE2.out])
            have hb0 : (addE M ls A.r == 0) = false := by simpa using hE
            clear hE2 hB
            generalize addL M ls A.r = ls2 at *
            generalize addE M ls A.r = E at *
            clear hWAS
            go_wp2_with fail
            refine chs.mono ?_
            rintro e w4 ⟨rfl, hb4⟩
            have h4b := h4.below hb4
            have hRr4 := range_below hRr hb4 hX3
            have f1 := cell_at ca1 (hb4.block _ hX3)
            have f2 := cell_at ca2 (hb4.block _ hX3)
            have hX4 : wr.heap.size < w4.heap.size := Nat.lt_of_lt_of_le hX3 hb4.size
            have cA := cA w4 h4b
            clear chs
            go_upto_region 12 with fail
            refine wp_region_list ?_
            refine wpList_step fun K hK => ?_
            go_simp
            refine hK _ _ ?_
            clear hK K
            refine wpList_step fun K hK => ?_
            go_simp
            refine hK _ _ ?_
            clear hK K
            refine wpList_load_mid rfl 35 _ rfl _ _ rfl u2 _ hRr4 Tryd.underlying35 rfl hiA2 ?_
            go_wp2_with fail
            refine cA.mono ?_
            rintro e w5 ⟨rfl, Q3, hp3, h5, hoff5, -⟩
            have hq3 : Hid (ptr Q3 = .pointer (some q)) := hide hp3
            have g1 := cell_at f1 (hoff5.2 _ hX4 hnX)
            have g2 := cell_at f2 (hoff5.2 _ hX4 hnX)
            clear cA hp3 h4b hRr4 hRr f1 f2 h4 hqQ hLen ca1 ca2
            have cl := len_any Q3 M ls2 w5 h5.at_
            rw [hq3.out, HG1.out] at cl
            go_wp2_with fail
            refine cl.mono ?_
            rintro e w' ⟨rfl, hx⟩
            obtain rfl := hx.symm
            clear cl hx
            have ch := phas_any Q3 M ls2 A.r.c A.r.n hI.1 hI.2 w5 h5.at_
            rw [hq3.out, HG2.out] at ch
            go_wp2_with fail
            refine ch.mono ?_
            rintro e w5b ⟨rfl, hb5⟩
            have h5 := h5.below hb5
            clear ch hb5 g1 g2 HG1 HG2
            have hfld := fld0
            have hsm := h5.at_.small
            have hfew := h5.at_.R.few
            go_wp2_with fail
            go_loopw [16, 133] (fun nv iv wr => ∃ b N : Nat, b ≤ k ∧ iv = .int .i64 (b : Int) ∧ nv = .int .i64 (N : Int) ∧ Hid (N = (flatP (ls2.take b)).length) ∧ N ≤ 1024 ∧ PoolIn w wr Q3 M ls2) (fun _ iv _ => k - (intOf iv).toNat)
            case atStart => exact ⟨0, 0, by omega, rfl, rfl, hide (by simp [flatP]), by omega, h5⟩
            case round =>
              clear h5
              obtain ⟨b, N, hb, rfl, rfl, HN, hN, h5⟩ := hrel
              by_cases hltb : b < k
              · have kb : (b : Int) < (k : Int) := by omega
                have hbl : b < ls2.length := by omega
                obtain ⟨l, hl⟩ : ∃ l, ls2[b]? = some l := ⟨ls2[b], List.getElem?_eq_getElem hbl⟩
                have hinl : inL ls2 (b : Int) = l := by
                  unfold inL
                  rw [if_pos ⟨by omega, by omega⟩]
                  simp [List.getD, hl]
                have cIn := pin_any Q3 M ls2 (b : Int) wr h5.at_
                rw [hq3.out, hinl] at cIn
                have hlm : l.length ≤ M := hfew l (List.mem_of_getElem? hl)
                have hndl : (l.map pk).Nodup := flat_nodup h5.at_.nd (List.mem_of_getElem? hl)
                have hrk := h5.at_.R.rok l (List.mem_of_getElem? hl)
                have HN2 : Hid (N + l.length = (flatP (ls2.take (b + 1))).length) := hide (by rw [HN.out]; exact flat_take hl)
                have hN2 : N + l.length ≤ 1024 := by
                  rw [HN2.out]
                  exact Nat.le_trans (flat_take_le ls2 (b + 1)) hsm
                clear hinl HN
                go_wp2_with fail
                refine cIn.mono ?_
                rintro e w6 ⟨v, rfl, ho, hb6⟩
                have h6 := h5.below hb6
                obtain ⟨la, lcap, rfl, -, -, hRA, -⟩ := own_reqs0 ho hrk (by unfold maxLen; omega)
                clear cIn ho h5 hb6
                have hlI : ¬ (M : Int) < (l.length : Int) := by omega
                go_wp2_with fail
                go_loopw [154] (fun iv wr => ∃ i2 : Nat, i2 ≤ l.length ∧ iv = .int .i64 (i2 : Int) ∧ Below w6.heap.size w6 wr) (fun iv _ => l.length - (intOf iv).toNat)
                case atStart => exact ⟨0, by omega, rfl, Below.refl _ _⟩
                case round =>
                  obtain ⟨i2, hi2, rfl, hBi⟩ := hrel
                  by_cases hlti : i2 < l.length
                  · have ki : (i2 : Int) < (l.length : Int) := by omega
                    obtain ⟨wi, hwi⟩ : ∃ wi, wi = wr := ⟨_, rfl⟩
                    subst hwi
                    go_wp2_with fail
                    go_loopw [158] (fun iv wr => ∃ j2 : Nat, j2 ≤ i2 ∧ iv = .int .i64 (j2 : Int) ∧ Below wi.heap.size wi wr) (fun iv _ => i2 - (intOf iv).toNat)
                    case atStart => exact ⟨0, by omega, rfl, Below.refl _ _⟩
                    case round =>
                      obtain ⟨j2, hj2, rfl, hBj⟩ := hrel
                      by_cases hltj : j2 < i2
                      · have kj : (j2 : Int) < (i2 : Int) := by omega
                        have kjl : (j2 : Int) < (l.length : Int) := by omega
                        have hBr : Below w6.heap.size w6 wr := hBi.trans (hBj.mono hBi.size)
                        obtain ⟨rb, ro, rfl, hrb, hre1⟩ := (hRA.below hBr).elem i2 hlti
                        obtain ⟨rb2, ro2, he2, -, hre2⟩ := (hRA.below hBr).elem j2 (by omega)
                        cases he2
                        have hne := nodup_ne hndl hltj hlti
                        obtain ⟨r1, hr1⟩ : ∃ r1, Hid (l[i2] = r1) := ⟨_, hide rfl⟩
                        obtain ⟨r2, hr2⟩ : ∃ r2, Hid (l[j2] = r2) := ⟨_, hide rfl⟩
                        rw [hr1.out] at hre1 hne
                        rw [hr2.out] at hre2 hne
                        go_upto_region 31 with fail
                        obtain ⟨w8, hw8⟩ : ∃ w8, wr.drew = w8 := ⟨_, rfl⟩
                        have hB8 : Below wr.heap.size wr w8 := by rw [← hw8]; exact (Below.refl _ _).drew
                        have hB8' : Below wi.heap.size wi w8 := hBj.trans (hB8.mono hBj.size)
                        have hrb8 : rb < w8.heap.size := Nat.lt_of_lt_of_le hrb hB8.size
                        have a1 := range_below hre1 hB8 hrb
                        have a2 := range_below hre2 hB8 hrb
                        have c0 : ∀ w', Below w8.heap.size w8 w' → w'.cell? ⟨rb, ro + i2 * 19, none⟩ = some (.int .i64 r1.c) := fun w' hw' => (range_below a1 hw' hrb8) 0 _ rfl
                        have c1 : ∀ w', Below w8.heap.size w8 w' → w'.cell? ⟨rb, ro + i2 * 19 + 1, none⟩ = some (.int .i64 r1.n) := fun w' hw' => (range_below a1 hw' hrb8) 1 _ rfl
                        have e0 : ∀ w', Below w8.heap.size w8 w' → w'.cell? ⟨rb, ro + j2 * 19, none⟩ = some (.int .i64 r2.c) := fun w' hw' => (range_below a2 hw' hrb8) 0 _ rfl
                        have e1 : ∀ w', Below w8.heap.size w8 w' → w'.cell? ⟨rb, ro + j2 * 19 + 1, none⟩ = some (.int .i64 r2.n) := fun w' hw' => (range_below a2 hw' hrb8) 1 _ rfl
                        by_cases hcc : r1.c = r2.c
                        · have hnn : ¬ r1.n = r2.n := fun hx => hne (by unfold pk; rw [hcc, hx])
                          have hb1 : (r1.c == r2.c) = true := by simpa using hcc
                          have hb2 : (r1.n == r2.n) = false := by simpa using hnn
                          clear hcc hnn hne
                          refine hs_begin (S := (Below w8.heap.size w8)) 24 rfl (by kernel_rfl) ?_
                          rw [hw8]
                          clear hw8
                          have hS : (Below w8.heap.size w8) w8 := Below.refl _ _
                          refine hs_take (i := 0) (d := some 161) (v := ?_) rfl (by kernel_rfl) (by kernel_rfl) (by kernel_rfl) (by rfl) ?_ hS rfl ?_
                          rotate_left
                          · intro w' hw
                            go_simp
                            try with_reducible rfl
                          simp only [Act.put, List.setIfInBounds_toArray, List.set_cons_zero, List.set_cons_succ]
                          refine hs_take (i := 1) (d := some 162) (v := ?_) rfl (by kernel_rfl) (by kernel_rfl) (by kernel_rfl) (by rfl) ?_ hS rfl ?_
                          rotate_left
                          · intro w' hw
                            go_simp
                            try with_reducible rfl
                          simp only [Act.put, List.setIfInBounds_toArray, List.set_cons_zero, List.set_cons_succ]
                          refine hs_take (i := 2) (d := some 163) (v := ?_) rfl (by kernel_rfl) (by kernel_rfl) (by kernel_rfl) (by rfl) ?_ hS rfl ?_
                          rotate_left
                          · intro w' hw
                            go_simp
                            try with_reducible rfl
                          simp only [Act.put, List.setIfInBounds_toArray, List.set_cons_zero, List.set_cons_succ]
                          refine hs_take (i := 3) (d := some 164) (v := ?_) rfl (by kernel_rfl) (by kernel_rfl) (by kernel_rfl) (by rfl) ?_ hS rfl ?_
                          rotate_left
                          · intro w' hw
                            go_simp
                            try with_reducible rfl
                          simp only [Act.put, List.setIfInBounds_toArray, List.set_cons_zero, List.set_cons_succ]
                          refine hs_take (i := 4) (d := some 165) (v := ?_) rfl (by kernel_rfl) (by kernel_rfl) (by kernel_rfl) (by rfl) ?_ hS rfl ?_
                          rotate_left
                          · intro w' hw
                            have hc := c0 w' hw
                            go_simp
                            try with_reducible rfl
                          simp only [Act.put, List.setIfInBounds_toArray, List.set_cons_zero, List.set_cons_succ]
                          refine hs_take (i := 5) (d := some 166) (v := ?_) rfl (by kernel_rfl) (by kernel_rfl) (by kernel_rfl) (by rfl) ?_ hS rfl ?_
                          rotate_left
                          · intro w' hw
                            go_simp
                            try with_reducible rfl
                          simp only [Act.put, List.setIfInBounds_toArray, List.set_cons_zero, List.set_cons_succ]
                          refine hs_take (i := 6) (d := some 167) (v := ?_) rfl (by kernel_rfl) (by kernel_rfl) (by kernel_rfl) (by rfl) ?_ hS rfl ?_
                          rotate_left
                          · intro w' hw
                            go_simp
                            try with_reducible rfl
                          simp only [Act.put, List.setIfInBounds_toArray, List.set_cons_zero, List.set_cons_succ]
                          refine hs_take (i := 7) (d := some 168) (v := ?_) rfl (by kernel_rfl) (by kernel_rfl) (by kernel_rfl) (by rfl) ?_ hS rfl ?_
                          rotate_left
                          · intro w' hw
                            go_simp
                            try with_reducible rfl
                          simp only [Act.put, List.setIfInBounds_toArray, List.set_cons_zero, List.set_cons_succ]
                          refine hs_take (i := 8) (d := some 169) (v := ?_) rfl (by kernel_rfl) (by kernel_rfl) (by kernel_rfl) (by rfl) ?_ hS rfl ?_
                          rotate_left
                          · intro w' hw
                            go_simp
                            try with_reducible rfl
                          simp only [Act.put, List.setIfInBounds_toArray, List.set_cons_zero, List.set_cons_succ]
                          refine hs_take (i := 9) (d := some 170) (v := ?_) rfl (by kernel_rfl) (by kernel_rfl) (by kernel_rfl) (by rfl) ?_ hS rfl ?_
                          rotate_left
                          · intro w' hw
                            have hc := e0 w' hw
                            go_simp
                            try with_reducible rfl
                          simp only [Act.put, List.setIfInBounds_toArray, List.set_cons_zero, List.set_cons_succ]
                          refine hs_take (i := 10) (d := some 171) (v := .bool true) rfl (by kernel_rfl) (by kernel_rfl) (by kernel_rfl) (by rfl) (fun w' hw => by go_simp) hS rfl ?_
                          simp only [Act.put, List.setIfInBounds_toArray, List.set_cons_zero, List.set_cons_succ]
                          refine hs_take (i := 11) (d := some 172) (v := ?_) rfl (by kernel_rfl) (by kernel_rfl) (by kernel_rfl) (by rfl) ?_ hS rfl ?_
                          rotate_left
                          · intro w' hw
                            go_simp
                            try with_reducible rfl
                          simp only [Act.put, List.setIfInBounds_toArray, List.set_cons_zero, List.set_cons_succ]
                          refine hs_take (i := 12) (d := some 173) (v := ?_) rfl (by kernel_rfl) (by kernel_rfl) (by kernel_rfl) (by rfl) ?_ hS rfl ?_
                          rotate_left
                          · intro w' hw
                            go_simp
                            try with_reducible rfl
                          simp only [Act.put, List.setIfInBounds_toArray, List.set_cons_zero, List.set_cons_succ]
                          refine hs_take (i := 13) (d := some 174) (v := ?_) rfl (by kernel_rfl) (by kernel_rfl) (by kernel_rfl) (by rfl) ?_ hS rfl ?_
                          rotate_left
                          · intro w' hw
                            go_simp
                            try with_reducible rfl
                          simp only [Act.put, List.setIfInBounds_toArray, List.set_cons_zero, List.set_cons_succ]
                          refine hs_take (i := 14) (d := some 175) (v := ?_) rfl (by kernel_rfl) (by kernel_rfl) (by kernel_rfl) (by rfl) ?_ hS rfl ?_
                          rotate_left
                          · intro w' hw
                            go_simp
                            try with_reducible rfl
                          simp only [Act.put, List.setIfInBounds_toArray, List.set_cons_zero, List.set_cons_succ]
                          refine hs_take (i := 15) (d := some 176) (v := ?_) rfl (by kernel_rfl) (by kernel_rfl) (by kernel_rfl) (by rfl) ?_ hS rfl ?_
                          rotate_left
                          · intro w' hw
                            go_simp
                            try with_reducible rfl
                          simp only [Act.put, List.setIfInBounds_toArray, List.set_cons_zero, List.set_cons_succ]
                          refine hs_take (i := 16) (d := some 177) (v := ?_) rfl (by kernel_rfl) (by kernel_rfl) (by kernel_rfl) (by rfl) ?_ hS rfl ?_
                          rotate_left
                          · intro w' hw
                            have hc := c1 w' hw
                            go_simp
                            try with_reducible rfl
                          simp only [Act.put, List.setIfInBounds_toArray, List.set_cons_zero, List.set_cons_succ]
                          refine hs_take (i := 17) (d := some 178) (v := ?_) rfl (by kernel_rfl) (by kernel_rfl) (by kernel_rfl) (by rfl) ?_ hS rfl ?_
                          rotate_left
                          · intro w' hw
                            go_simp
                            try with_reducible rfl
                          simp only [Act.put, List.setIfInBounds_toArray, List.set_cons_zero, List.set_cons_succ]
                          refine hs_take (i := 18) (d := some 179) (v := ?_) rfl (by kernel_rfl) (by kernel_rfl) (by kernel_rfl) (by rfl) ?_ hS rfl ?_
                          rotate_left
                          · intro w' hw
                            go_simp
                            try with_reducible rfl
                          simp only [Act.put, List.setIfInBounds_toArray, List.set_cons_zero, List.set_cons_succ]
                          refine hs_take (i := 19) (d := some 180) (v := ?_) rfl (by kernel_rfl) (by kernel_rfl) (by kernel_rfl) (by rfl) ?_ hS rfl ?_
                          rotate_left
                          · intro w' hw
                            go_simp
                            try with_reducible rfl
                          simp only [Act.put, List.setIfInBounds_toArray, List.set_cons_zero, List.set_cons_succ]
                          refine hs_take (i := 20) (d := some 181) (v := ?_) rfl (by kernel_rfl) (by kernel_rfl) (by kernel_rfl) (by rfl) ?_ hS rfl ?_
                          rotate_left
                          · intro w' hw
                            go_simp
                            try with_reducible rfl
                          simp only [Act.put, List.setIfInBounds_toArray, List.set_cons_zero, List.set_cons_succ]
                          refine hs_take (i := 21) (d := some 182) (v := ?_) rfl (by kernel_rfl) (by kernel_rfl) (by kernel_rfl) (by rfl) ?_ hS rfl ?_
                          rotate_left
                          · intro w' hw
                            have hc := e1 w' hw
                            go_simp
                            try with_reducible rfl
                          simp only [Act.put, List.setIfInBounds_toArray, List.set_cons_zero, List.set_cons_succ]
                          refine hs_take (i := 22) (d := some 183) (v := .bool false) rfl (by kernel_rfl) (by kernel_rfl) (by kernel_rfl) (by rfl) (fun w' hw => by go_simp) hS rfl ?_
                          simp only [Act.put, List.setIfInBounds_toArray, List.set_cons_zero, List.set_cons_succ]
                          refine hs_take (i := 23) (d := some 184) (v := .bool false) rfl (by kernel_rfl) (by kernel_rfl) (by kernel_rfl) (by rfl) (fun w' hw => by go_simp) hS rfl ?_
                          simp only [Act.put, List.setIfInBounds_toArray, List.set_cons_zero, List.set_cons_succ]
                          refine hs_done (by kernel_rfl) ?_
                          go_wp2_with fail
                          go_roundw
                          case rel => exact ⟨j2 + 1, by omega, by go_num, hB8'⟩
                          case measure => simp [intOf]; omega
                        · have hb1 : (r1.c == r2.c) = false := by simpa using hcc
                          clear hcc hne
                          refine hs_begin (S := (Below w8.heap.size w8)) 24 rfl (by kernel_rfl) ?_
                          rw [hw8]
                          clear hw8
                          have hS : (Below w8.heap.size w8) w8 := Below.refl _ _
                          refine hs_take (i := 0) (d := some 161) (v := ?_) rfl (by kernel_rfl) (by kernel_rfl) (by kernel_rfl) (by rfl) ?_ hS rfl ?_
                          rotate_left
                          · intro w' hw
                            go_simp
                            try with_reducible rfl
                          simp only [Act.put, List.setIfInBounds_toArray, List.set_cons_zero, List.set_cons_succ]
                          refine hs_take (i := 1) (d := some 162) (v := ?_) rfl (by kernel_rfl) (by kernel_rfl) (by kernel_rfl) (by rfl) ?_ hS rfl ?_
                          rotate_left
                          · intro w' hw
                            go_simp
                            try with_reducible rfl
                          simp only [Act.put, List.setIfInBounds_toArray, List.set_cons_zero, List.set_cons_succ]
                          refine hs_take (i := 2) (d := some 163) (v := ?_) rfl (by kernel_rfl) (by kernel_rfl) (by kernel_rfl) (by rfl) ?_ hS rfl ?_
                          rotate_left
                          · intro w' hw
                            go_simp
                            try with_reducible rfl
                          simp only [Act.put, List.setIfInBounds_toArray, List.set_cons_zero, List.set_cons_succ]
                          refine hs_take (i := 3) (d := some 164) (v := ?_) rfl (by kernel_rfl) (by kernel_rfl) (by kernel_rfl) (by rfl) ?_ hS rfl ?_
                          rotate_left
                          · intro w' hw
                            go_simp
                            try with_reducible rfl
                          simp only [Act.put, List.setIfInBounds_toArray, List.set_cons_zero, List.set_cons_succ]
                          refine hs_take (i := 4) (d := some 165) (v := ?_) rfl (by kernel_rfl) (by kernel_rfl) (by kernel_rfl) (by rfl) ?_ hS rfl ?_
                          rotate_left
                          · intro w' hw
                            have hc := c0 w' hw
                            go_simp
                            try with_reducible rfl
                          simp only [Act.put, List.setIfInBounds_toArray, List.set_cons_zero, List.set_cons_succ]
                          refine hs_take (i := 5) (d := some 166) (v := ?_) rfl (by kernel_rfl) (by kernel_rfl) (by kernel_rfl) (by rfl) ?_ hS rfl ?_
                          rotate_left
                          · intro w' hw
                            go_simp
                            try with_reducible rfl
                          simp only [Act.put, List.setIfInBounds_toArray, List.set_cons_zero, List.set_cons_succ]
                          refine hs_take (i := 6) (d := some 167) (v := ?_) rfl (by kernel_rfl) (by kernel_rfl) (by kernel_rfl) (by rfl) ?_ hS rfl ?_
                          rotate_left
                          · intro w' hw
                            go_simp
                            try with_reducible rfl
                          simp only [Act.put, List.setIfInBounds_toArray, List.set_cons_zero, List.set_cons_succ]
                          refine hs_take (i := 7) (d := some 168) (v := ?_) rfl (by kernel_rfl) (by kernel_rfl) (by kernel_rfl) (by rfl) ?_ hS rfl ?_
                          rotate_left
                          · intro w' hw
                            go_simp
                            try with_reducible rfl
                          simp only [Act.put, List.setIfInBounds_toArray, List.set_cons_zero, List.set_cons_succ]
                          refine hs_take (i := 8) (d := some 169) (v := ?_) rfl (by kernel_rfl) (by kernel_rfl) (by kernel_rfl) (by rfl) ?_ hS rfl ?_
                          rotate_left
                          · intro w' hw
                            go_simp
                            try with_reducible rfl
                          simp only [Act.put, List.setIfInBounds_toArray, List.set_cons_zero, List.set_cons_succ]
                          refine hs_take (i := 9) (d := some 170) (v := ?_) rfl (by kernel_rfl) (by kernel_rfl) (by kernel_rfl) (by rfl) ?_ hS rfl ?_
                          rotate_left
                          · intro w' hw
                            have hc := e0 w' hw
                            go_simp
                            try with_reducible rfl
                          simp only [Act.put, List.setIfInBounds_toArray, List.set_cons_zero, List.set_cons_succ]
                          refine hs_take (i := 10) (d := some 171) (v := .bool false) rfl (by kernel_rfl) (by kernel_rfl) (by kernel_rfl) (by rfl) (fun w' hw => by go_simp) hS rfl ?_
                          simp only [Act.put, List.setIfInBounds_toArray, List.set_cons_zero, List.set_cons_succ]
                          refine hs_take (i := 11) (d := some 172) (v := ?_) rfl (by kernel_rfl) (by kernel_rfl) (by kernel_rfl) (by rfl) ?_ hS rfl ?_
                          rotate_left
                          · intro w' hw
                            go_simp
                            try with_reducible rfl
                          simp only [Act.put, List.setIfInBounds_toArray, List.set_cons_zero, List.set_cons_succ]
                          refine hs_skip (i := 12) (d := some 173) rfl (by kernel_rfl) (by kernel_rfl) (by kernel_rfl) (by rfl) hS rfl ?_
                          simp only [Act.put, List.setIfInBounds_toArray, List.set_cons_zero, List.set_cons_succ]
                          refine hs_skip (i := 13) (d := some 174) rfl (by kernel_rfl) (by kernel_rfl) (by kernel_rfl) (by rfl) hS rfl ?_
                          simp only [Act.put, List.setIfInBounds_toArray, List.set_cons_zero, List.set_cons_succ]
                          refine hs_skip (i := 14) (d := some 175) rfl (by kernel_rfl) (by kernel_rfl) (by kernel_rfl) (by rfl) hS rfl ?_
                          simp only [Act.put, List.setIfInBounds_toArray, List.set_cons_zero, List.set_cons_succ]
                          refine hs_skip (i := 15) (d := some 176) rfl (by kernel_rfl) (by kernel_rfl) (by kernel_rfl) (by rfl) hS rfl ?_
                          simp only [Act.put, List.setIfInBounds_toArray, List.set_cons_zero, List.set_cons_succ]
                          refine hs_skip (i := 16) (d := some 177) rfl (by kernel_rfl) (by kernel_rfl) (by kernel_rfl) (by rfl) hS rfl ?_
                          simp only [Act.put, List.setIfInBounds_toArray, List.set_cons_zero, List.set_cons_succ]
                          refine hs_skip (i := 17) (d := some 178) rfl (by kernel_rfl) (by kernel_rfl) (by kernel_rfl) (by rfl) hS rfl ?_
                          simp only [Act.put, List.setIfInBounds_toArray, List.set_cons_zero, List.set_cons_succ]
                          refine hs_skip (i := 18) (d := some 179) rfl (by kernel_rfl) (by kernel_rfl) (by kernel_rfl) (by rfl) hS rfl ?_
                          simp only [Act.put, List.setIfInBounds_toArray, List.set_cons_zero, List.set_cons_succ]
                          refine hs_skip (i := 19) (d := some 180) rfl (by kernel_rfl) (by kernel_rfl) (by kernel_rfl) (by rfl) hS rfl ?_
                          simp only [Act.put, List.setIfInBounds_toArray, List.set_cons_zero, List.set_cons_succ]
                          refine hs_skip (i := 20) (d := some 181) rfl (by kernel_rfl) (by kernel_rfl) (by kernel_rfl) (by rfl) hS rfl ?_
                          simp only [Act.put, List.setIfInBounds_toArray, List.set_cons_zero, List.set_cons_succ]
                          refine hs_skip (i := 21) (d := some 182) rfl (by kernel_rfl) (by kernel_rfl) (by kernel_rfl) (by rfl) hS rfl ?_
                          simp only [Act.put, List.setIfInBounds_toArray, List.set_cons_zero, List.set_cons_succ]
                          refine hs_skip (i := 22) (d := some 183) rfl (by kernel_rfl) (by kernel_rfl) (by kernel_rfl) (by rfl) hS rfl ?_
                          simp only [Act.put, List.setIfInBounds_toArray, List.set_cons_zero, List.set_cons_succ]
                          refine hs_take (i := 23) (d := some 184) (v := .bool false) rfl (by kernel_rfl) (by kernel_rfl) (by kernel_rfl) (by rfl) (fun w' hw => by go_simp) hS rfl ?_
                          simp only [Act.put, List.setIfInBounds_toArray, List.set_cons_zero, List.set_cons_succ]
                          refine hs_done (by kernel_rfl) ?_
                          go_wp2_with fail
                          go_roundw
                          case rel => exact ⟨j2 + 1, by omega, by go_num, hB8'⟩
                          case measure => simp [intOf]; omega
                      · have kj : ¬ (j2 : Int) < (i2 : Int) := by omega
                        go_wp2_with fail
                        go_roundw
                        case rel => exact ⟨i2 + 1, by omega, by go_num, hBi.trans (hBj.mono hBi.size)⟩
                        case measure => simp [intOf]; omega
                  · have ki : ¬ (i2 : Int) < (l.length : Int) := by omega
                    have h7 := h6.below hBi
                    go_wp2_with fail
                    go_roundw
                    case rel => exact ⟨b + 1, N + l.length, by omega, by go_num, by go_num, HN2, hN2, h7⟩
                    case measure => simp [intOf]; omega
              · have kb : ¬ (b : Int) < (k : Int) := by omega
                have HE : Hid ((flatP ls2).length = N) := hide (by rw [HN.out, List.take_of_length_le (by omega)])
                have cl := len_any Q3 M ls2 wr h5.at_
                rw [hq3.out, HE.out] at cl
                go_wp2_with fail
                refine cl.mono ?_
                rintro e w6 ⟨rfl, hx⟩
                obtain rfl := hx.symm
                clear cl hx
                go_wp2_with fail
                go_roundw
                case rel => exact ⟨j + 1, Q3, ls2, by omega, by go_num, hq3, h5, hLen2⟩
                case measure => simp [intOf]; omega
        · by_cases hk2 : A.kind = 2
          · rw [hk2] at ca0
            have cS := psweep_in h4 (cap := A.wc) hoW.w hoW.wo
            have hLen2 : (ls.map (List.filter (leftR A.ws))).length = k := by rw [List.length_map]; exact hLen
            rw [hqQ.out] at cS
            generalize ls.map (List.filter (leftR A.ws)) = ls2 at *
            clear hLen
            go_wp2_with fail
            refine cS.mono ?_
            rintro e w5 ⟨N0, rfl, -, Q3, hp3, h5, -, -⟩
            have hq3 : Hid (ptr Q3 = .pointer (some q)) := hide hp3
            clear cS hp3 h4 hqQ hWAS
            have hfld := fld0
            have hsm := h5.at_.small
            have hfew := h5.at_.R.few
            go_wp2_with fail
            go_loopw [16, 133] (fun nv iv wr => ∃ b N : Nat, b ≤ k ∧ iv = .int .i64 (b : Int) ∧ nv = .int .i64 (N : Int) ∧ Hid (N = (flatP (ls2.take b)).length) ∧ N ≤ 1024 ∧ PoolIn w wr Q3 M ls2) (fun _ iv _ => k - (intOf iv).toNat)
            case atStart => exact ⟨0, 0, by omega, rfl, rfl, hide (by simp [flatP]), by omega, h5⟩
            case round =>
              clear h5
              obtain ⟨b, N, hb, rfl, rfl, HN, hN, h5⟩ := hrel
              by_cases hltb : b < k
              · have kb : (b : Int) < (k : Int) := by omega
                have hbl : b < ls2.length := by omega
                obtain ⟨l, hl⟩ : ∃ l, ls2[b]? = some l := ⟨ls2[b], List.getElem?_eq_getElem hbl⟩
                have hinl : inL ls2 (b : Int) = l := by
                  unfold inL
                  rw [if_pos ⟨by omega, by omega⟩]
                  simp [List.getD, hl]
                have cIn := pin_any Q3 M ls2 (b : Int) wr h5.at_
                rw [hq3.out, hinl] at cIn
                have hlm : l.length ≤ M := hfew l (List.mem_of_getElem? hl)
                have hndl : (l.map pk).Nodup := flat_nodup h5.at_.nd (List.mem_of_getElem? hl)
                have hrk := h5.at_.R.rok l (List.mem_of_getElem? hl)
                have HN2 : Hid (N + l.length = (flatP (ls2.take (b + 1))).length) := hide (by rw [HN.out]; exact flat_take hl)
                have hN2 : N + l.length ≤ 1024 := by
                  rw [HN2.out]
                  exact Nat.le_trans (flat_take_le ls2 (b + 1)) hsm
                clear hinl HN
                go_wp2_with fail
                refine cIn.mono ?_
                rintro e w6 ⟨v, rfl, ho, hb6⟩
                have h6 := h5.below hb6
                obtain ⟨la, lcap, rfl, -, -, hRA, -⟩ := own_reqs0 ho hrk (by unfold maxLen; omega)
                clear cIn ho h5 hb6
                have hlI : ¬ (M : Int) < (l.length : Int) := by omega
                go_wp2_with fail
                go_loopw [154] (fun iv wr => ∃ i2 : Nat, i2 ≤ l.length ∧ iv = .int .i64 (i2 : Int) ∧ Below w6.heap.size w6 wr) (fun iv _ => l.length - (intOf iv).toNat)
                case atStart => exact ⟨0, by omega, rfl, Below.refl _ _⟩
                case round =>
                  obtain ⟨i2, hi2, rfl, hBi⟩ := hrel
                  by_cases hlti : i2 < l.length
                  · have ki : (i2 : Int) < (l.length : Int) := by omega
                    obtain ⟨wi, hwi⟩ : ∃ wi, wi = wr := ⟨_, rfl⟩
                    subst hwi
                    go_wp2_with fail
                    go_loopw [158] (fun iv wr => ∃ j2 : Nat, j2 ≤ i2 ∧ iv = .int .i64 (j2 : Int) ∧ Below wi.heap.size wi wr) (fun iv _ => i2 - (intOf iv).toNat)
                    case atStart => exact ⟨0, by omega, rfl, Below.refl _ _⟩
                    case round =>
                      obtain ⟨j2, hj2, rfl, hBj⟩ := hrel
                      by_cases hltj : j2 < i2
                      · have kj : (j2 : Int) < (i2 : Int) := by omega
                        have kjl : (j2 : Int) < (l.length : Int) := by omega
                        have hBr : Below w6.heap.size w6 wr := hBi.trans (hBj.mono hBi.size)
                        obtain ⟨rb, ro, rfl, hrb, hre1⟩ := (hRA.below hBr).elem i2 hlti
                        obtain ⟨rb2, ro2, he2, -, hre2⟩ := (hRA.below hBr).elem j2 (by omega)
                        cases he2
                        have hne := nodup_ne hndl hltj hlti
                        obtain ⟨r1, hr1⟩ : ∃ r1, Hid (l[i2] = r1) := ⟨_, hide rfl⟩
                        obtain ⟨r2, hr2⟩ : ∃ r2, Hid (l[j2] = r2) := ⟨_, hide rfl⟩
                        rw [hr1.out] at hre1 hne
                        rw [hr2.out] at hre2 hne
                        go_upto_region 31 with fail
                        obtain ⟨w8, hw8⟩ : ∃ w8, wr.drew = w8 := ⟨_, rfl⟩
                        have hB8 : Below wr.heap.size wr w8 := by rw [← hw8]; exact (Below.refl _ _).drew
                        have hB8' : Below wi.heap.size wi w8 := hBj.trans (hB8.mono hBj.size)
                        have hrb8 : rb < w8.heap.size := Nat.lt_of_lt_of_le hrb hB8.size
                        have a1 := range_below hre1 hB8 hrb
                        have a2 := range_below hre2 hB8 hrb
                        have c0 : ∀ w', Below w8.heap.size w8 w' → w'.cell? ⟨rb, ro + i2 * 19, none⟩ = some (.int .i64 r1.c) := fun w' hw' => (range_below a1 hw' hrb8) 0 _ rfl
                        have c1 : ∀ w', Below w8.heap.size w8 w' → w'.cell? ⟨rb, ro + i2 * 19 + 1, none⟩ = some (.int .i64 r1.n) := fun w' hw' => (range_below a1 hw' hrb8) 1 _ rfl
                        have e0 : ∀ w', Below w8.heap.size w8 w' → w'.cell? ⟨rb, ro + j2 * 19, none⟩ = some (.int .i64 r2.c) := fun w' hw' => (range_below a2 hw' hrb8) 0 _ rfl
                        have e1 : ∀ w', Below w8.heap.size w8 w' → w'.cell? ⟨rb, ro + j2 * 19 + 1, none⟩ = some (.int .i64 r2.n) := fun w' hw' => (range_below a2 hw' hrb8) 1 _ rfl
                        by_cases hcc : r1.c = r2.c
                        · have hnn : ¬ r1.n = r2.n := fun hx => hne (by unfold pk; rw [hcc, hx])
                          have hb1 : (r1.c == r2.c) = true := by simpa using hcc
                          have hb2 : (r1.n == r2.n) = false := by simpa using hnn
                          clear hcc hnn hne
                          refine hs_begin (S := (Below w8.heap.size w8)) 24 rfl (by kernel_rfl) ?_
                          rw [hw8]
                          clear hw8
                          have hS : (Below w8.heap.size w8) w8 := Below.refl _ _
                          refine hs_take (i := 0) (d := some 161) (v := ?_) rfl (by kernel_rfl) (by kernel_rfl) (by kernel_rfl) (by rfl) ?_ hS rfl ?_
                          rotate_left
                          · intro w' hw
                            go_simp
                            try with_reducible rfl
                          simp only [Act.put, List.setIfInBounds_toArray, List.set_cons_zero, List.set_cons_succ]
                          refine hs_take (i := 1) (d := some 162) (v := ?_) rfl (by kernel_rfl) (by kernel_rfl) (by kernel_rfl) (by rfl) ?_ hS rfl ?_
                          rotate_left
                          · intro w' hw
                            go_simp
                            try with_reducible rfl
                          simp only [Act.put, List.setIfInBounds_toArray, List.set_cons_zero, List.set_cons_succ]
                          refine hs_take (i := 2) (d := some 163) (v := ?_) rfl (by kernel_rfl) (by kernel_rfl) (by kernel_rfl) (by rfl) ?_ hS rfl ?_
                          rotate_left
                          · intro w' hw
                            go_simp
                            try with_reducible rfl
                          simp only [Act.put, List.setIfInBounds_toArray, List.set_cons_zero, List.set_cons_succ]
                          refine hs_take (i := 3) (d := some 164) (v := ?_) rfl (by kernel_rfl) (by kernel_rfl) (by kernel_rfl) (by rfl) ?_ hS rfl ?_
                          rotate_left
                          · intro w' hw
                            go_simp
                            try with_reducible rfl
                          simp only [Act.put, List.setIfInBounds_toArray, List.set_cons_zero, List.set_cons_succ]
                          refine hs_take (i := 4) (d := some 165) (v := ?_) rfl (by kernel_rfl) (by kernel_rfl) (by kernel_rfl) (by rfl) ?_ hS rfl ?_
                          rotate_left
                          · intro w' hw
                            have hc := c0 w' hw
                            go_simp
                            try with_reducible rfl
                          simp only [Act.put, List.setIfInBounds_toArray, List.set_cons_zero, List.set_cons_succ]
                          refine hs_take (i := 5) (d := some 166) (v := ?_) rfl (by kernel_rfl) (by kernel_rfl) (by kernel_rfl) (by rfl) ?_ hS rfl ?_
                          rotate_left
                          · intro w' hw
                            go_simp
                            try with_reducible rfl
                          simp only [Act.put, List.setIfInBounds_toArray, List.set_cons_zero, List.set_cons_succ]
                          refine hs_take (i := 6) (d := some 167) (v := ?_) rfl (by kernel_rfl) (by kernel_rfl) (by kernel_rfl) (by rfl) ?_ hS rfl ?_
                          rotate_left
                          · intro w' hw
                            go_simp
                            try with_reducible rfl
                          simp only [Act.put, List.setIfInBounds_toArray, List.set_cons_zero, List.set_cons_succ]
                          refine hs_take (i := 7) (d := some 168) (v := ?_) rfl (by kernel_rfl) (by kernel_rfl) (by kernel_rfl) (by rfl) ?_ hS rfl ?_
                          rotate_left
                          · intro w' hw
                            go_simp
                            try with_reducible rfl
                          simp only [Act.put, List.setIfInBounds_toArray, List.set_cons_zero, List.set_cons_succ]
                          refine hs_take (i := 8) (d := some 169) (v := ?_) rfl (by kernel_rfl) (by kernel_rfl) (by kernel_rfl) (by rfl) ?_ hS rfl ?_
                          rotate_left
                          · intro w' hw
                            go_simp
                            try with_reducible rfl
                          simp only [Act.put, List.setIfInBounds_toArray, List.set_cons_zero, List.set_cons_succ]
                          refine hs_take (i := 9) (d := some 170) (v := ?_) rfl (by kernel_rfl) (by kernel_rfl) (by kernel_rfl) (by rfl) ?_ hS rfl ?_
                          rotate_left
                          · intro w' hw
                            have hc := e0 w' hw
                            go_simp
                            try with_reducible rfl
                          simp only [Act.put, List.setIfInBounds_toArray, List.set_cons_zero, List.set_cons_succ]
                          refine hs_take (i := 10) (d := some 171) (v := .bool true) rfl (by kernel_rfl) (by kernel_rfl) (by kernel_rfl) (by rfl) (fun w' hw => by go_simp) hS rfl ?_
                          simp only [Act.put, List.setIfInBounds_toArray, List.set_cons_zero, List.set_cons_succ]
                          refine hs_take (i := 11) (d := some 172) (v := ?_) rfl (by kernel_rfl) (by kernel_rfl) (by kernel_rfl) (by rfl) ?_ hS rfl ?_
                          rotate_left
                          · intro w' hw
                            go_simp
                            try with_reducible rfl
                          simp only [Act.put, List.setIfInBounds_toArray, List.set_cons_zero, List.set_cons_succ]
                          refine hs_take (i := 12) (d := some 173) (v := ?_) rfl (by kernel_rfl) (by kernel_rfl) (by kernel_rfl) (by rfl) ?_ hS rfl ?_
                          rotate_left
                          · intro w' hw
                            go_simp
                            try with_reducible rfl
                          simp only [Act.put, List.setIfInBounds_toArray, List.set_cons_zero, List.set_cons_succ]
                          refine hs_take (i := 13) (d := some 174) (v := ?_) rfl (by kernel_rfl) (by kernel_rfl) (by kernel_rfl) (by rfl) ?_ hS rfl ?_
                          rotate_left
                          · intro w' hw
                            go_simp
                            try with_reducible rfl
                          simp only [Act.put, List.setIfInBounds_toArray, List.set_cons_zero, List.set_cons_succ]
                          refine hs_take (i := 14) (d := some 175) (v := ?_) rfl (by kernel_rfl) (by kernel_rfl) (by kernel_rfl) (by rfl) ?_ hS rfl ?_
                          rotate_left
                          · intro w' hw
                            go_simp
                            try with_reducible rfl
                          simp only [Act.put, List.setIfInBounds_toArray, List.set_cons_zero, List.set_cons_succ]
                          refine hs_take (i := 15) (d := some 176) (v := ?_) rfl (by kernel_rfl) (by kernel_rfl) (by kernel_rfl) (by rfl) ?_ hS rfl ?_
                          rotate_left
                          · intro w' hw
                            go_simp
                            try with_reducible rfl
                          simp only [Act.put, List.setIfInBounds_toArray, List.set_cons_zero, List.set_cons_succ]
                          refine hs_take (i := 16) (d := some 177) (v := ?_) rfl (by kernel_rfl) (by kernel_rfl) (by kernel_rfl) (by rfl) ?_ hS rfl ?_
                          rotate_left
                          · intro w' hw
                            have hc := c1 w' hw
                            go_simp
                            try with_reducible rfl
                          simp only [Act.put, List.setIfInBounds_toArray, List.set_cons_zero, List.set_cons_succ]
                          refine hs_take (i := 17) (d := some 178) (v := ?_) rfl (by kernel_rfl) (by kernel_rfl) (by kernel_rfl) (by rfl) ?_ hS rfl ?_
                          rotate_left
                          · intro w' hw
                            go_simp
                            try with_reducible rfl
                          simp only [Act.put, List.setIfInBounds_toArray, List.set_cons_zero, List.set_cons_succ]
                          refine hs_take (i := 18) (d := some 179) (v := ?_) rfl (by kernel_rfl) (by kernel_rfl) (by kernel_rfl) (by rfl) ?_ hS rfl ?_
                          rotate_left
                          · intro w' hw
                            go_simp
                            try with_reducible rfl
                          simp only [Act.put, List.setIfInBounds_toArray, List.set_cons_zero, List.set_cons_succ]
                          refine hs_take (i := 19) (d := some 180) (v := ?_) rfl (by kernel_rfl) (by kernel_rfl) (by kernel_rfl) (by rfl) ?_ hS rfl ?_
                          rotate_left
                          · intro w' hw
                            go_simp
                            try with_reducible rfl
                          simp only [Act.put, List.setIfInBounds_toArray, List.set_cons_zero, List.set_cons_succ]
                          refine hs_take (i := 20) (d := some 181) (v := ?_) rfl (by kernel_rfl) (by kernel_rfl) (by kernel_rfl) (by rfl) ?_ hS rfl ?_
                          rotate_left
                          · intro w' hw
                            go_simp
                            try with_reducible rfl
                          simp only [Act.put, List.setIfInBounds_toArray, List.set_cons_zero, List.set_cons_succ]
                          refine hs_take (i := 21) (d := some 182) (v := ?_) rfl (by kernel_rfl) (by kernel_rfl) (by kernel_rfl) (by rfl) ?_ hS rfl ?_
                          rotate_left
                          · intro w' hw
                            have hc := e1 w' hw
                            go_simp
                            try with_reducible rfl
                          simp only [Act.put, List.setIfInBounds_toArray, List.set_cons_zero, List.set_cons_succ]
                          refine hs_take (i := 22) (d := some 183) (v := .bool false) rfl (by kernel_rfl) (by kernel_rfl) (by kernel_rfl) (by rfl) (fun w' hw => by go_simp) hS rfl ?_
                          simp only [Act.put, List.setIfInBounds_toArray, List.set_cons_zero, List.set_cons_succ]
                          refine hs_take (i := 23) (d := some 184) (v := .bool false) rfl (by kernel_rfl) (by kernel_rfl) (by kernel_rfl) (by rfl) (fun w' hw => by go_simp) hS rfl ?_
                          simp only [Act.put, List.setIfInBounds_toArray, List.set_cons_zero, List.set_cons_succ]
                          refine hs_done (by kernel_rfl) ?_
                          go_wp2_with fail
                          go_roundw
                          case rel => exact ⟨j2 + 1, by omega, by go_num, hB8'⟩
                          case measure => simp [intOf]; omega
                        · have hb1 : (r1.c == r2.c) = false := by simpa using hcc
                          clear hcc hne
                          refine hs_begin (S := (Below w8.heap.size w8)) 24 rfl (by kernel_rfl) ?_
                          rw [hw8]
                          clear hw8
                          have hS : (Below w8.heap.size w8) w8 := Below.refl _ _
                          refine hs_take (i := 0) (d := some 161) (v := ?_) rfl (by kernel_rfl) (by kernel_rfl) (by kernel_rfl) (by rfl) ?_ hS rfl ?_
                          rotate_left
                          · intro w' hw
                            go_simp
                            try with_reducible rfl
                          simp only [Act.put, List.setIfInBounds_toArray, List.set_cons_zero, List.set_cons_succ]
                          refine hs_take (i := 1) (d := some 162) (v := ?_) rfl (by kernel_rfl) (by kernel_rfl) (by kernel_rfl) (by rfl) ?_ hS rfl ?_
                          rotate_left
                          · intro w' hw
                            go_simp
                            try with_reducible rfl
                          simp only [Act.put, List.setIfInBounds_toArray, List.set_cons_zero, List.set_cons_succ]
                          refine hs_take (i := 2) (d := some 163) (v := ?_) rfl (by kernel_rfl) (by kernel_rfl) (by kernel_rfl) (by rfl) ?_ hS rfl ?_
                          rotate_left
                          · intro w' hw
                            go_simp
                            try with_reducible rfl
                          simp only [Act.put, List.setIfInBounds_toArray, List.set_cons_zero, List.set_cons_succ]
                          refine hs_take (i := 3) (d := some 164) (v := ?_) rfl (by kernel_rfl) (by kernel_rfl) (by kernel_rfl) (by rfl) ?_ hS rfl ?_
                          rotate_left
                          · intro w' hw
                            go_simp
                            try with_reducible rfl
                          simp only [Act.put, List.setIfInBounds_toArray, List.set_cons_zero, List.set_cons_succ]
                          refine hs_take (i := 4) (d := some 165) (v := ?_) rfl (by kernel_rfl) (by kernel_rfl) (by kernel_rfl) (by rfl) ?_ hS rfl ?_
                          rotate_left
                          · intro w' hw
                            have hc := c0 w' hw
                            go_simp
                            try with_reducible rfl
                          simp only [Act.put, List.setIfInBounds_toArray, List.set_cons_zero, List.set_cons_succ]
                          refine hs_take (i := 5) (d := some 166) (v := ?_) rfl (by kernel_rfl) (by kernel_rfl) (by kernel_rfl) (by rfl) ?_ hS rfl ?_
                          rotate_left
                          · intro w' hw
                            go_simp
                            try with_reducible rfl
                          simp only [Act.put, List.setIfInBounds_toArray, List.set_cons_zero, List.set_cons_succ]
                          refine hs_take (i := 6) (d := some 167) (v := ?_) rfl (by kernel_rfl) (by kernel_rfl) (by kernel_rfl) (by rfl) ?_ hS rfl ?_
                          rotate_left
                          · intro w' hw
                            go_simp
                            try with_reducible rfl
                          simp only [Act.put, List.setIfInBounds_toArray, List.set_cons_zero, List.set_cons_succ]
                          refine hs_take (i := 7) (d := some 168) (v := ?_) rfl (by kernel_rfl) (by kernel_rfl) (by kernel_rfl) (by rfl) ?_ hS rfl ?_
                          rotate_left
                          · intro w' hw
                            go_simp
                            try with_reducible rfl
                          simp only [Act.put, List.setIfInBounds_toArray, List.set_cons_zero, List.set_cons_succ]
                          refine hs_take (i := 8) (d := some 169) (v := ?_) rfl (by kernel_rfl) (by kernel_rfl) (by kernel_rfl) (by rfl) ?_ hS rfl ?_
                          rotate_left
                          · intro w' hw
                            go_simp
                            try with_reducible rfl
                          simp only [Act.put, List.setIfInBounds_toArray, List.set_cons_zero, List.set_cons_succ]
                          refine hs_take (i := 9) (d := some 170) (v := ?_) rfl (by kernel_rfl) (by kernel_rfl) (by kernel_rfl) (by rfl) ?_ hS rfl ?_
                          rotate_left
                          · intro w' hw
                            have hc := e0 w' hw
                            go_simp
                            try with_reducible rfl
                          simp only [Act.put, List.setIfInBounds_toArray, List.set_cons_zero, List.set_cons_succ]
                          refine hs_take (i := 10) (d := some 171) (v := .bool false) rfl (by kernel_rfl) (by kernel_rfl) (by kernel_rfl) (by rfl) (fun w' hw => by go_simp) hS rfl ?_
                          simp only [Act.put, List.setIfInBounds_toArray, List.set_cons_zero, List.set_cons_succ]
                          refine hs_take (i := 11) (d := some 172) (v := ?_) rfl (by kernel_rfl) (by kernel_rfl) (by kernel_rfl) (by rfl) ?_ hS rfl ?_
                          rotate_left
                          · intro w' hw
                            go_simp
                            try with_reducible rfl
                          simp only [Act.put, List.setIfInBounds_toArray, List.set_cons_zero, List.set_cons_succ]
                          refine hs_skip (i := 12) (d := some 173) rfl (by kernel_rfl) (by kernel_rfl) (by kernel_rfl) (by rfl) hS rfl ?_
                          simp only [Act.put, List.setIfInBounds_toArray, List.set_cons_zero, List.set_cons_succ]
                          refine hs_skip (i := 13) (d := some 174) rfl (by kernel_rfl) (by kernel_rfl) (by kernel_rfl) (by rfl) hS rfl ?_
                          simp only [Act.put, List.setIfInBounds_toArray, List.set_cons_zero, List.set_cons_succ]
                          refine hs_skip (i := 14) (d := some 175) rfl (by kernel_rfl) (by kernel_rfl) (by kernel_rfl) (by rfl) hS rfl ?_
                          simp only [Act.put, List.setIfInBounds_toArray, List.set_cons_zero, List.set_cons_succ]
                          refine hs_skip (i := 15) (d := some 176) rfl (by kernel_rfl) (by kernel_rfl) (by kernel_rfl) (by rfl) hS rfl ?_
                          simp only [Act.put, List.setIfInBounds_toArray, List.set_cons_zero, List.set_cons_succ]
                          refine hs_skip (i := 16) (d := some 177) rfl (by kernel_rfl) (by kernel_rfl) (by kernel_rfl) (by rfl) hS rfl ?_
                          simp only [Act.put, List.setIfInBounds_toArray, List.set_cons_zero, List.set_cons_succ]
                          refine hs_skip (i := 17) (d := some 178) rfl (by kernel_rfl) (by kernel_rfl) (by kernel_rfl) (by rfl) hS rfl ?_
                          simp only [Act.put, List.setIfInBounds_toArray, List.set_cons_zero, List.set_cons_succ]
                          refine hs_skip (i := 18) (d := some 179) rfl (by kernel_rfl) (by kernel_rfl) (by kernel_rfl) (by rfl) hS rfl ?_
                          simp only [Act.put, List.setIfInBounds_toArray, List.set_cons_zero, List.set_cons_succ]
                          refine hs_skip (i := 19) (d := some 180) rfl (by kernel_rfl) (by kernel_rfl) (by kernel_rfl) (by rfl) hS rfl ?_
                          simp only [Act.put, List.setIfInBounds_toArray, List.set_cons_zero, List.set_cons_succ]
                          refine hs_skip (i := 20) (d := some 181) rfl (by kernel_rfl) (by kernel_rfl) (by kernel_rfl) (by rfl) hS rfl ?_
                          simp only [Act.put, List.setIfInBounds_toArray, List.set_cons_zero, List.set_cons_succ]
                          refine hs_skip (i := 21) (d := some 182) rfl (by kernel_rfl) (by kernel_rfl) (by kernel_rfl) (by rfl) hS rfl ?_
                          simp only [Act.put, List.setIfInBounds_toArray, List.set_cons_zero, List.set_cons_succ]
                          refine hs_skip (i := 22) (d := some 183) rfl (by kernel_rfl) (by kernel_rfl) (by kernel_rfl) (by rfl) hS rfl ?_
                          simp only [Act.put, List.setIfInBounds_toArray, List.set_cons_zero, List.set_cons_succ]
                          refine hs_take (i := 23) (d := some 184) (v := .bool false) rfl (by kernel_rfl) (by kernel_rfl) (by kernel_rfl) (by rfl) (fun w' hw => by go_simp) hS rfl ?_
                          simp only [Act.put, List.setIfInBounds_toArray, List.set_cons_zero, List.set_cons_succ]
                          refine hs_done (by kernel_rfl) ?_
                          go_wp2_with fail
                          go_roundw
                          case rel => exact ⟨j2 + 1, by omega, by go_num, hB8'⟩
                          case measure => simp [intOf]; omega
                      · have kj : ¬ (j2 : Int) < (i2 : Int) := by omega
                        go_wp2_with fail
                        go_roundw
                        case rel => exact ⟨i2 + 1, by omega, by go_num, hBi.trans (hBj.mono hBi.size)⟩
                        case measure => simp [intOf]; omega
                  · have ki : ¬ (i2 : Int) < (l.length : Int) := by omega
                    have h7 := h6.below hBi
                    go_wp2_with fail
                    go_roundw
                    case rel => exact ⟨b + 1, N + l.length, by omega, by go_num, by go_num, HN2, hN2, h7⟩
                    case measure => simp [intOf]; omega
              · have kb : ¬ (b : Int) < (k : Int) := by omega
                have HE : Hid ((flatP ls2).length = N) := hide (by rw [HN.out, List.take_of_length_le (by omega)])
                have cl := len_any Q3 M ls2 wr h5.at_
                rw [hq3.out, HE.out] at cl
                go_wp2_with fail
                refine cl.mono ?_
                rintro e w6 ⟨rfl, hx⟩
                obtain rfl := hx.symm
                clear cl hx
                go_wp2_with fail
                go_roundw
                case rel => exact ⟨j + 1, Q3, ls2, by omega, by go_num, hq3, h5, hLen2⟩
                case measure => simp [intOf]; omega
          · have b0 : (A.kind == 0) = false := by simpa using hk0
            have b2 : (A.kind == 2) = false := by simpa using hk2
            obtain ⟨w5, hw5⟩ : ∃ w5, w5 = w3 := ⟨_, rfl⟩
            have h5 : PoolIn w w5 Q2 M ls := by rw [hw5]; exact h4
            obtain ⟨Q3, hQ3⟩ : ∃ Q3, Q3 = Q2 := ⟨_, rfl⟩
            obtain ⟨ls2, hls2⟩ : ∃ ls2, ls2 = ls := ⟨_, rfl⟩
            rw [← hQ3, ← hls2] at h5
            have hq3 : Hid (ptr Q3 = .pointer (some q)) := by rw [hQ3]; exact hqQ
            have hLen2 : ls2.length = k := by rw [hls2]; exact hLen
            clear hQ3 hls2 hqQ hLen h4 hWAS
            subst hw5
            have hfld := fld0
            have hsm := h5.at_.small
            have hfew := h5.at_.R.few
            go_wp2_with fail
            go_loopw [16, 133] (fun nv iv wr => ∃ b N : Nat, b ≤ k ∧ iv = .int .i64 (b : Int) ∧ nv = .int .i64 (N : Int) ∧ Hid (N = (flatP (ls2.take b)).length) ∧ N ≤ 1024 ∧ PoolIn w wr Q3 M ls2) (fun _ iv _ => k - (intOf iv).toNat)
            case atStart => exact ⟨0, 0, by omega, rfl, rfl, hide (by simp [flatP]), by omega, h5⟩
            case round =>
              clear h5
              obtain ⟨b, N, hb, rfl, rfl, HN, hN, h5⟩ := hrel
              by_cases hltb : b < k
              · have kb : (b : Int) < (k : Int) := by omega
                have hbl : b < ls2.length := by omega
                obtain ⟨l, hl⟩ : ∃ l, ls2[b]? = some l := ⟨ls2[b], List.getElem?_eq_getElem hbl⟩
                have hinl : inL ls2 (b : Int) = l := by
                  unfold inL
                  rw [if_pos ⟨by omega, by omega⟩]
                  simp [List.getD, hl]
                have cIn := pin_any Q3 M ls2 (b : Int) wr h5.at_
                rw [hq3.out, hinl] at cIn
                have hlm : l.length ≤ M := hfew l (List.mem_of_getElem? hl)
                have hndl : (l.map pk).Nodup := flat_nodup h5.at_.nd (List.mem_of_getElem? hl)
                have hrk := h5.at_.R.rok l (List.mem_of_getElem? hl)
                have HN2 : Hid (N + l.length = (flatP (ls2.take (b + 1))).length) := hide (by rw [HN.out]; exact flat_take hl)
                have hN2 : N + l.length ≤ 1024 := by
                  rw [HN2.out]
                  exact Nat.le_trans (flat_take_le ls2 (b + 1)) hsm
                clear hinl HN
                go_wp2_with fail
                refine cIn.mono ?_
                rintro e w6 ⟨v, rfl, ho, hb6⟩
                have h6 := h5.below hb6
                obtain ⟨la, lcap, rfl, -, -, hRA, -⟩ := own_reqs0 ho hrk (by unfold maxLen; omega)
                clear cIn ho h5 hb6
                have hlI : ¬ (M : Int) < (l.length : Int) := by omega
                go_wp2_with fail
                go_loopw [154] (fun iv wr => ∃ i2 : Nat, i2 ≤ l.length ∧ iv = .int .i64 (i2 : Int) ∧ Below w6.heap.size w6 wr) (fun iv _ => l.length - (intOf iv).toNat)
                case atStart => exact ⟨0, by omega, rfl, Below.refl _ _⟩
                case round =>
                  obtain ⟨i2, hi2, rfl, hBi⟩ := hrel
                  by_cases hlti : i2 < l.length
                  · have ki : (i2 : Int) < (l.length : Int) := by omega
                    obtain ⟨wi, hwi⟩ : ∃ wi, wi = wr := ⟨_, rfl⟩
                    subst hwi
                    go_wp2_with fail
                    go_loopw [158] (fun iv wr => ∃ j2 : Nat, j2 ≤ i2 ∧ iv = .int .i64 (j2 : Int) ∧ Below wi.heap.size wi wr) (fun iv _ => i2 - (intOf iv).toNat)
                    case atStart => exact ⟨0, by omega, rfl, Below.refl _ _⟩
                    case round =>
                      obtain ⟨j2, hj2, rfl, hBj⟩ := hrel
                      by_cases hltj : j2 < i2
                      · have kj : (j2 : Int) < (i2 : Int) := by omega
                        have kjl : (j2 : Int) < (l.length : Int) := by omega
                        have hBr : Below w6.heap.size w6 wr := hBi.trans (hBj.mono hBi.size)
                        obtain ⟨rb, ro, rfl, hrb, hre1⟩ := (hRA.below hBr).elem i2 hlti
                        obtain ⟨rb2, ro2, he2, -, hre2⟩ := (hRA.below hBr).elem j2 (by omega)
                        cases he2
                        have hne := nodup_ne hndl hltj hlti
                        obtain ⟨r1, hr1⟩ : ∃ r1, Hid (l[i2] = r1) := ⟨_, hide rfl⟩
                        obtain ⟨r2, hr2⟩ : ∃ r2, Hid (l[j2] = r2) := ⟨_, hide rfl⟩
                        rw [hr1.out] at hre1 hne
                        rw [hr2.out] at hre2 hne
                        go_upto_region 31 with fail
                        obtain ⟨w8, hw8⟩ : ∃ w8, wr.drew = w8 := ⟨_, rfl⟩
                        have hB8 : Below wr.heap.size wr w8 := by rw [← hw8]; exact (Below.refl _ _).drew
                        have hB8' : Below wi.heap.size wi w8 := hBj.trans (hB8.mono hBj.size)
                        have hrb8 : rb < w8.heap.size := Nat.lt_of_lt_of_le hrb hB8.size
                        have a1 := range_below hre1 hB8 hrb
                        have a2 := range_below hre2 hB8 hrb
                        have c0 : ∀ w', Below w8.heap.size w8 w' → w'.cell? ⟨rb, ro + i2 * 19, none⟩ = some (.int .i64 r1.c) := fun w' hw' => (range_below a1 hw' hrb8) 0 _ rfl
                        have c1 : ∀ w', Below w8.heap.size w8 w' → w'.cell? ⟨rb, ro + i2 * 19 + 1, none⟩ = some (.int .i64 r1.n) := fun w' hw' => (range_below a1 hw' hrb8) 1 _ rfl
                        have e0 : ∀ w', Below w8.heap.size w8 w' → w'.cell? ⟨rb, ro + j2 * 19, none⟩ = some (.int .i64 r2.c) := fun w' hw' => (range_below a2 hw' hrb8) 0 _ rfl
                        have e1 : ∀ w', Below w8.heap.size w8 w' → w'.cell? ⟨rb, ro + j2 * 19 + 1, none⟩ = some (.int .i64 r2.n) := fun w' hw' => (range_below a2 hw' hrb8) 1 _ rfl
                        by_cases hcc : r1.c = r2.c
                        · have hnn : ¬ r1.n = r2.n := fun hx => hne (by unfold pk; rw [hcc, hx])
                          have hb1 : (r1.c == r2.c) = true := by simpa using hcc
                          have hb2 : (r1.n == r2.n) = false := by simpa using hnn
                          clear hcc hnn hne
                          refine hs_begin (S := (Below w8.heap.size w8)) 24 rfl (by kernel_rfl) ?_
                          rw [hw8]
                          clear hw8
                          have hS : (Below w8.heap.size w8) w8 := Below.refl _ _
                          refine hs_take (i := 0) (d := some 161) (v := ?_) rfl (by kernel_rfl) (by kernel_rfl) (by kernel_rfl) (by rfl) ?_ hS rfl ?_
                          rotate_left
                          · intro w' hw
                            go_simp
                            try with_reducible rfl
                          simp only [Act.put, List.setIfInBounds_toArray, List.set_cons_zero, List.set_cons_succ]
                          refine hs_take (i := 1) (d := some 162) (v := ?_) rfl (by kernel_rfl) (by kernel_rfl) (by kernel_rfl) (by rfl) ?_ hS rfl ?_
                          rotate_left
                          · intro w' hw
                            go_simp
                            try with_reducible rfl
                          simp only [Act.put, List.setIfInBounds_toArray, List.set_cons_zero, List.set_cons_succ]
                          refine hs_take (i := 2) (d := some 163) (v := ?_) rfl (by kernel_rfl) (by kernel_rfl) (by kernel_rfl) (by rfl) ?_ hS rfl ?_
                          rotate_left
                          · intro w' hw
                            go_simp
                            try with_reducible rfl
                          simp only [Act.put, List.setIfInBounds_toArray, List.set_cons_zero, List.set_cons_succ]
                          refine hs_take (i := 3) (d := some 164) (v := ?_) rfl (by kernel_rfl) (by kernel_rfl) (by kernel_rfl) (by rfl) ?_ hS rfl ?_
                          rotate_left
                          · intro w' hw
                            go_simp
                            try with_reducible rfl
                          simp only [Act.put, List.setIfInBounds_toArray, List.set_cons_zero, List.set_cons_succ]
                          refine hs_take (i := 4) (d := some 165) (v := ?_) rfl (by kernel_rfl) (by kernel_rfl) (by kernel_rfl) (by rfl) ?_ hS rfl ?_
                          rotate_left
                          · intro w' hw
                            have hc := c0 w' hw
                            go_simp
                            try with_reducible rfl
                          simp only [Act.put, List.setIfInBounds_toArray, List.set_cons_zero, List.set_cons_succ]
                          refine hs_take (i := 5) (d := some 166) (v := ?_) rfl (by kernel_rfl) (by kernel_rfl) (by kernel_rfl) (by rfl) ?_ hS rfl ?_
                          rotate_left
                          · intro w' hw
                            go_simp
                            try with_reducible rfl
                          simp only [Act.put, List.setIfInBounds_toArray, List.set_cons_zero, List.set_cons_succ]
                          refine hs_take (i := 6) (d := some 167) (v := ?_) rfl (by kernel_rfl) (by kernel_rfl) (by kernel_rfl) (by rfl) ?_ hS rfl ?_
                          rotate_left
                          · intro w' hw
                            go_simp
                            try with_reducible rfl
                          simp only [Act.put, List.setIfInBounds_toArray, List.set_cons_zero, List.set_cons_succ]
                          refine hs_take (i := 7) (d := some 168) (v := ?_) rfl (by kernel_rfl) (by kernel_rfl) (by kernel_rfl) (by rfl) ?_ hS rfl ?_
                          rotate_left
                          · intro w' hw
                            go_simp
                            try with_reducible rfl
                          simp only [Act.put, List.setIfInBounds_toArray, List.set_cons_zero, List.set_cons_succ]
                          refine hs_take (i := 8) (d := some 169) (v := ?_) rfl (by kernel_rfl) (by kernel_rfl) (by kernel_rfl) (by rfl) ?_ hS rfl ?_
                          rotate_left
                          · intro w' hw
                            go_simp
                            try with_reducible rfl
                          simp only [Act.put, List.setIfInBounds_toArray, List.set_cons_zero, List.set_cons_succ]
                          refine hs_take (i := 9) (d := some 170) (v := ?_) rfl (by kernel_rfl) (by kernel_rfl) (by kernel_rfl) (by rfl) ?_ hS rfl ?_
                          rotate_left
                          · intro w' hw
                            have hc := e0 w' hw
                            go_simp
                            try with_reducible rfl
                          simp only [Act.put, List.setIfInBounds_toArray, List.set_cons_zero, List.set_cons_succ]
                          refine hs_take (i := 10) (d := some 171) (v := .bool true) rfl (by kernel_rfl) (by kernel_rfl) (by kernel_rfl) (by rfl) (fun w' hw => by go_simp) hS rfl ?_
                          simp only [Act.put, List.setIfInBounds_toArray, List.set_cons_zero, List.set_cons_succ]
                          refine hs_take (i := 11) (d := some 172) (v := ?_) rfl (by kernel_rfl) (by kernel_rfl) (by kernel_rfl) (by rfl) ?_ hS rfl ?_
                          rotate_left
                          · intro w' hw
                            go_simp
                            try with_reducible rfl
                          simp only [Act.put, List.setIfInBounds_toArray, List.set_cons_zero, List.set_cons_succ]
                          refine hs_take (i := 12) (d := some 173) (v := ?_) rfl (by kernel_rfl) (by kernel_rfl) (by kernel_rfl) (by rfl) ?_ hS rfl ?_
                          rotate_left
                          · intro w' hw
                            go_simp
                            try with_reducible rfl
                          simp only [Act.put, List.setIfInBounds_toArray, List.set_cons_zero, List.set_cons_succ]
                          refine hs_take (i := 13) (d := some 174) (v := ?_) rfl (by kernel_rfl) (by kernel_rfl) (by kernel_rfl) (by rfl) ?_ hS rfl ?_
                          rotate_left
                          · intro w' hw
                            go_simp
                            try with_reducible rfl
                          simp only [Act.put, List.setIfInBounds_toArray, List.set_cons_zero, List.set_cons_succ]
                          refine hs_take (i := 14) (d := some 175) (v := ?_) rfl (by kernel_rfl) (by kernel_rfl) (by kernel_rfl) (by rfl) ?_ hS rfl ?_
                          rotate_left
                          · intro w' hw
                            go_simp
                            try with_reducible rfl
                          simp only [Act.put, List.setIfInBounds_toArray, List.set_cons_zero, List.set_cons_succ]
                          refine hs_take (i := 15) (d := some 176) (v := ?_) rfl (by kernel_rfl) (by kernel_rfl) (by kernel_rfl) (by rfl) ?_ hS rfl ?_
                          rotate_left
                          · intro w' hw
                            go_simp
                            try with_reducible rfl
                          simp only [Act.put, List.setIfInBounds_toArray, List.set_cons_zero, List.set_cons_succ]
                          refine hs_take (i := 16) (d := some 177) (v := ?_) rfl (by kernel_rfl) (by kernel_rfl) (by kernel_rfl) (by rfl) ?_ hS rfl ?_
                          rotate_left
                          · intro w' hw
                            have hc := c1 w' hw
                            go_simp
                            try with_reducible rfl
                          simp only [Act.put, List.setIfInBounds_toArray, List.set_cons_zero, List.set_cons_succ]
                          refine hs_take (i := 17) (d := some 178) (v := ?_) rfl (by kernel_rfl) (by kernel_rfl) (by kernel_rfl) (by rfl) ?_ hS rfl ?_
                          rotate_left
                          · intro w' hw
                            go_simp
                            try with_reducible rfl
                          simp only [Act.put, List.setIfInBounds_toArray, List.set_cons_zero, List.set_cons_succ]
                          refine hs_take (i := 18) (d := some 179) (v := ?_) rfl (by kernel_rfl) (by kernel_rfl) (by kernel_rfl) (by rfl) ?_ hS rfl ?_
                          rotate_left
                          · intro w' hw
                            go_simp
                            try with_reducible rfl
                          simp only [Act.put, List.setIfInBounds_toArray, List.set_cons_zero, List.set_cons_succ]
                          refine hs_take (i := 19) (d := some 180) (v := ?_) rfl (by kernel_rfl) (by kernel_rfl) (by kernel_rfl) (by rfl) ?_ hS rfl ?_
                          rotate_left
                          · intro w' hw
                            go_simp
                            try with_reducible rfl
                          simp only [Act.put, List.setIfInBounds_toArray, List.set_cons_zero, List.set_cons_succ]
                          refine hs_take (i := 20) (d := some 181) (v := ?_) rfl (by kernel_rfl) (by kernel_rfl) (by kernel_rfl) (by rfl) ?_ hS rfl ?_
                          rotate_left
                          · intro w' hw
                            go_simp
                            try with_reducible rfl
                          simp only [Act.put, List.setIfInBounds_toArray, List.set_cons_zero, List.set_cons_succ]
                          refine hs_take (i := 21) (d := some 182) (v := ?_) rfl (by kernel_rfl) (by kernel_rfl) (by kernel_rfl) (by rfl) ?_ hS rfl ?_
                          rotate_left
                          · intro w' hw
                            have hc := e1 w' hw
                            go_simp
                            try with_reducible rfl
                          simp only [Act.put, List.setIfInBounds_toArray, List.set_cons_zero, List.set_cons_succ]
                          refine hs_take (i := 22) (d := some 183) (v := .bool false) rfl (by kernel_rfl) (by kernel_rfl) (by kernel_rfl) (by rfl) (fun w' hw => by go_simp) hS rfl ?_
                          simp only [Act.put, List.setIfInBounds_toArray, List.set_cons_zero, List.set_cons_succ]
                          refine hs_take (i := 23) (d := some 184) (v := .bool false) rfl (by kernel_rfl) (by kernel_rfl) (by kernel_rfl) (by rfl) (fun w' hw => by go_simp) hS rfl ?_
                          simp only [Act.put, List.setIfInBounds_toArray, List.set_cons_zero, List.set_cons_succ]
                          refine hs_done (by kernel_rfl) ?_
                          go_wp2_with fail
                          go_roundw
                          case rel => exact ⟨j2 + 1, by omega, by go_num, hB8'⟩
                          case measure => simp [intOf]; omega
                        · have hb1 : (r1.c == r2.c) = false := by simpa using hcc
                          clear hcc hne
                          refine hs_begin (S := (Below w8.heap.size w8)) 24 rfl (by kernel_rfl) ?_
                          rw [hw8]
                          clear hw8
                          have hS : (Below w8.heap.size w8) w8 := Below.refl _ _
                          refine hs_take (i := 0) (d := some 161) (v := ?_) rfl (by kernel_rfl) (by kernel_rfl) (by kernel_rfl) (by rfl) ?_ hS rfl ?_
                          rotate_left
                          · intro w' hw
                            go_simp
                            try with_reducible rfl
                          simp only [Act.put, List.setIfInBounds_toArray, List.set_cons_zero, List.set_cons_succ]
                          refine hs_take (i := 1) (d := some 162) (v := ?_) rfl (by kernel_rfl) (by kernel_rfl) (by kernel_rfl) (by rfl) ?_ hS rfl ?_
                          rotate_left
                          · intro w' hw
                            go_simp
                            try with_reducible rfl
                          simp only [Act.put, List.setIfInBounds_toArray, List.set_cons_zero, List.set_cons_succ]
                          refine hs_take (i := 2) (d := some 163) (v := ?_) rfl (by kernel_rfl) (by kernel_rfl) (by kernel_rfl) (by rfl) ?_ hS rfl ?_
                          rotate_left
                          · intro w' hw
                            go_simp
                            try with_reducible rfl
                          simp only [Act.put, List.setIfInBounds_toArray, List.set_cons_zero, List.set_cons_succ]
                          refine hs_take (i := 3) (d := some 164) (v := ?_) rfl (by kernel_rfl) (by kernel_rfl) (by kernel_rfl) (by rfl) ?_ hS rfl ?_
                          rotate_left
                          · intro w' hw
                            go_simp
                            try with_reducible rfl
                          simp only [Act.put, List.setIfInBounds_toArray, List.set_cons_zero, List.set_cons_succ]
                          refine hs_take (i := 4) (d := some 165) (v := ?_) rfl (by kernel_rfl) (by kernel_rfl) (by kernel_rfl) (by rfl) ?_ hS rfl ?_
                          rotate_left
                          · intro w' hw
                            have hc := c0 w' hw
                            go_simp
                            try with_reducible rfl
                          simp only [Act.put, List.setIfInBounds_toArray, List.set_cons_zero, List.set_cons_succ]
                          refine hs_take (i := 5) (d := some 166) (v := ?_) rfl (by kernel_rfl) (by kernel_rfl) (by kernel_rfl) (by rfl) ?_ hS rfl ?_
                          rotate_left
                          · intro w' hw
                            go_simp
                            try with_reducible rfl
                          simp only [Act.put, List.setIfInBounds_toArray, List.set_cons_zero, List.set_cons_succ]
                          refine hs_take (i := 6) (d := some 167) (v := ?_) rfl (by kernel_rfl) (by kernel_rfl) (by kernel_rfl) (by rfl) ?_ hS rfl ?_
                          rotate_left
                          · intro w' hw
                            go_simp
                            try with_reducible rfl
                          simp only [Act.put, List.setIfInBounds_toArray, List.set_cons_zero, List.set_cons_succ]
                          refine hs_take (i := 7) (d := some 168) (v := ?_) rfl (by kernel_rfl) (by kernel_rfl) (by kernel_rfl) (by rfl) ?_ hS rfl ?_
                          rotate_left
                          · intro w' hw
                            go_simp
                            try with_reducible rfl
                          simp only [Act.put, List.setIfInBounds_toArray, List.set_cons_zero, List.set_cons_succ]
                          refine hs_take (i := 8) (d := some 169) (v := ?_) rfl (by kernel_rfl) (by kernel_rfl) (by kernel_rfl) (by rfl) ?_ hS rfl ?_
                          rotate_left
                          · intro w' hw
                            go_simp
                            try with_reducible rfl
                          simp only [Act.put, List.setIfInBounds_toArray, List.set_cons_zero, List.set_cons_succ]
                          refine hs_take (i := 9) (d := some 170) (v := ?_) rfl (by kernel_rfl) (by kernel_rfl) (by kernel_rfl) (by rfl) ?_ hS rfl ?_
                          rotate_left
                          · intro w' hw
                            have hc := e0 w' hw
                            go_simp
                            try with_reducible rfl
                          simp only [Act.put, List.setIfInBounds_toArray, List.set_cons_zero, List.set_cons_succ]
                          refine hs_take (i := 10) (d := some 171) (v := .bool false) rfl (by kernel_rfl) (by kernel_rfl) (by kernel_rfl) (by rfl) (fun w' hw => by go_simp) hS rfl ?_
                          simp only [Act.put, List.setIfInBounds_toArray, List.set_cons_zero, List.set_cons_succ]
                          refine hs_take (i := 11) (d := some 172) (v := ?_) rfl (by kernel_rfl) (by kernel_rfl) (by kernel_rfl) (by rfl) ?_ hS rfl ?_
                          rotate_left
                          · intro w' hw
                            go_simp
                            try with_reducible rfl
                          simp only [Act.put, List.setIfInBounds_toArray, List.set_cons_zero, List.set_cons_succ]
                          refine hs_skip (i := 12) (d := some 173) rfl (by kernel_rfl) (by kernel_rfl) (by kernel_rfl) (by rfl) hS rfl ?_
                          simp only [Act.put, List.setIfInBounds_toArray, List.set_cons_zero, List.set_cons_succ]
                          refine hs_skip (i := 13) (d := some 174) rfl (by kernel_rfl) (by kernel_rfl) (by kernel_rfl) (by rfl) hS rfl ?_
                          simp only [Act.put, List.setIfInBounds_toArray, List.set_cons_zero, List.set_cons_succ]
                          refine hs_skip (i := 14) (d := some 175) rfl (by kernel_rfl) (by kernel_rfl) (by kernel_rfl) (by rfl) hS rfl ?_
                          simp only [Act.put, List.setIfInBounds_toArray, List.set_cons_zero, List.set_cons_succ]
                          refine hs_skip (i := 15) (d := some 176) rfl (by kernel_rfl) (by kernel_rfl) (by kernel_rfl) (by rfl) hS rfl ?_
                          simp only [Act.put, List.setIfInBounds_toArray, List.set_cons_zero, List.set_cons_succ]
                          refine hs_skip (i := 16) (d := some 177) rfl (by kernel_rfl) (by kernel_rfl) (by kernel_rfl) (by rfl) hS rfl ?_
                          simp only [Act.put, List.setIfInBounds_toArray, List.set_cons_zero, List.set_cons_succ]
                          refine hs_skip (i := 17) (d := some 178) rfl (by kernel_rfl) (by kernel_rfl) (by kernel_rfl) (by rfl) hS rfl ?_
                          simp only [Act.put, List.setIfInBounds_toArray, List.set_cons_zero, List.set_cons_succ]
                          refine hs_skip (i := 18) (d := some 179) rfl (by kernel_rfl) (by kernel_rfl) (by kernel_rfl) (by rfl) hS rfl ?_
                          simp only [Act.put, List.setIfInBounds_toArray, List.set_cons_zero, List.set_cons_succ]
                          refine hs_skip (i := 19) (d := some 180) rfl (by kernel_rfl) (by kernel_rfl) (by kernel_rfl) (by rfl) hS rfl ?_
                          simp only [Act.put, List.setIfInBounds_toArray, List.set_cons_zero, List.set_cons_succ]
                          refine hs_skip (i := 20) (d := some 181) rfl (by kernel_rfl) (by kernel_rfl) (by kernel_rfl) (by rfl) hS rfl ?_
                          simp only [Act.put, List.setIfInBounds_toArray, List.set_cons_zero, List.set_cons_succ]
                          refine hs_skip (i := 21) (d := some 182) rfl (by kernel_rfl) (by kernel_rfl) (by kernel_rfl) (by rfl) hS rfl ?_
                          simp only [Act.put, List.setIfInBounds_toArray, List.set_cons_zero, List.set_cons_succ]
                          refine hs_skip (i := 22) (d := some 183) rfl (by kernel_rfl) (by kernel_rfl) (by kernel_rfl) (by rfl) hS rfl ?_
                          simp only [Act.put, List.setIfInBounds_toArray, List.set_cons_zero, List.set_cons_succ]
                          refine hs_take (i := 23) (d := some 184) (v := .bool false) rfl (by kernel_rfl) (by kernel_rfl) (by kernel_rfl) (by rfl) (fun w' hw => by go_simp) hS rfl ?_
                          simp only [Act.put, List.setIfInBounds_toArray, List.set_cons_zero, List.set_cons_succ]
                          refine hs_done (by kernel_rfl) ?_
                          go_wp2_with fail
                          go_roundw
                          case rel => exact ⟨j2 + 1, by omega, by go_num, hB8'⟩
                          case measure => simp [intOf]; omega
                      · have kj : ¬ (j2 : Int) < (i2 : Int) := by omega
                        go_wp2_with fail
                        go_roundw
                        case rel => exact ⟨i2 + 1, by omega, by go_num, hBi.trans (hBj.mono hBi.size)⟩
                        case measure => simp [intOf]; omega
                  · have ki : ¬ (i2 : Int) < (l.length : Int) := by omega
                    have h7 := h6.below hBi
                    go_wp2_with fail
                    go_roundw
                    case rel => exact ⟨b + 1, N + l.length, by omega, by go_num, by go_num, HN2, hN2, h7⟩
                    case measure => simp [intOf]; omega
              · have kb : ¬ (b : Int) < (k : Int) := by omega
                have HE : Hid ((flatP ls2).length = N) := hide (by rw [HN.out, List.take_of_length_le (by omega)])
                have cl := len_any Q3 M ls2 wr h5.at_
                rw [hq3.out, HE.out] at cl
                go_wp2_with fail
                refine cl.mono ?_
                rintro e w6 ⟨rfl, hx⟩
                obtain rfl := hx.symm
                clear cl hx
                go_wp2_with fail
                go_roundw
                case rel => exact ⟨j + 1, Q3, ls2, by omega, by go_num, hq3, h5, hLen2⟩
                case measure => simp [intOf]; omega
      · have j1 : ¬ (j : Int) < (As.length : Int) := by omega
        have cL := lives_any wr (hG.below h3.b)
        go_wp2_with fail
        refine cL.mono ?_
        rintro e w9 ⟨rfl, hb9⟩
        clear cL
        go_wp2_with fail
        go_ret
        exact ⟨rfl, h3.b.trans (hb9.mono h3.b.size)⟩
end Go.Proofs.YtbfcbjjhdadicaaDoor
