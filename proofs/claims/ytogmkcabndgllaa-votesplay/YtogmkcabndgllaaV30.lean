/- the document's Best: the walk -/
import Derived.Test.YtogmkcabndgllaaV29
namespace Go.Proofs.Ytogmkcabndgllaa
open Go.RowKit
theorem box_ct {w w2 : World} {a1 : Array Value} {t1 t2 : TypeId} (h : (w.alloc (.cells a1 t1)).alloc (.cells ct0.toArray t2) = w2) : w2.rangeAt (w.heap.size + 1) 0 (vt0.cells ++ [Value.slice none 0 0]) := by
  rw [← h]
  have := range_new (w.alloc (.cells a1 t1)) ct0.toArray t2
  rw [World.size_alloc] at this
  simpa [ct0] using this
set_option maxRecDepth 100000 in
set_option maxHeartbeats 8000000 in
theorem xbest_any (X : Nat) (a0 : Option Addr) (cap0 : Nat) (N : Int) (st : List On) (k need : Int) (w : World) (h : XAt w X a0 cap0 N st) (hlen : st.length < 1000000) :
    Calls Try.prog 20 #[.pointer (some ⟨X, 0, none⟩), .int .i64 k, .int .i64 need] w fun e w' => ∃ o, Top (fun v => Cand st k need v ∧ 1 ≤ need) o ∧ ∃ a cap, e = .returned (.tuple #[.agg ((o.getD vt0).cells ++ [Value.slice a ((certOf N st (o.getD vt0) need).getD []).length cap]).toArray, .bool o.isSome]) ∧ SigsAt w' a ((certOf N st (o.getD vt0) need).getD []) ∧ Below w.heap.size w w' := by
  have hbk := h.bk
  have hgood := h.bk.good
  have hXl := h.lt
  go_enter Try.func20, Try.ntmps20
  go_upto_region 2 with fail
  go_name_world w1 hw1
  obtain ⟨hB1, hT1, hT2, hsz1⟩ := two_new hw1
  have hz := box_ct hw1
  simp only [List.size_toArray, List.length_cons, List.length_nil, Nat.zero_add, Nat.reduceAdd] at hT1 hT2
  clear hw1
  obtain ⟨NN, hNN⟩ : ∃ NN : Nat, N = (NN : Int) := ⟨N.toNat, by omega⟩
  have hNt : N.toNat = NN := by omega
  have hN6 : NN ≤ 64 := by omega
  have hc0 : certOf N st vt0 need = none := by
    apply certOf_none
    by_cases q : need < 1
    · exact .inl q
    · right
      rw [count_zero hbk (by decide)]
      simp; omega
  have HST : Hid (Top (fun v => CandJ st k need 0 v ∧ 1 ≤ need) none ∧ XB w1 w1 w.heap.size (w.heap.size + 1) N st need none ∧ Below w.heap.size w w1) := hide ⟨fun v hv => candj_zero hbk k need v hv.1, ⟨⟨none, 0, by simp only [Option.getD_none, hc0, List.length_nil]; exact hz, by simp only [Option.getD_none, hc0]; exact SigsAt.none, fun x hx => by cases hx⟩, hT2, hT1, by omega, by omega, by omega, Nat.le_refl _⟩, hB1⟩
  clear hz hc0 hT1 hT2
  go_wp2_with fail
  go_loopw [9, 10] (fun fv iv wr => ∃ (j : Nat) (o : Option Vt), j ≤ NN ∧ iv = .int .i64 (j : Int) ∧ fv = .bool o.isSome ∧ Hid (Top (fun v => CandJ st k need j v ∧ 1 ≤ need) o ∧ XB w1 wr w.heap.size (w.heap.size + 1) N st need o ∧ Below w.heap.size w wr)) (fun _ iv _ => NN - (intOf iv).toNat)
  case atStart => exact ⟨0, none, by omega, rfl, rfl, HST⟩
  case round =>
    clear HST
    obtain ⟨j, o, hj, rfl, rfl, HK⟩ := hrel
    obtain ⟨htop, hxb, hbel⟩ := HK.out
    clear HK
    have hX := h.below hbel
    have c0 := hX.c0
    have hwl := hbel.size
    rw [hNN] at c0
    by_cases hlt : j < NN
    · have hjI : (j : Int) < (NN : Int) := by omega
      have cO := xof_any X a0 cap0 N st k (j : Int) wr hX hlen
      have hy := find_ok hbk k (j : Int)
      cases hf : find st k (j : Int) with
      | none =>
        rw [hf] at cO hy
        simp only [Option.getD_none, Option.isSome_none] at cO hy
        go_wp2_with fail
        refine cO.mono ?_
        rintro _ w5 ⟨rfl, hB5⟩
        clear cO
        have q36 : on0.v.cells.toArray.size = 36 := by simpa using hy.v.len
        have q16 : (v8 on0.t).toArray.size = 16 := by simpa using hy.tl
        have q1 := all_one on0.v.one
        have q2 := all_one (v8_one on0.t)
        have iq1 : (Try.prog.info? 31).map (·.size) = some on0.v.cells.toArray.size := by rw [q36]; exact iszV
        have iq2 : (Try.prog.info? 33).map (·.size) = some (v8 on0.t).toArray.size := by rw [q16]; exact iszT
        have iq3 : (Try.prog.info? 31).map (·.size) = some on0.v.cells.length := by rw [hy.v.len]; exact iszV
        obtain ⟨yc, hyc⟩ : ∃ yc, Hid (on0.v.cells = yc) := ⟨_, hide rfl⟩
        obtain ⟨yt, hyt⟩ : ∃ yt, Hid (v8 on0.t = yt) := ⟨_, hide rfl⟩
        rw [hyc.out] at q36 q1 iq1 iq3 ⊢
        rw [hyt.out] at q16 q2 iq2 ⊢
        go_upto_region 7 with (first
          | (refine wpList_store_mid rfl 31 _ _ rfl _ 0 yc.toArray rfl rfl (two_thereA _ _ _ _ _ q36.symm) iq1 q1 ?_)
          | (refine wpList_store_mid rfl 33 _ _ rfl _ 0 yt.toArray rfl rfl (two_thereB _ _ _ _ _ _ q16.symm) iq2 q2 ?_))
        go_name_world w6 hw6
        obtain ⟨hB6, hY, hYT⟩ := two_filled2 hw6 (by simpa using q36) (by simpa using q16)
        clear hw6 hYT
        have hxb := (hxb.below hB5).below hB6
        have hb56 := hB5.trans (hB6.mono hB5.size)
        have hbel := hbel.trans (hb56.mono hwl)
        clear hB5 hB6 hb56

        have HR : Hid (Top (fun v => CandJ st k need (j + 1) v ∧ 1 ≤ need) o ∧ XB w1 w6 w.heap.size (w.heap.size + 1) N st need o ∧ Below w.heap.size w w6) := hide ⟨htop.congr (fun v => by constructor <;> (rintro ⟨q1, q2⟩; first | exact ⟨(candj_none hf v).1 q1, q2⟩ | exact ⟨(candj_none hf v).2 q1, q2⟩)), hxb, hbel⟩
        clear hxb hbel
        go_wp2_with fail
        go_roundw
        case rel => exact ⟨j + 1, o, by omega, by go_num, rfl, HR⟩
        case measure => simp [intOf]; omega

      | some y =>
        rw [hf] at cO hy
        simp only [Option.getD_some, Option.isSome_some] at cO hy
        have hvk := (find_some hf).2.1
        go_wp2_with fail
        refine cO.mono ?_
        rintro _ w5 ⟨rfl, hB5⟩
        clear cO
        have q36 : y.v.cells.toArray.size = 36 := by simpa using hy.v.len
        have q16 : (v8 y.t).toArray.size = 16 := by simpa using hy.tl
        have q1 := all_one y.v.one
        have q2 := all_one (v8_one y.t)
        have iq1 : (Try.prog.info? 31).map (·.size) = some y.v.cells.toArray.size := by rw [q36]; exact iszV
        have iq2 : (Try.prog.info? 33).map (·.size) = some (v8 y.t).toArray.size := by rw [q16]; exact iszT
        have iq3 : (Try.prog.info? 31).map (·.size) = some y.v.cells.length := by rw [hy.v.len]; exact iszV
        obtain ⟨yc, hyc⟩ : ∃ yc, Hid (y.v.cells = yc) := ⟨_, hide rfl⟩
        obtain ⟨yt, hyt⟩ : ∃ yt, Hid (v8 y.t = yt) := ⟨_, hide rfl⟩
        rw [hyc.out] at q36 q1 iq1 iq3 ⊢
        rw [hyt.out] at q16 q2 iq2 ⊢
        go_upto_region 7 with (first
          | (refine wpList_store_mid rfl 31 _ _ rfl _ 0 yc.toArray rfl rfl (two_thereA _ _ _ _ _ q36.symm) iq1 q1 ?_)
          | (refine wpList_store_mid rfl 33 _ _ rfl _ 0 yt.toArray rfl rfl (two_thereB _ _ _ _ _ _ q16.symm) iq2 q2 ?_))
        go_name_world w6 hw6
        obtain ⟨hB6, hY, hYT⟩ := two_filled2 hw6 (by simpa using q36) (by simpa using q16)
        clear hw6 hYT
        have hxb := (hxb.below hB5).below hB6
        have hb56 := hB5.trans (hB6.mono hB5.size)
        have hbel := hbel.trans (hb56.mono hwl)
        clear hB5 hB6 hb56

        have cT := xcert_any X a0 cap0 N st y.v hy.v need w6 (h.below hbel) hlen
        by_cases hcn : need < 1 ∨ (countL st y.v : Int) < need
        · rw [certOf_none hcn] at cT
          simp only [Option.getD_none, Option.isSome_none, List.length_nil, cvOf, Bool.false_eq_true, if_false, hyc.out] at cT
          have htop2 : Top (fun v => CandJ st k need (j + 1) v ∧ 1 ≤ need) o := htop.congr (fun v => by
            constructor
            · rintro ⟨q1, q2⟩; exact ⟨(candj_few hbk.uniq hf (by omega) v).1 q1, q2⟩
            · rintro ⟨q1, q2⟩; exact ⟨(candj_few hbk.uniq hf (by omega) v).2 q1, q2⟩)
          clear hcn
          go_wp2_with (refine wpList_load_mid rfl 31 _ rfl _ _ rfl yc _ hY Try.underlying31 rfl iq3 ?_)
          refine cT.mono ?_
          rintro _ w7 ⟨a, cap, rfl, -, -, hB7⟩
          have hc37 : (vt0.cells ++ [Value.slice a 0 cap]).toArray.size = 37 := by simp [vt0_ok.len]
          have hc1 : (vt0.cells ++ [Value.slice a 0 cap]).toArray.all (·.oneCell') = true := cert_one1 _ vt0.one
          have hic : (Try.prog.info? 44).map (·.size) = some (vt0.cells ++ [Value.slice a 0 cap]).toArray.size := by rw [hc37]; exact iszCt
          obtain ⟨cc, hcc⟩ : ∃ cc, Hid (vt0.cells ++ [Value.slice a 0 cap] = cc) := ⟨_, hide rfl⟩
          rw [hcc.out] at hc37 hc1 hic ⊢
          clear hcc cT
          have hxb := hxb.below hB7
          have hbel := hbel.trans (hB7.mono hbel.size)
          go_upto_region 9 with (refine wpList_store_mid rfl 44 _ _ rfl _ 0 cc.toArray rfl rfl (there_newN _ _ _ hc37.symm) hic hc1 ?_)
          go_name_world w8 hw8
          obtain ⟨hB8, -, -, -⟩ := one_filled hw8 (by simpa using hc37)
          clear hw8
          have hxb := hxb.below hB8
          have hbel := hbel.trans (hB8.mono hbel.size)
          clear hB7 hB8
          have HR : Hid (Top (fun v => CandJ st k need (j + 1) v ∧ 1 ≤ need) o ∧ XB w1 w8 w.heap.size (w.heap.size + 1) N st need o ∧ Below w.heap.size w w8) := hide ⟨htop2, hxb, hbel⟩
          clear hxb hbel
          go_wp2_with fail
          go_roundw
          case rel => exact ⟨j + 1, o, by omega, by go_num, rfl, HR⟩
          case measure => simp [intOf]; omega

        · obtain ⟨nd, rfl⟩ : ∃ nd : Nat, need = (nd : Int) := ⟨need.toNat, by omega⟩
          have hnd : 1 ≤ nd ∧ (nd : Int) ≤ countL st y.v := by omega
          have hce := certOf_some (N := N) hnd.1 hnd.2
          have htop2 : Top (fun v => CandJ st k (nd : Int) (j + 1) v ∧ 1 ≤ (nd : Int)) (topStep o y.v) := (htop.step y.v (fun u hu => by
            obtain ⟨z, hz, e, _⟩ := hu.1.2.1
            exact ⟨hu.1.1.trans hvk.symm, by rw [← e, (hbk.ok z hz).v.dl, hy.v.dl]⟩)).congr (fun v => by
            constructor
            · rintro (⟨q1, q2⟩ | q)
              · exact ⟨(candj_some hbk.uniq hf (by omega) v).1 (.inl q1), q2⟩
              · exact ⟨(candj_some hbk.uniq hf (by omega) v).1 (.inr q), by omega⟩
            · rintro ⟨q1, q2⟩
              rcases (candj_some hbk.uniq hf (by omega) v).2 q1 with q | q
              · exact .inl ⟨q, q2⟩
              · exact .inr q)
          have hoo : (o.getD vt0).ok := by
            cases o with
            | none => exact vt0_ok
            | some b0 =>
              obtain ⟨z, hz, e, _⟩ := htop.1.1.2.1
              show b0.ok
              rw [← e]
              exact (hbk.ok z hz).v
          rw [hce] at cT
          simp only [Option.getD_some, Option.isSome_some, cvOf, if_true, hyc.out] at cT
          have HCE : Hid ((certOf N st y.v (nd : Int)).getD [] = (signsL N.toNat st y.v).take nd) := hide (by rw [hce]; rfl)
          obtain ⟨L, hL⟩ : ∃ L, Hid (((signsL N.toNat st y.v).take nd).length = L) := ⟨_, hide rfl⟩
          simp only [hL.out] at cT
          have hyc36 := hy.v.len
          rw [hyc.out] at hyc36
          have hyo := y.v.one
          rw [hyc.out] at hyo
          have cBt := fun w' b0 (hb0 : b0.ok) => xbetter_any y.v b0 hy.v hb0 w'
          simp only [hyc.out] at cBt
          clear hcn hce hnd
          go_wp2_with (refine wpList_load_mid rfl 31 _ rfl _ _ rfl yc _ hY Try.underlying31 rfl iq3 ?_)
          refine cT.mono ?_
          rintro _ w7 ⟨a, cap, rfl, hsg, hba, hB7⟩
          have hc37 : (yc ++ [Value.slice a L cap]).toArray.size = 37 := by simp [hyc36]
          have hc1 : (yc ++ [Value.slice a L cap]).toArray.all (·.oneCell') = true := cert_one1 _ hyo
          have hic : (Try.prog.info? 44).map (·.size) = some (yc ++ [Value.slice a L cap]).toArray.size := by rw [hc37]; exact iszCt
          obtain ⟨cc, hcc⟩ : ∃ cc, Hid (yc ++ [Value.slice a L cap] = cc) := ⟨_, hide rfl⟩
          rw [hcc.out] at hc37 hc1 hic ⊢
          have hba : ∀ x, a = some x → w1.heap.size ≤ x.block := fun x hx => Nat.le_trans hxb.ge (hba x hx)
          clear cT
          have hxb := hxb.below hB7
          have hbel := hbel.trans (hB7.mono hbel.size)
          go_upto_region 9 with (refine wpList_store_mid rfl 44 _ _ rfl _ 0 cc.toArray rfl rfl (there_newN _ _ _ hc37.symm) hic hc1 ?_)
          go_name_world w8 hw8
          obtain ⟨hB8, hCR, hlt8, -⟩ := one_filled hw8 (by simpa using hc37)
          clear hw8
          have hxb := hxb.below hB8
          have hbel := hbel.trans (hB8.mono hbel.size)
          have hsg := hsg.below hB8
          have rC : w8.rangeAt w7.heap.size 0 yc := by rw [← hcc.out] at hCR; exact range_left hCR
          have hic2 : (Try.prog.info? 44).map (·.size) = some cc.length := by simpa using hic
          clear hB7 hB8
          cases o with
          | none =>
            have hTB := hxb.tb
            rw [← hc37] at hTB
            have HPUT : Hid (XB w1 (w8.setCells (w.heap.size + 1) 0 cc) w.heap.size (w.heap.size + 1) N st (nd : Int) (some y.v)) := hide (by
              have := hxb.put (v := y.v) hy.v (a := a) (cap := cap) (by rw [HCE.out]; exact hsg) hba
              rw [HCE.out, hL.out, hyc.out, hcc.out] at this
              exact this)
            have hbel9 : Below w.heap.size w (w8.setCells (w.heap.size + 1) 0 cc) := below_sets (Nat.le_succ _) _ _ _ hbel
            have HR : Hid (Top (fun v => CandJ st k (nd : Int) (j + 1) v ∧ 1 ≤ (nd : Int)) (some y.v) ∧ XB w1 (w8.setCells (w.heap.size + 1) 0 cc) w.heap.size (w.heap.size + 1) N st (nd : Int) (some y.v) ∧ Below w.heap.size w (w8.setCells (w.heap.size + 1) 0 cc)) := hide ⟨htop2, HPUT.out, hbel9⟩
            clear hxb hbel hbel9 HPUT hsg rC
            simp only [Option.isSome_none]
            go_wp2_with (first
              | (refine wpList_load_mid rfl 44 _ rfl _ _ rfl cc _ hCR Try.underlying44 rfl hic2 ?_)
              | (refine wpList_store_mid rfl 44 _ _ rfl _ 0 cc.toArray rfl rfl hTB hic hc1 ?_))
            go_roundw
            case rel => exact ⟨j + 1, some y.v, by omega, by go_num, rfl, HR⟩
            case measure => simp [intOf]; omega
          | some b0 =>
            have hb0k : b0.ok := hoo
            have cB1 := cBt w8 b0 hb0k
            have ib0 : (Try.prog.info? 31).map (·.size) = some b0.cells.length := by rw [hb0k.len]; exact iszV
            have rB : w8.rangeAt (w.heap.size + 1) 0 b0.cells := by
              obtain ⟨a9, cap9, hr9, _⟩ := hxb.ex
              exact range_left hr9
            have HTS : Hid (topStep (some b0) y.v = if aheadB y.v b0 then some y.v else some b0) := hide rfl
            rw [HTS.out] at htop2
            obtain ⟨ab, hab⟩ : ∃ ab, Hid (aheadB y.v b0 = ab) := ⟨_, hide rfl⟩
            rw [hab.out] at cB1 htop2
            obtain ⟨ub, hub⟩ : ∃ ub, Hid (b0.cells = ub) := ⟨_, hide rfl⟩
            rw [hub.out] at cB1 ib0 rB
            simp only [Option.isSome_some]
            try simp only [Act.put]
            refine wp_region_list ?_
            refine wpList_step fun K hK => ?_
            go_simp
            refine hK _ _ ?_
            clear hK K
            refine wpList_step fun K hK => ?_
            go_simp
            refine hK _ _ ?_
            clear hK K
            refine wpList_step fun K hK => ?_
            go_simp
            refine hK _ _ ?_
            clear hK K
            refine wpList_step fun K hK => ?_
            go_simp
            refine hK _ _ ?_
            clear hK K
            refine wpList_step fun K hK => ?_
            go_simp
            refine hK _ _ ?_
            clear hK K
            refine wpList_step fun K hK => ?_
            go_simp
            refine hK _ _ ?_
            clear hK K
            refine wpList_load_g (by rfl) 31 _ rfl _ _ rfl yc _ rC Try.underlying31 rfl iq3 ?_
            refine wpList_step fun K hK => ?_
            go_simp
            refine hK _ _ ?_
            clear hK K
            refine wpList_load_g (by rfl) 31 _ rfl _ _ rfl ub _ rB Try.underlying31 rfl ib0 ?_
            go_wp2_with fail
            refine cB1.mono ?_
            rintro _ w9 ⟨rfl, hB9⟩
            have hxb := hxb.below hB9
            have hbel := hbel.trans (hB9.mono hbel.size)
            have hCR := range_below hCR hB9 hlt8
            have hsg := hsg.below hB9
            clear cB1 hB9 rB rC
            cases ab
            · simp only [Bool.false_eq_true, if_false] at htop2
              have HR : Hid (Top (fun v => CandJ st k (nd : Int) (j + 1) v ∧ 1 ≤ (nd : Int)) (some b0) ∧ XB w1 w9 w.heap.size (w.heap.size + 1) N st (nd : Int) (some b0) ∧ Below w.heap.size w w9) := hide ⟨htop2, hxb, hbel⟩
              clear hxb hbel
              go_wp2_with fail
              go_roundw
              case rel => exact ⟨j + 1, (some b0), by omega, by go_num, rfl, HR⟩
              case measure => simp [intOf]; omega

            · simp only [if_true] at htop2
              have hTB := hxb.tb
              rw [← hc37] at hTB
              have HPUT : Hid (XB w1 (w9.setCells (w.heap.size + 1) 0 cc) w.heap.size (w.heap.size + 1) N st (nd : Int) (some y.v)) := hide (by
                have := hxb.put (v := y.v) hy.v (a := a) (cap := cap) (by rw [HCE.out]; exact hsg) hba
                rw [HCE.out, hL.out, hyc.out, hcc.out] at this
                exact this)
              have hbel9 : Below w.heap.size w (w9.setCells (w.heap.size + 1) 0 cc) := below_sets (Nat.le_succ _) _ _ _ hbel
              have HR : Hid (Top (fun v => CandJ st k (nd : Int) (j + 1) v ∧ 1 ≤ (nd : Int)) (some y.v) ∧ XB w1 (w9.setCells (w.heap.size + 1) 0 cc) w.heap.size (w.heap.size + 1) N st (nd : Int) (some y.v) ∧ Below w.heap.size w (w9.setCells (w.heap.size + 1) 0 cc)) := hide ⟨htop2, HPUT.out, hbel9⟩
              clear hxb hbel hbel9 HPUT hsg
              go_wp2_with (first
                | (refine wpList_load_mid rfl 44 _ rfl _ _ rfl cc _ hCR Try.underlying44 rfl hic2 ?_)
                | (refine wpList_store_mid rfl 44 _ _ rfl _ 0 cc.toArray rfl rfl hTB hic hc1 ?_))
              go_roundw
              case rel => exact ⟨j + 1, some y.v, by omega, by go_num, rfl, HR⟩
              case measure => simp [intOf]; omega
    · obtain rfl : j = NN := by omega
      have hTf : Top (fun v => Cand st k need v ∧ 1 ≤ need) o := htop.congr (fun v => by rw [← hNt, candj_all hbk])
      have hoo : (o.getD vt0).ok := by
        cases o with
        | none => exact vt0_ok
        | some b0 =>
          obtain ⟨z, hz, e, _⟩ := htop.1.1.2.1
          show b0.ok
          rw [← e]
          exact (hbk.ok z hz).v
      obtain ⟨a, cap, hr9, hsg, hba⟩ := hxb.ex
      have hTR := hxb.tr
      have hge := hxb.rl
      have hc37 : ((o.getD vt0).cells ++ [Value.slice a ((certOf N st (o.getD vt0) need).getD []).length cap]).toArray.size = 37 := by simp [hoo.len]
      have hc1 := cert_one1 (a := a) (m := ((certOf N st (o.getD vt0) need).getD []).length) (cap := cap) _ (o.getD vt0).one
      have HE : Hid (∃ a' cap', ((o.getD vt0).cells ++ [Value.slice a ((certOf N st (o.getD vt0) need).getD []).length cap]) = ((o.getD vt0).cells ++ [Value.slice a' ((certOf N st (o.getD vt0) need).getD []).length cap']) ∧ SigsAt wr a' ((certOf N st (o.getD vt0) need).getD []) ∧ ∀ x, a' = some x → w1.heap.size ≤ x.block) := hide ⟨a, cap, rfl, hsg, hba⟩
      obtain ⟨cc, hcc⟩ : ∃ cc, Hid ((o.getD vt0).cells ++ [Value.slice a ((certOf N st (o.getD vt0) need).getD []).length cap] = cc) := ⟨_, hide rfl⟩
      rw [hcc.out] at hc37 hc1 HE hr9
      have hic : (Try.prog.info? 44).map (·.size) = some cc.toArray.size := by rw [hc37]; exact iszCt
      have hic2 : (Try.prog.info? 44).map (·.size) = some cc.length := by simpa using hic
      rw [← hc37] at hTR
      have HTF := hide hTf
      clear hcc hsg hba htop hTf hxb
      go_wp2_with (first
        | (refine wpList_load_mid rfl 44 _ rfl _ _ rfl cc _ hr9 Try.underlying44 rfl hic2 ?_)
        | (refine wpList_store_mid rfl 44 _ _ rfl _ 0 cc.toArray rfl rfl hTR hic hc1 ?_))
      refine bodyPost_ret (results_ct rfl _ _ _ rfl (run_loadVar_mid (P := Try.prog) _ w.heap.size 0 44 cc _ (World.rangeAt_setCells_same _ _ _ _ (by simpa using hTR)) Try.underlying44 rfl hic2)) rfl ?_
      obtain ⟨a', cap', he, hsg, hba⟩ := HE.out
      refine ⟨o, HTF.out, a', cap', by rw [← he]; rfl, ?_, below_sets (Nat.le_refl _) _ _ _ hbel⟩
      refine SigsAt.at hsg (by rw [size_sets]; exact Nat.le_refl _) (fun x hx => ?_)
      have := hba x hx
      exact set_other _ _ _ _ _ (by omega)
end Go.Proofs.Ytogmkcabndgllaa
