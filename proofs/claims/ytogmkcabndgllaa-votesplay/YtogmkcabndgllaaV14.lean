/- Cert: enough nodes -/
import Derived.Test.YtogmkcabndgllaaV13
namespace Go.Proofs.Ytogmkcabndgllaa
open Go.RowKit
def CL (w2 wr : World) (st : List On) (v : Vt) (nd : Nat) (sv : Value) (j : Nat) : Prop := wr.ownsRow w2.heap.size 52 17 sv ((signsL j st v).take nd).length (flatS ((signsL j st v).take nd)) ∧ Below w2.heap.size w2 wr
theorem own_below17 {w w' : World} {B : Nat} {e : TypeId} {v : Value} {n : Nat} {xs : List Value} (h : w.ownsRow B e 17 v n xs) (hb : Below w.heap.size w w') : w'.ownsRow B e 17 v n xs := owns_at h (fun g hg => hb.block g (owns_lt h hg))
theorem zsg17 : (Value.agg ([Value.int .i64 0] ++ v8 (List.replicate 16 0)).toArray).cells.size = 17 := by decide
theorem take_more {l : List Sg} {m : List Sg} {nd : Nat} {s : Sg} (h : (l.take nd).length < nd) (hm : m = l ++ [s]) : m.take nd = l.take nd ++ [s] := by
  subst hm
  rw [List.length_take] at h
  rw [List.take_append, List.take_of_length_le (by omega : l.length ≤ nd), List.take_of_length_le]
  simp; omega
theorem set_other (w : World) (b o : Nat) (vs : List Value) (x : Nat) (h : x ≠ b) : (w.setCells b o vs).heap[x]? = w.heap[x]? := by
  have : ∀ (vs : List Value) (o : Nat) (w : World), (w.setCells b o vs).heap[x]? = w.heap[x]? := by
    intro vs
    induction vs with
    | nil => intro o w; rfl
    | cons v r ih =>
      intro o w
      rw [World.setCells, ih]
      by_cases hx : x < w.heap.size
      · exact (Off.of_setCell (F := fun z => z = b) w ⟨b, o, none⟩ v rfl).2 x hx h
      · rw [Array.getElem?_eq_none (by simp; omega), Array.getElem?_eq_none (by omega)]
  exact this vs o w
set_option maxRecDepth 100000 in
set_option maxHeartbeats 8000000 in
theorem cert_some (B b : Nat) (N : Int) (st : List On) (v : Vt) (hv : v.ok) (need : Int) (w : World) (h : BookAt w B b N st) (hlen : st.length < 1000000) (hn1 : 1 ≤ need) (hn2 : need ≤ countL st v) :
    Calls Try.prog 16 #[.pointer (some ⟨B, 0, none⟩), .agg v.cells.toArray, .int .i64 need] w fun e w' => ∃ a cap, e = .returned (.tuple #[.agg (v.cells ++ [Value.slice a ((signsL N.toNat st v).take need.toNat).length cap]).toArray, .bool true]) ∧ SigsAt w' a ((signsL N.toNat st v).take need.toNat) ∧ ((signsL N.toNat st v).take need.toNat).length ≤ cap ∧ (∀ x, a = some x → w.heap.size ≤ x.block) ∧ Below w.heap.size w w' := by
  have hbk := h.bk
  have hcs := count_signs h.bk v
  have hle := signs_le N.toNat st v
  have hgood := h.bk.good
  obtain ⟨NN, rfl⟩ : ∃ NN : Nat, N = (NN : Int) := ⟨N.toNat, by omega⟩
  obtain ⟨nd, rfl⟩ : ∃ nd : Nat, need = (nd : Int) := ⟨need.toNat, by omega⟩
  simp only [Int.toNat_natCast] at *
  have hnd : 1 ≤ nd ∧ nd ≤ NN ∧ NN ≤ 64 := by omega
  have hfull : ((signsL NN st v).take nd).length = nd := by rw [List.length_take]; omega
  have cC := fun w1 (h1 : BookAt w1 B b (NN : Int) st) => count_any B b (NN : Int) st v hv w1 h1 hlen
  have heqU := fun (z : Vt) (hz : z.ok) w => eqV z v hz hv w
  have hiV : (Try.prog.info? 31).map (·.size) = some v.cells.length := by rw [hv.len]; exact iszV
  have hu36 := hv.len
  have hvo := v.one
  obtain ⟨k, ep, vw, sl, d⟩ := v
  obtain ⟨u, hu⟩ : ∃ u, Hid ((Vt.mk k ep vw sl d).cells = u) := ⟨_, hide rfl⟩
  have c0k : (u)[0]? = some (.int .i64 k) := by rw [← hu.out]; rfl
  rw [hu.out] at hiV hu36 hvo
  simp only [hu.out] at cC heqU ⊢
  have hz37 : ∀ a m cap, (u ++ [Value.slice a m cap]).toArray.size = 37 := fun a m cap => by simp [hu36]
  have hzo : ∀ a m cap, (u ++ [Value.slice a m cap]).toArray.all (·.oneCell') = true := fun a m cap => all_one (fun x hx => by
    rcases List.mem_append.1 hx with q | q
    · exact hvo x q
    · simp only [List.mem_singleton] at q
      subst q
      rfl)
  obtain ⟨ct, hct⟩ : ∃ ct : Int, Hid (((countL st ⟨k, ep, vw, sl, d⟩ : Nat) : Int) = ct) := ⟨_, hide rfl⟩
  rw [hct.out] at hn2
  simp only [hct.out] at cC
  clear hcs
  go_enter Try.func16, Try.ntmps16
  go_upto_region 1 with fail
  go_name_world w1 hw1
  obtain ⟨hB1, hR1, hT1, hsz1⟩ := box_new hw1
  simp only [List.size_toArray, List.length_cons, List.length_nil, Nat.zero_add, Nat.reduceAdd] at hT1
  clear hw1
  have cC1 := cC w1 (h.below hB1)
  have hd : decide ((nd : Int) < 1) = false := decide_eq_false (by omega)
  try simp only [Act.put]
  refine wp_region_list ?_
  refine wpList_step fun K hK => ?_
  go_simp
  refine hK _ _ ?_
  clear hK K
  refine wpList_step fun K hK => ?_
  go_simp
  refine hK _ _ ?_
  clear hK K
  refine wpList_step fun K hK => ?_
  go_simp
  refine hK _ _ ?_
  clear hK K
  refine wpList_step fun K hK => ?_
  go_simp
  refine hK _ _ ?_
  clear hK K
  refine wpList_load_g (by rfl) 31 _ rfl _ _ rfl u _ hR1 Try.underlying31 rfl hiV ?_
  go_wp2_with fail
  refine cC1.mono ?_
  rintro _ w2 ⟨rfl, hB2⟩
  clear cC1 cC
  have hT2 := there_below hT1 hB2 (by omega)
  have hR2 := range_below hR1 hB2 (by omega)
  have hB12 : Below w.heap.size w w2 := hB1.trans (hB2.mono (by omega))
  have hs2 := hB2.size
  have h2 := h.below hB12
  have hbook : ∀ w', Below w2.heap.size w2 w' → BookAt w' B b (NN : Int) st := fun w' hb => h2.below hb
  have c0 := h2.c0
  obtain ⟨i1, hi1, hiz, his, hib⟩ := info_parts infoSg
  have hnc : ¬ ct < (nd : Int) := by omega
  clear hT1 hR1 hB1 hB2 hd h
  go_upto_region 4 with (at_make; refine wpList_make_own _ rfl _ _ 42 rfl w2.heap.size 52 i1 _ 17 Try.underlying42 hi1 hiz his .i64 .i64 _ nd rfl rfl ?d1 ?d2 ?d3 ?d4 ?_)
  case d1 => rfl
  case d2 => rw [hib]; omega
  case d3 => unfold maxLen; omega
  case d4 => exact Nat.le_refl _
  intro w3 hown3 hgrow3
  have hb3 : Below w2.heap.size w2 w3 := (Below.refl _ _).grown hgrow3 (Nat.le_refl _) (fun k hk => by cases hk)
  have c0' := (hbook w3 hb3).c0
  have HST : Hid (CL w2 w3 st ⟨k, ep, vw, sl, d⟩ nd (.slice (some ⟨w2.heap.size, 0, none⟩) 0 nd) 0) := hide ⟨by simpa [signsL, flatS] using hown3, hb3⟩
  clear hown3 hgrow3 hb3 hi1 hiz his hib
  go_wp2_with fail
  go_loopw [8, 29] (fun sv iv wr => ∃ j : Nat, j ≤ NN ∧ iv = .int .i64 (j : Int) ∧ Hid (CL w2 wr st ⟨k, ep, vw, sl, d⟩ nd sv j)) (fun _ iv _ => NN - (intOf iv).toNat)
  case atStart => exact ⟨0, by omega, rfl, HST⟩
  case round =>
    clear HST c0 c0'
    obtain ⟨j, hj, rfl, HK⟩ := hrel
    obtain ⟨ho, hb⟩ := HK.out
    have hmle : ((signsL j st ⟨k, ep, vw, sl, d⟩).take nd).length ≤ nd := by rw [List.length_take]; omega
    obtain ⟨a, cap, rfl, hcap, hcm, hsg, hba⟩ := own_sigs ho (fun r hr => signs_ok hbk r (List.mem_of_mem_take hr)) (by omega)
    clear HK
    obtain ⟨m, hm⟩ : ∃ m, Hid (((signsL j st ⟨k, ep, vw, sl, d⟩).take nd).length = m) := ⟨_, hide rfl⟩
    have hbs := hb.size
    rw [hm.out] at hcap hmle ⊢
    by_cases hlt : j < NN
    · have hjI : (j : Int) < (NN : Int) := by omega
      by_cases hmf : m = nd
      · have hme : ((m : Int) == (nd : Int)) = true := by rw [hmf]; simp
        have HE : Hid ((signsL NN st ⟨k, ep, vw, sl, d⟩).take nd = (signsL j st ⟨k, ep, vw, sl, d⟩).take nd) := hide (signs_takeN hj (by have := hm.out; rw [List.length_take] at this; omega))
        have HSG : Hid (SigsAt wr a ((signsL NN st ⟨k, ep, vw, sl, d⟩).take nd)) := hide (by rw [HE.out]; exact hsg)
        have HMN : Hid (((signsL NN st ⟨k, ep, vw, sl, d⟩).take nd).length = m) := hide (by rw [HE.out]; exact hm.out)
        have hcap2 : Hid (((signsL NN st ⟨k, ep, vw, sl, d⟩).take nd).length ≤ cap) := hide (by rw [HMN.out]; exact hcap)
        clear hsg ho hmf
        have hRf := range_below hR2 hb (by omega)
        have hTf := there_below hT2 hb (by omega)
        go_wp2_with (first | (refine wpList_load_mid rfl 31 _ rfl _ _ rfl u _ hRf Try.underlying31 rfl hiV ?_) | (refine wpList_build rfl 44 [(0, .tmp 58), (1, .tmp 59)] rfl [(0, .agg u.toArray), (1, .slice a m cap)] (.agg (u ++ [Value.slice a m cap]).toArray) rfl (build_cert u hu36 a m cap _) ?_) | (refine wpList_store_mid rfl 44 _ _ rfl _ 0 (u ++ [Value.slice a m cap]).toArray rfl rfl (by rw [hz37 a m cap]; exact hTf) (by rw [hz37 a m cap]; exact iszCt) (hzo a m cap) ?_))
        refine bodyPost_ret (results_ct rfl _ _ _ rfl (run_loadVar_mid (P := Try.prog) _ (w.heap.size + 1) 0 44 (u ++ [Value.slice a m cap]) _ (World.rangeAt_setCells_same _ _ _ _ (by rw [← List.size_toArray, hz37 a m cap]; exact hTf)) Try.underlying44 rfl (by rw [← List.size_toArray, hz37 a m cap]; exact iszCt))) rfl ?_
        refine ⟨a, cap, by rw [HMN.out]; rfl, ?_, hcap2.out, fun x hx => by have := hba x hx; omega, below_sets (Nat.le_succ _) _ _ _ (hB12.trans (hb.mono (by omega)))⟩
        refine SigsAt.at HSG.out (by rw [size_sets]; exact Nat.le_refl _) (fun x hx => ?_)
        have := hba x hx
        exact set_other _ _ _ _ _ (by omega)
      · have hme : ((m : Int) == (nd : Int)) = false := by simp; omega
        have cO := of_yes B b (NN : Int) st k (j : Int) hv.k ⟨by omega, by omega⟩ wr (hbook wr hb)
        have hy := find_ok hbk k (j : Int)
        have hk0 : wr.cell? ⟨w.heap.size, 0, none⟩ = some (.int .i64 k) := by have := range_below hR2 hb (by omega) 0 _ c0k; simpa using this
        cases hf : find st k (j : Int) with
        | none =>
          have HS : Hid (((signsL (j + 1) st ⟨k, ep, vw, sl, d⟩).take nd) = ((signsL j st ⟨k, ep, vw, sl, d⟩).take nd)) := hide (by rw [signs_succ]; unfold sgOf; simp only [hf]; simp)
          rw [hf] at cO hy
          simp only [Option.getD_none, Option.isSome_none] at cO hy
          go_wp2_with fail
          refine cO.mono ?_
          rintro _ w5 ⟨rfl, hB5⟩
          clear cO
          have hb5 : Below w2.heap.size w2 w5 := hb.trans (hB5.mono hb.size)
          have q36 : on0.v.cells.toArray.size = 36 := by simpa using hy.v.len
          have q16 : (v8 on0.t).toArray.size = 16 := by simpa using hy.tl
          have q1 := all_one on0.v.one
          have q2 := all_one (v8_one on0.t)
          have iq1 : (Try.prog.info? 31).map (·.size) = some on0.v.cells.toArray.size := by rw [q36]; exact iszV
          have iq2 : (Try.prog.info? 33).map (·.size) = some (v8 on0.t).toArray.size := by rw [q16]; exact iszT
          have iq3 : (Try.prog.info? 31).map (·.size) = some on0.v.cells.length := by rw [hy.v.len]; exact iszV
          have iq4 : (Try.prog.info? 33).map (·.size) = some (v8 on0.t).length := by rw [v8_length, hy.tl]; exact iszT
          have heq := heqU on0.v hy.v
          obtain ⟨yc, hyc⟩ : ∃ yc, Hid (on0.v.cells = yc) := ⟨_, hide rfl⟩
          obtain ⟨yt, hyt⟩ : ∃ yt, Hid (v8 on0.t = yt) := ⟨_, hide rfl⟩
          rw [hyc.out] at q36 q1 iq1 iq3 ⊢
          simp only [hyc.out] at heq
          rw [hyt.out] at q16 q2 iq2 iq4 ⊢
          go_upto_region 9 with (first
            | (refine wpList_store_mid rfl 31 _ _ rfl _ 0 yc.toArray rfl rfl (two_thereA _ _ _ _ _ q36.symm) iq1 q1 ?_)
            | (refine wpList_store_mid rfl 33 _ _ rfl _ 0 yt.toArray rfl rfl (two_thereB _ _ _ _ _ _ q16.symm) iq2 q2 ?_))
          go_name_world w6 hw6
          obtain ⟨hB6, hY, hYT⟩ := two_filled2 hw6 (by simpa using q36) (by simpa using q16)
          clear hw6
          have hb6 : Below w2.heap.size w2 w6 := hb5.trans (hB6.mono hb5.size)
          have hR3 := range_below hR2 hb6 (by omega)
          have ho6 := own_below17 (own_below17 ho hB5) hB6
          have hs5 := hB6.size
          try simp only [Act.put]
          refine wp_region_list ?_
          refine wpList_step fun K hK => ?_
          go_simp
          refine hK _ _ ?_
          clear hK K
          refine wpList_step fun K hK => ?_
          go_simp
          refine hK _ _ ?_
          clear hK K
          refine wpList_step fun K hK => ?_
          go_simp
          refine hK _ _ ?_
          clear hK K
          refine wpList_step fun K hK => ?_
          go_simp
          refine hK _ _ ?_
          clear hK K
          refine wpList_step fun K hK => ?_
          go_simp
          refine hK _ _ ?_
          clear hK K
          refine wpList_step fun K hK => ?_
          go_simp
          refine hK _ _ ?_
          clear hK K
          have HR : Hid (CL w2 w6 st ⟨k, ep, vw, sl, d⟩ nd (.slice a m cap) (j + 1)) := hide ⟨by rw [HS.out, hm.out]; rw [hm.out] at ho6; exact ho6, hb6⟩
          clear ho6 hb6
          go_wp2_with fail
          go_roundw
          case rel => exact ⟨j + 1, by omega, by go_num, HR⟩
          case measure => simp [intOf]; omega
        | some y =>
          by_cases hyv : y.v = ⟨k, ep, vw, sl, d⟩
          · skip
            rw [hf] at cO hy
            simp only [Option.getD_some, Option.isSome_some] at cO hy
            have hde : decide (y.v = ⟨k, ep, vw, sl, d⟩) = true := decide_eq_true hyv
            have HS : Hid (((signsL (j + 1) st ⟨k, ep, vw, sl, d⟩).take nd) = ((signsL j st ⟨k, ep, vw, sl, d⟩).take nd) ++ [⟨(j : Int), y.t⟩]) := hide (take_more (by rw [hm.out]; omega) (by rw [signs_succ]; unfold sgOf; simp only [hf]; rw [if_pos hyv]))
            go_wp2_with fail
            refine cO.mono ?_
            rintro _ w5 ⟨rfl, hB5⟩
            clear cO
            have hb5 : Below w2.heap.size w2 w5 := hb.trans (hB5.mono hb.size)
            have q36 : y.v.cells.toArray.size = 36 := by simpa using hy.v.len
            have q16 : (v8 y.t).toArray.size = 16 := by simpa using hy.tl
            have q1 := all_one y.v.one
            have q2 := all_one (v8_one y.t)
            have iq1 : (Try.prog.info? 31).map (·.size) = some y.v.cells.toArray.size := by rw [q36]; exact iszV
            have iq2 : (Try.prog.info? 33).map (·.size) = some (v8 y.t).toArray.size := by rw [q16]; exact iszT
            have iq3 : (Try.prog.info? 31).map (·.size) = some y.v.cells.length := by rw [hy.v.len]; exact iszV
            have iq4 : (Try.prog.info? 33).map (·.size) = some (v8 y.t).length := by rw [v8_length, hy.tl]; exact iszT
            have heq := heqU y.v hy.v
            obtain ⟨yc, hyc⟩ : ∃ yc, Hid (y.v.cells = yc) := ⟨_, hide rfl⟩
            obtain ⟨yt, hyt⟩ : ∃ yt, Hid (v8 y.t = yt) := ⟨_, hide rfl⟩
            rw [hyc.out] at q36 q1 iq1 iq3 ⊢
            simp only [hyc.out] at heq
            rw [hyt.out] at q16 q2 iq2 iq4 ⊢
            go_upto_region 9 with (first
              | (refine wpList_store_mid rfl 31 _ _ rfl _ 0 yc.toArray rfl rfl (two_thereA _ _ _ _ _ q36.symm) iq1 q1 ?_)
              | (refine wpList_store_mid rfl 33 _ _ rfl _ 0 yt.toArray rfl rfl (two_thereB _ _ _ _ _ _ q16.symm) iq2 q2 ?_))
            go_name_world w6 hw6
            obtain ⟨hB6, hY, hYT⟩ := two_filled2 hw6 (by simpa using q36) (by simpa using q16)
            clear hw6
            have hb6 : Below w2.heap.size w2 w6 := hb5.trans (hB6.mono hb5.size)
            have hR3 := range_below hR2 hb6 (by omega)
            have ho6 := own_below17 (own_below17 ho hB5) hB6
            have hs5 := hB6.size
            simp only [hde] at heq
            try simp only [Act.put]
            refine wp_region_list ?_
            refine wpList_step fun K hK => ?_
            go_simp
            refine hK _ _ ?_
            clear hK K
            refine wpList_step fun K hK => ?_
            go_simp
            refine hK _ _ ?_
            clear hK K
            refine wpList_load_g (by rfl) 31 _ rfl _ _ rfl yc _ hY Try.underlying31 rfl iq3 ?_
            refine wpList_load_g (by rfl) 31 _ rfl _ _ rfl u _ hR3 Try.underlying31 rfl hiV ?_
            refine wpList_step fun K hK => ?_
            go_simp
            try rw [heq]
            try go_simp
            refine hK _ _ ?_
            clear hK K
            refine wpList_step fun K hK => ?_
            go_simp
            refine hK _ _ ?_
            clear hK K
            have hul : (Sg.mk (j : Int) y.t).cells.length = 17 := by have := hy.tl; simp [Sg.cells]; omega
            have hu1 := (Sg.mk (j : Int) y.t).one
            have hbs : ∀ w' : World, (Instr.build 52 #[(0, .int .i64 (j : Int)), (1, .agg yt.toArray)]).run Try.prog w' = .ok (.agg (Sg.mk (j : Int) y.t).cells.toArray) w' := fun w' => by rw [← hyt.out]; exact build_sign (j : Int) (v8 y.t) (by rw [v8_length, hy.tl]) w'
            obtain ⟨us, hus⟩ : ∃ us, Hid ((Sg.mk (j : Int) y.t).cells = us) := ⟨_, hide rfl⟩
            rw [hus.out] at hul hu1
            simp only [hus.out] at hbs
            have hown7 := ho6.alloc (.cells us.toArray 52)
            have hsrc7 := one_sign w6 us hul hu1
            have hb7 : Below w2.heap.size w2 (w6.alloc (.cells us.toArray 52)) := hb6.alloc hb6.size _
            obtain ⟨i1, hi1, hiz, his, hib⟩ := info_parts infoSg
            rw [hm.out] at hown7
            go_wp2_with (first
              | (refine wpList_load_mid rfl 33 _ rfl _ _ rfl yt _ hYT Try.underlying33 rfl iq4 ?_)
              | (refine wpList_build rfl 52 [(0, .tmp 52), (1, .tmp 53)] rfl [(0, .int .i64 (j : Int)), (1, .agg yt.toArray)] (.agg us.toArray) rfl (hbs _) ?_)
              | (refine wpList_run1 rfl (exec_bs1 rfl rfl (bs_sign hul _)) ?_)
              | (at_builtin; refine wpList_append_own_src2 _ rfl _ _ 42 42 rfl w2.heap.size 52 i1 _ 17 24 Try.underlying42 hi1 hiz his hib zsg17 _ m _ rfl hown7 (.slice (some ⟨w6.heap.size, 0, none⟩) 1 1) 1 us rfl hsrc7 ?c1 ?c2 ?c3 ?_))
            case c1 => unfold maxLen; omega
            case c2 => omega
            case c3 => exact hb7.size
            intro v8' w8 hown8 hgrow8 _
            have hb8 := own17 hb7 hb7.size hown7 hgrow8
            have HR : Hid (CL w2 w8 st ⟨k, ep, vw, sl, d⟩ nd v8' (j + 1)) := hide ⟨by rw [HS.out, flatS_append, List.length_append, hm.out]; simpa [flatS, hus.out] using hown8, hb8⟩
            clear hown8 hgrow8 hown7 hsrc7 ho6 hb7 hb8 hb6
            go_wp2_with fail
            go_roundw
            case rel => exact ⟨j + 1, by omega, by go_num, HR⟩
            case measure => simp [intOf]; omega
          · skip
            rw [hf] at cO hy
            simp only [Option.getD_some, Option.isSome_some] at cO hy
            have hde : decide (y.v = ⟨k, ep, vw, sl, d⟩) = false := decide_eq_false hyv
            have HS : Hid (((signsL (j + 1) st ⟨k, ep, vw, sl, d⟩).take nd) = ((signsL j st ⟨k, ep, vw, sl, d⟩).take nd)) := hide (by rw [signs_succ]; unfold sgOf; simp only [hf]; rw [if_neg hyv]; simp)
            go_wp2_with fail
            refine cO.mono ?_
            rintro _ w5 ⟨rfl, hB5⟩
            clear cO
            have hb5 : Below w2.heap.size w2 w5 := hb.trans (hB5.mono hb.size)
            have q36 : y.v.cells.toArray.size = 36 := by simpa using hy.v.len
            have q16 : (v8 y.t).toArray.size = 16 := by simpa using hy.tl
            have q1 := all_one y.v.one
            have q2 := all_one (v8_one y.t)
            have iq1 : (Try.prog.info? 31).map (·.size) = some y.v.cells.toArray.size := by rw [q36]; exact iszV
            have iq2 : (Try.prog.info? 33).map (·.size) = some (v8 y.t).toArray.size := by rw [q16]; exact iszT
            have iq3 : (Try.prog.info? 31).map (·.size) = some y.v.cells.length := by rw [hy.v.len]; exact iszV
            have iq4 : (Try.prog.info? 33).map (·.size) = some (v8 y.t).length := by rw [v8_length, hy.tl]; exact iszT
            have heq := heqU y.v hy.v
            obtain ⟨yc, hyc⟩ : ∃ yc, Hid (y.v.cells = yc) := ⟨_, hide rfl⟩
            obtain ⟨yt, hyt⟩ : ∃ yt, Hid (v8 y.t = yt) := ⟨_, hide rfl⟩
            rw [hyc.out] at q36 q1 iq1 iq3 ⊢
            simp only [hyc.out] at heq
            rw [hyt.out] at q16 q2 iq2 iq4 ⊢
            go_upto_region 9 with (first
              | (refine wpList_store_mid rfl 31 _ _ rfl _ 0 yc.toArray rfl rfl (two_thereA _ _ _ _ _ q36.symm) iq1 q1 ?_)
              | (refine wpList_store_mid rfl 33 _ _ rfl _ 0 yt.toArray rfl rfl (two_thereB _ _ _ _ _ _ q16.symm) iq2 q2 ?_))
            go_name_world w6 hw6
            obtain ⟨hB6, hY, hYT⟩ := two_filled2 hw6 (by simpa using q36) (by simpa using q16)
            clear hw6
            have hb6 : Below w2.heap.size w2 w6 := hb5.trans (hB6.mono hb5.size)
            have hR3 := range_below hR2 hb6 (by omega)
            have ho6 := own_below17 (own_below17 ho hB5) hB6
            have hs5 := hB6.size
            simp only [hde] at heq
            try simp only [Act.put]
            refine wp_region_list ?_
            refine wpList_step fun K hK => ?_
            go_simp
            refine hK _ _ ?_
            clear hK K
            refine wpList_step fun K hK => ?_
            go_simp
            refine hK _ _ ?_
            clear hK K
            refine wpList_load_g (by rfl) 31 _ rfl _ _ rfl yc _ hY Try.underlying31 rfl iq3 ?_
            refine wpList_load_g (by rfl) 31 _ rfl _ _ rfl u _ hR3 Try.underlying31 rfl hiV ?_
            refine wpList_step fun K hK => ?_
            go_simp
            try rw [heq]
            try go_simp
            refine hK _ _ ?_
            clear hK K
            refine wpList_step fun K hK => ?_
            go_simp
            refine hK _ _ ?_
            clear hK K
            have HR : Hid (CL w2 w6 st ⟨k, ep, vw, sl, d⟩ nd (.slice a m cap) (j + 1)) := hide ⟨by rw [HS.out, hm.out]; rw [hm.out] at ho6; exact ho6, hb6⟩
            clear ho6 hb6
            go_wp2_with fail
            go_roundw
            case rel => exact ⟨j + 1, by omega, by go_num, HR⟩
            case measure => simp [intOf]; omega
    · obtain rfl : j = NN := by omega
      have HSG : Hid (SigsAt wr a ((signsL j st ⟨k, ep, vw, sl, d⟩).take nd)) := hide hsg
      have HMN : Hid (((signsL j st ⟨k, ep, vw, sl, d⟩).take nd).length = m) := hm
      have hcap2 : Hid (((signsL j st ⟨k, ep, vw, sl, d⟩).take nd).length ≤ cap) := hide (by rw [HMN.out]; exact hcap)
      clear hsg ho
      have hRf := range_below hR2 hb (by omega)
      have hTf := there_below hT2 hb (by omega)
      go_wp2_with (first | (refine wpList_load_mid rfl 31 _ rfl _ _ rfl u _ hRf Try.underlying31 rfl hiV ?_) | (refine wpList_build rfl 44 [(0, .tmp 58), (1, .tmp 59)] rfl [(0, .agg u.toArray), (1, .slice a m cap)] (.agg (u ++ [Value.slice a m cap]).toArray) rfl (build_cert u hu36 a m cap _) ?_) | (refine wpList_store_mid rfl 44 _ _ rfl _ 0 (u ++ [Value.slice a m cap]).toArray rfl rfl (by rw [hz37 a m cap]; exact hTf) (by rw [hz37 a m cap]; exact iszCt) (hzo a m cap) ?_))
      refine bodyPost_ret (results_ct rfl _ _ _ rfl (run_loadVar_mid (P := Try.prog) _ (w.heap.size + 1) 0 44 (u ++ [Value.slice a m cap]) _ (World.rangeAt_setCells_same _ _ _ _ (by rw [← List.size_toArray, hz37 a m cap]; exact hTf)) Try.underlying44 rfl (by rw [← List.size_toArray, hz37 a m cap]; exact iszCt))) rfl ?_
      refine ⟨a, cap, by rw [HMN.out]; rfl, ?_, hcap2.out, fun x hx => by have := hba x hx; omega, below_sets (Nat.le_succ _) _ _ _ (hB12.trans (hb.mono (by omega)))⟩
      refine SigsAt.at HSG.out (by rw [size_sets]; exact Nat.le_refl _) (fun x hx => ?_)
      have := hba x hx
      exact set_other _ _ _ _ _ (by omega)
end Go.Proofs.Ytogmkcabndgllaa
