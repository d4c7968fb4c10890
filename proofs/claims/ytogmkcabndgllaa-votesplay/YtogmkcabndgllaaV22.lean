/- Best: the walk -/
import Derived.Test.YtogmkcabndgllaaV21
import Derived.Test.YtogmkcabndgllaaV17
namespace Go.Proofs.Ytogmkcabndgllaa
open Go.RowKit
theorem ranges_at {H : Type} {P : Program} {k : TypeId} {R : Value → Option (DataW H × List MemPlace)} {w w' : World} {b r n : Nat} {D : DataW H} {left : Lit → Bool} {cnt : Nat} (h : w.ranges P k R b r n D left cnt) (h1 : w'.heap[b]? = w.heap[b]?) (h2 : w'.heap[r]? = w.heap[r]?) : w'.ranges P k R b r n D left cnt := by
  obtain ⟨es, clock, since, seen, c0, hb, F, hs, hD, hr, rest⟩ := h
  exact ⟨es, clock, since, seen, c0, h1.trans hb, F, hs, hD, h2.trans hr, rest⟩
theorem wpList_next_cnt {w : World} {ops : Array Oper} {rest : List Oper} {o : Oper} {a : Act} {Q : Exit → Act → World → Prop} (hg : o.guard = none) (it : Operand) (hop : o.op = Op.next it false) {b r n : Nat} {D : DataW Unit} {left : Lit → Bool} {cnt : Nat} {st : List On} {p : On → Bool}
    (hit : a.eval it = .pointer (some ⟨r, 0, none⟩)) (h : w.ranges Try.prog 31 (plainElem Try.prog 3) b r n D left cnt) (ho : ∀ x ∈ st, x.ok) (hat : ∀ v : Vt, v.ok → D.atKey (klV v) (.lit (.int .i64 0)) = .lit (.int .i64 (cntP st p v))) (hsub : ∀ kl, left kl = true → ∃ x ∈ st, p x = true ∧ kl = klV x.v)
    (hDone : (∀ kl, left kl = false) → wpList Try.prog ops Q rest (a.put o.dst (.tuple #[.bool false])) w)
    (hMore : ∀ x ∈ st, p x = true → left (klV x.v) = true → ∀ (w' : World) (cnt' : Nat), w'.ranges Try.prog 31 (plainElem Try.prog 3) b r n D (fun z => left z && !z.sameKey (klV x.v)) cnt' → cnt' < cnt → w.grownBy w' (some r) →
      (Instr.entry (.pointer (some ⟨r, 0, none⟩))).run Try.prog w' = .ok (.tuple #[.agg x.v.cells.toArray, .int .i64 (cntP st p x.v)]) w' → wpList Try.prog ops Q rest (a.put o.dst (.tuple #[.bool true, .agg x.v.cells.toArray, .int .i64 (cntP st p x.v)])) w') :
    wpList Try.prog ops Q (o :: rest) a w := by
  refine wpList_plain hg fun K' hK' => ?_
  unfold Oper.wp
  rcases h.next lawV o.type with ⟨h0, hl, hrun⟩ | ⟨key, v, kl, y, w', cnt', hkey, hlk, hv, ha, hrun, hrg, hlt, hgr, hsz, hen⟩
  · simp [execOp, hop, hit, hrun, Result.andThen]
    exact hK' _ _ (hDone hl)
  · obtain ⟨x, hx, hpx, rfl⟩ := hsub kl hlk
    have hxo := (ho x hx).v
    have e1 := lawV.inj hkey (key_vote x.v hxo)
    subst e1
    obtain ⟨c, rfl, hz, _⟩ := plainElem_int_inv Try.underlying3 hv
    have e2 : c = (cntP st p x.v : Int) := by
      have h1 := ha (.lit (.int .i64 0))
      rw [hat x.v hxo, hz] at h1
      simp only [DataW.lit.injEq, Lit.int.injEq, true_and] at h1
      exact h1.symm
    subst e2
    simp [execOp, hop, hit, hrun, Result.andThen]
    exact hK' _ _ (hMore x hx hpx hlk w' cnt' hrg hlt hgr hen)
/-- which have been met -/
def Met (st : List On) (k need : Int) (left : Lit → Bool) (v : Vt) : Prop := Cand st k need v ∧ left (klV v) = false
theorem met_step {N : Int} {st : List On} (hb : Bk N st) {k need : Int} {left : Lit → Bool} {x : On} (hx : x ∈ st) (hk : x.v.k = k) (hn : need ≤ (countL st x.v : Int)) (v : Vt) : (Met st k need left v ∨ v = x.v) ↔ Met st k need (fun z => left z && !z.sameKey (klV x.v)) v := by
  have hxo := (hb.ok x hx).v
  have hkx := lawV.key (key_vote x.v hxo)
  constructor
  · rintro (⟨h1, h2⟩ | rfl)
    · exact ⟨h1, by simp [h2]⟩
    · exact ⟨⟨hk, ⟨x, hx, rfl⟩, hn⟩, by simp [WideAt.sameKey_self hkx]⟩
  · rintro ⟨h1, h2⟩
    obtain ⟨y, hy, rfl⟩ := h1.2.1
    by_cases he : y.v = x.v
    · exact .inr he
    · have hs : (klV y.v).sameKey (klV x.v) = false := Maps.sameKey_ne (fun q => he (klV_inj (hb.ok y hy).v hxo q))
      simp only [hs] at h2
      exact .inl ⟨h1, by simpa using h2⟩
theorem met_skip {N : Int} {st : List On} (hb : Bk N st) {k need : Int} {left : Lit → Bool} {x : On} (hx : x ∈ st) (hn : ¬ need ≤ (countL st x.v : Int)) (v : Vt) : Met st k need left v ↔ Met st k need (fun z => left z && !z.sameKey (klV x.v)) v := by
  have hxo := (hb.ok x hx).v
  constructor
  · rintro ⟨h1, h2⟩
    exact ⟨h1, by simp [h2]⟩
  · rintro ⟨h1, h2⟩
    obtain ⟨y, hy, rfl⟩ := h1.2.1
    have he : y.v ≠ x.v := fun e => hn (by rw [← e]; exact h1.2.2)
    have hs : (klV y.v).sameKey (klV x.v) = false := Maps.sameKey_ne (fun q => he (klV_inj (hb.ok y hy).v hxo q))
    simp only [hs] at h2
    exact ⟨h1, by simpa using h2⟩
theorem top_ok {N : Int} {st : List On} (hb : Bk N st) {k need : Int} {left : Lit → Bool} {o : Option Vt} (h : Top (Met st k need left) o) : (o.getD vt0).ok := by
  cases o with
  | none => exact vt0_ok
  | some b =>
    obtain ⟨y, hy, e⟩ := h.1.1.2.1
    show b.ok
    rw [← e]
    exact (hb.ok y hy).v
theorem box_made {w w2 : World} {t1 t2 : TypeId} (h : (w.alloc (.cells vt0.cells.toArray t1)).alloc (.cells #[.bool false] t2) = w2) : BoxB w2 (w.heap.size + 1) w.heap.size none ∧ Below w.heap.size w w2 ∧ w2.heap.size ≥ w.heap.size + 2 := by
  obtain ⟨h1, h2, h3, h4⟩ := two_new h
  obtain ⟨_, q2, _, _⟩ := box_new h
  have hc : w2.cell? ⟨w.heap.size + 1, 0, none⟩ = some (.bool false) := by
    rw [← h]
    have := range_new (w.alloc (.cells vt0.cells.toArray t1)) #[.bool false] t2 0 _ rfl
    rwa [World.size_alloc, Nat.add_zero] at this
  exact ⟨⟨by omega, hc, q2, h3, by simpa [vt0_ok.len] using h2, by omega, by omega⟩, h1, h4⟩
theorem cert_one1 (u : List Value) (hu : ∀ v ∈ u, v.oneCell' = true) {a : Option Addr} {m cap : Nat} : (u ++ [Value.slice a m cap]).toArray.all (·.oneCell') = true := all_one (fun x hx => by
  rcases List.mem_append.1 hx with q | q
  · exact hu x q
  · simp only [List.mem_singleton] at q
    subst q
    rfl)
structure Br (w1 wr : World) (M r Fb Bb n : Nat) (st : List On) (k need : Int) (D : DataW Unit) : Prop where
  ex : ∃ left cnt o, wr.ranges Try.prog 31 (plainElem Try.prog 3) M r n D left cnt ∧ (∀ kl, left kl = true → ∃ x ∈ st, decide (x.v.k = k) = true ∧ kl = klV x.v) ∧ Top (Met st k need left) o ∧ BoxB wr Fb Bb o
  bel : Below w1.heap.size w1 wr
set_option maxRecDepth 100000 in
set_option maxHeartbeats 8000000 in
theorem best_any (B b : Nat) (N : Int) (st : List On) (k need : Int) (w : World) (h : BookAt w B b N st) (hlen : st.length < 1000000) :
    Calls Try.prog 19 #[.pointer (some ⟨B, 0, none⟩), .int .i64 k, .int .i64 need] w fun e w' => ∃ o, Top (Cand st k need) o ∧ (o.getD vt0).ok ∧ ∃ a cap, e = .returned (.tuple #[.agg ((cvOf (o.getD vt0) (certOf N st (o.getD vt0) need)).cells ++ [Value.slice a ((certOf N st (o.getD vt0) need).getD []).length cap]).toArray, .bool (certOf N st (o.getD vt0) need).isSome]) ∧ SigsAt w' a ((certOf N st (o.getD vt0) need).getD []) ∧ ((certOf N st (o.getD vt0) need).getD []).length ≤ cap ∧ (∀ x, a = some x → w.heap.size ≤ x.block) ∧ Below w.heap.size w w' := by
  have hbk := h.bk
  have hct : ∀ v : Vt, v.k = k → cntP st (fun x => decide (x.v.k = k)) v = countL st v := fun v hv => by rw [← hv]; exact cnt_count st v
  go_enter Try.func19, Try.ntmps19
  go_upto_region 1 with fail
  go_name_world w1 hw1
  obtain ⟨hB1, hT1, hsz1⟩ := one_new hw1
  simp only [List.size_toArray, List.length_cons, List.length_nil, Nat.zero_add, Nat.reduceAdd] at hT1
  clear hw1
  have h1 := h.below hB1
  have cM := isMade_yes B b N st w1 h1
  go_wp2_with fail
  refine cM.mono ?_
  rintro _ wx ⟨rfl, hx⟩
  obtain rfl := hx.symm
  clear hx cM
  go_upto_region 6 with fail
  go_name_world w2 hw2
  obtain ⟨hbx, hB2, hsz2⟩ := box_made hw2
  clear hw2
  obtain ⟨Fb, hFb⟩ : ∃ Fb, Hid (w1.heap.size + 1 = Fb) := ⟨_, hide rfl⟩
  obtain ⟨Bb, hBb⟩ : ∃ Bb, Hid (w1.heap.size = Bb) := ⟨_, hide rfl⟩
  have hF1 : w1.heap.size ≤ Fb := by rw [← hFb.out]; omega
  have hB1' : w1.heap.size ≤ Bb := by rw [← hBb.out]; omega
  rw [hFb.out, hBb.out] at hbx
  rw [hFb.out, hBb.out]
  have h2 := h1.below hB2
  have HTH : ∀ w' : World, Below w1.heap.size w1 w' → w'.there w.heap.size 0 37 := fun w' hb => there_below hT1 hb (by omega)
  have cC := counts_any B b N st k w2 h2 hlen
  clear h1 hT1
  go_wp2_with fail
  refine cC.mono ?_
  rintro _ w3 ⟨M, n, rfl, hM, hn, ⟨D, hown, hat, hhas⟩, hB3⟩
  clear cC
  have hbx3 := hbx.below hB3
  have hb3 : Below w1.heap.size w1 w3 := hB2.trans (hB3.mono (by omega))
  have hs3 := hB3.size
  have hMl := hown.lt
  go_wp2_with (first
    | (at_range; refine wpList_range_own _ rfl _ 68 rfl 31 3 lawV Try.underlying68 _ M _ D rfl hown ?_; intro w4 hrg4 hg4 hs4))
  go_frame
  obtain ⟨r, hr⟩ : ∃ r, Hid (w3.heap.size = r) := ⟨_, hide rfl⟩
  rw [hr.out] at hrg4 ⊢
  have hrM : M ≠ r := by rw [← hr.out]; omega
  have hrl : w2.heap.size ≤ r := by rw [← hr.out]; omega
  have ht0 : Top (Met st k need (Maps.has D)) none := fun v hv => by
    obtain ⟨y, hy, e⟩ := hv.1.2.1
    have := (hhas (klV v)).2 ⟨y, hy, decide_eq_true (by rw [e]; exact hv.1.1), by rw [e]⟩
    rw [hv.2] at this
    cases this
  have hst : Hid (Br w1 w4 M r Fb Bb n st k need D) := hide ⟨⟨Maps.has D, Maps.size D, none, hrg4, fun kl hk => (hhas kl).1 hk, ht0, hbx3.at hg4.size (hg4.block _ hbx3.fl (by simp)) (hg4.block _ hbx3.vl (by simp))⟩, hb3.grown hg4 (by omega) (fun j hj => by cases hj)⟩
  have hFM : Fb ≠ M ∧ Bb ≠ M ∧ Fb ≠ r ∧ Bb ≠ r := by
    have q1 := hbx.fl
    have q2 := hbx.vl
    omega
  clear hrg4 hg4 hs4 hb3 hbx3 hown hr hhas hbx
  go_loopw [22] (fun _ wr => Hid (Br w1 wr M r Fb Bb n st k need D)) (fun _ wr => wr.rangeLeft M r)
  case atStart => exact hst
  case round =>
    clear hst
    obtain ⟨⟨left, cnt, o, hrg, hsub, htop, hbx⟩, hbel⟩ := hrel.out
    clear hrel
    go_wp2_with (first | (at_next; refine wpList_next_cnt rfl _ rfl rfl hrg hbk.ok hat hsub ?_ ?_))
    · intro hl0
      have hTc : Top (Cand st k need) o := htop.congr (fun u => ⟨fun q => q.1, fun q => ⟨q, hl0 _⟩⟩)
      have hok := top_ok hbk htop
      have hbr := hbx.v
      have hk1 : BookAt wr B b N st := (h.below hB1).below (hbel.mono (Nat.le_refl _))
      have hTr := HTH wr hbel
      have HTC := hide hTc
      have HOK := hide hok
      have cT := cert_any B b N st (o.getD vt0) hok need wr hk1 hlen
      have hi36 : (Try.prog.info? 31).map (·.size) = some (o.getD vt0).cells.length := by rw [hok.len]; exact iszV
      obtain ⟨u, hu⟩ : ∃ u, Hid ((o.getD vt0).cells = u) := ⟨_, hide rfl⟩
      rw [hu.out] at cT hi36 hbr
      have hbs := hbel.size
      clear hrg htop hbx hsub hl0 hTc hok
      go_wp2_with (refine wpList_load_mid rfl 31 _ rfl _ _ rfl u _ hbr Try.underlying31 rfl hi36 ?_)
      refine cT.mono ?_
      rintro _ w5 ⟨a, cap, rfl, hsg, hcap, hba, hB5⟩
      clear cT
      have hT5 := there_below hTr hB5 (by omega)
      have hcv : (cvOf (o.getD vt0) (certOf N st (o.getD vt0) need)).ok := by unfold cvOf; split <;> first | exact HOK.out | exact vt0_ok
      have hc37 : ((cvOf (o.getD vt0) (certOf N st (o.getD vt0) need)).cells ++ [Value.slice a ((certOf N st (o.getD vt0) need).getD []).length cap]).toArray.size = 37 := by simp [hcv.len]
      have hc1 := cert_one1 (a := a) (m := ((certOf N st (o.getD vt0) need).getD []).length) (cap := cap) _ (cvOf (o.getD vt0) (certOf N st (o.getD vt0) need)).one
      have HE : Hid (∃ a' cap', ((cvOf (o.getD vt0) (certOf N st (o.getD vt0) need)).cells ++ [Value.slice a ((certOf N st (o.getD vt0) need).getD []).length cap]) = ((cvOf (o.getD vt0) (certOf N st (o.getD vt0) need)).cells ++ [Value.slice a' ((certOf N st (o.getD vt0) need).getD []).length cap']) ∧ SigsAt w5 a' ((certOf N st (o.getD vt0) need).getD []) ∧ ((certOf N st (o.getD vt0) need).getD []).length ≤ cap' ∧ ∀ x, a' = some x → wr.heap.size ≤ x.block) := hide ⟨a, cap, rfl, hsg, hcap, hba⟩
      obtain ⟨cc, hcc⟩ : ∃ cc, Hid ((cvOf (o.getD vt0) (certOf N st (o.getD vt0) need)).cells ++ [Value.slice a ((certOf N st (o.getD vt0) need).getD []).length cap] = cc) := ⟨_, hide rfl⟩
      rw [hcc.out] at hc37 hc1 HE ⊢
      obtain ⟨bb, hbb⟩ : ∃ bb, Hid ((certOf N st (o.getD vt0) need).isSome = bb) := ⟨_, hide rfl⟩
      rw [hbb.out]
      have hic : (Try.prog.info? 44).map (·.size) = some cc.toArray.size := by rw [hc37]; exact iszCt
      rw [← hc37] at hT5
      clear hcc hsg hcap hba
      go_wp2_with (refine wpList_store_mid rfl 44 _ _ rfl _ 0 cc.toArray rfl rfl hT5 hic hc1 ?_)
      refine bodyPost_ret (results_ct rfl _ _ _ rfl (run_loadVar_mid (P := Try.prog) _ w.heap.size 0 44 cc _ (World.rangeAt_setCells_same _ _ _ _ (by simpa using hT5)) Try.underlying44 rfl (by simpa using hic))) rfl ?_
      obtain ⟨a', cap', he, hsg, hcap, hba⟩ := HE.out
      refine ⟨o, HTC.out, HOK.out, a', cap', by rw [← he, hbb.out]; rfl, ?_, hcap, fun x hx => by have := hba x hx; omega, below_sets (Nat.le_refl _) _ _ _ ((hB1.trans (hbel.mono (by omega))).trans (hB5.mono (by omega)))⟩
      refine SigsAt.at hsg (by rw [size_sets]; exact Nat.le_refl _) (fun x hx => ?_)
      have := hba x hx
      exact set_other _ _ _ _ _ (by omega)
    · intro x hx hpx hlx w5 cnt5 hrg5 hlt5 hg5 hen
      have hkx : x.v.k = k := by simpa using hpx
      rw [hct x.v hkx] at hen ⊢
      have hxo := (hbk.ok x hx).v
      have hsub5 : ∀ kl, (left kl && !kl.sameKey (klV x.v)) = true → ∃ x ∈ st, decide (x.v.k = k) = true ∧ kl = klV x.v := fun kl hkl => hsub kl (by simp only [Bool.and_eq_true] at hkl; exact hkl.1)
      have hbx5 := hbx.at hg5.size (hg5.block _ hbx.fl (fun e => hFM.2.2.1 (by injection e))) (hg5.block _ hbx.vl (fun e => hFM.2.2.2 (by injection e)))
      have hbel5 := hbel.grown hg5 (by have := hbel.size; omega) (fun j hj => by injection hj with hj; omega)
      have hok := top_ok hbk htop
      have hu36 : x.v.cells.toArray.size = 36 := by simpa using hxo.len
      have huo := all_one x.v.one
      have hiV : (Try.prog.info? 31).map (·.size) = some x.v.cells.length := by rw [hxo.len]; exact iszV
      have hiV2 : (Try.prog.info? 31).map (·.size) = some x.v.cells.toArray.size := by rw [hu36]; exact iszV
      have cK := fun w' (h : BoxB w' Fb Bb o) => consider_any Fb Bb o hok x.v hxo w' h
      have hbs := hbel5.size
      obtain ⟨u, hu⟩ : ∃ u, Hid (x.v.cells = u) := ⟨_, hide rfl⟩
      obtain ⟨ct, hctt⟩ : ∃ ct : Int, Hid ((countL st x.v : Int) = ct) := ⟨_, hide rfl⟩
      rw [hu.out, hctt.out] at hen ⊢
      rw [hu.out] at hu36 huo hiV hiV2
      simp only [hu.out] at cK
      clear hsub hbx hbel hpx hat
      go_upto_region 9 with (refine wpList_store_mid rfl 31 _ _ rfl _ 0 u.toArray rfl rfl (there_newN _ _ _ hu36.symm) hiV2 huo ?_)
      go_name_world w6 hw6
      obtain ⟨hB6, hR6, hlt6, -⟩ := one_filled hw6 (by simpa using hu36)
      clear hw6
      have hbx6 := hbx5.below hB6
      have hrg6 := ranges_at hrg5 (hB6.block _ hrg5.owns.lt) (hB6.block _ hrg5.lt)
      have hbel6 := hbel5.trans (hB6.mono hbs)
      have hs6 := hB6.size
      clear hrg5 hbx5 hbel5 hB6
      by_cases hnc : need ≤ ct
      · have hge : decide (ct ≥ need) = true := decide_eq_true hnc
        have htop2 : Top (Met st k need (fun z => left z && !z.sameKey (klV x.v))) (topStep o x.v) := (htop.step x.v (fun u hu => by
          obtain ⟨y, hy, e⟩ := hu.1.2.1
          exact ⟨hu.1.1.trans hkx.symm, by rw [← e, (hbk.ok y hy).v.dl, hxo.dl]⟩)).congr (fun v => met_step hbk hx hkx (by rw [hctt.out]; exact hnc) v)
        go_wp2_with (refine wpList_load_mid rfl 31 _ rfl _ _ rfl u _ hR6 Try.underlying31 rfl hiV ?_)
        refine (cK w6 hbx6).mono ?_
        rintro _ w7 ⟨rfl, hbx7, hO7⟩
        have hrg7 := ranges_at hrg6 (hO7.2 _ hrg6.owns.lt (fun q => by omega)) (hO7.2 _ hrg6.lt (fun q => by omega))
        have HM := hide hrg7.left_eq
        have HR : Hid (Br w1 w7 M r Fb Bb n st k need D) := hide ⟨⟨_, cnt5, _, hrg7, hsub5, htop2, hbx7⟩, hbel6.trans (hO7.below (by have := hbel6.size; omega) (fun z hz q => by omega))⟩
        clear hrg7 hbx7 hO7 hrg6 hbx6 htop2 hbel6 cK
        go_wp2_with fail
        go_roundw
        case rel => exact HR
        case measure => rw [HM.out, hrg.left_eq]; exact hlt5
      · have hge : decide (ct ≥ need) = false := decide_eq_false hnc
        have hlt : ct < need := by omega
        have htop2 : Top (Met st k need (fun z => left z && !z.sameKey (klV x.v))) o := htop.congr (fun v => met_skip hbk hx (by rw [hctt.out]; exact hnc) v)
        have HM := hide hrg6.left_eq
        have HR : Hid (Br w1 w6 M r Fb Bb n st k need D) := hide ⟨⟨_, cnt5, _, hrg6, hsub5, htop2, hbx6⟩, hbel6⟩
        clear hrg6 hbx6 htop2 hbel6 cK
        go_wp2_with fail
        go_roundw
        case rel => exact HR
        case measure => rw [HM.out, hrg.left_eq]; exact hlt5
end Go.Proofs.Ytogmkcabndgllaa
