/- an Append done to both tapes; are both the same? -/
import Derived.Test.YtfkchnjbbbhmjaaR6
namespace Go.Proofs.Ytfkchnjbbbhmjaa
open Go.RowKit
set_option maxRecDepth 100000 in
set_option maxHeartbeats 4000000 in
theorem both_0 (t : Tv) (r : Rv) (M : Mt) (y : Ac) (A : Nat → Prop) (w : World) (h : Two A w t r M) (hA : ∀ b, A b → b < w.heap.size) (hz : RowAt w y.da y.zs) (hzA : y.zs = [] ∨ ∀ x, y.da = some x → A x.block) (hzl : y.zs.length ≤ 100000) (hk : y.kind = 0) :
    Calls Try.prog 12 #[tptr t, rptr r, .agg y.cells.toArray] w fun e w' => e = .returned (.bool true) ∧ Next2 A w w' t r (M.append y.area y.zs).2 := by
  have hB1 : Below w.heap.size w (w.alloc (.cells y.cells.toArray 31)) := (Below.refl _ _).alloc (Nat.le_refl _) _
  have hR1 : (w.alloc (.cells y.cells.toArray 31)).rangeAt w.heap.size 0 y.cells := by simpa using range_new w y.cells.toArray 31
  obtain ⟨w1, hw1⟩ : ∃ w1, w.alloc (.cells y.cells.toArray 31) = w1 := ⟨_, rfl⟩
  have hX1 : w.heap.size < w1.heap.size := by rw [← hw1]; simp
  rw [hw1] at hB1 hR1
  have y0 := (act_cells hR1).1
  have y1 := (act_cells hR1).2.1
  have y2 := (act_cells hR1).2.2.1
  simp only [Nat.zero_add] at y1 y2
  obtain ⟨u, hu⟩ : ∃ u, Hid (y.cells = u) := ⟨_, hide rfl⟩
  rw [hu.out] at hw1 ⊢
  clear hu hR1
  rw [hk] at y0
  have h1 := h.below hB1
  obtain ⟨i1, hi1, hiz, his, hib⟩ := info_parts info8
  have hbA : Below w1.heap.size w1 (w1.alloc (.cells #[] 5)) := (Below.refl _ _).alloc (Nat.le_refl _) _
  have hown1 := owns_new0 w1
  have y2A : (w1.alloc (.cells #[] 5)).cell? ⟨w.heap.size, 2, none⟩ = some (.slice y.da y.zs.length y.dc) := cell_at y2 (hbA.block _ hX1)
  have hsrc := ((hz.below hB1).below hbA).src y.dc
  obtain ⟨ae, hae⟩ : ∃ ae, Hid (M.append y.area y.zs = ae) := ⟨_, hide rfl⟩
  rw [hae.out]
  unfold tptr rptr
  go_enter Try.func12, Try.ntmps12
  go_wp2_with (at_builtin; refine wpList_append_own_src _ rfl _ _ 29 29 rfl w1.heap.size 5 i1 (.int .u8 0) 1 1 Try.underlying29 hi1 hiz his hib rfl _ 0 [] rfl hown1 (.slice y.da y.zs.length y.dc) y.zs.length (v8 y.zs) rfl hsrc ?c1 ?c2 ?c3 ?_)
  case c1 => unfold maxLen; omega
  case c2 => omega
  case c3 => exact hbA.size
  intro v2 w2 hown2 hgrow2
  have hb2 : Below w1.heap.size w1 w2 := hbA.grown hgrow2 hbA.size (fun k hk => (hown1.lt k hk).1)
  have hown2 : w2.ownsRow w1.heap.size 5 1 v2 y.zs.length (v8 y.zs) := by simpa using hown2
  have hs12 : w1.heap.size < w2.heap.size := by have := hgrow2.size; simp at this; omega
  obtain ⟨oa, g, gc, hv2, hoa, hox, hg1, hg2, hgr, hgf⟩ : ∃ oa g gc, v2 = .slice oa y.zs.length gc ∧ (y.zs.length ≠ 0 → oa = some ⟨g, 0, none⟩) ∧ (∀ x, oa = some x → x.block = g) ∧ w1.heap.size ≤ g ∧ g < w2.heap.size ∧ w2.rangeAt g 0 (v8 y.zs) ∧ w2.there g 0 y.zs.length := by
    rcases hown2.2 with ⟨hvn, h0⟩ | ⟨g, cap, cur, hvs, hb, hg, hn, hcm, hcs, htk⟩
    · refine ⟨none, w1.heap.size, 0, by rw [hvn, h0], (fun q => absurd h0 q), (fun x hx => by cases hx), Nat.le_refl _, hs12, ?_, ?_⟩
      · have e0 : y.zs = [] := List.eq_nil_of_length_eq_zero h0
        rw [e0]
        intro j u hu
        simp [v8] at hu
      · intro j hj
        omega
    · subst hvs
      refine ⟨_, g, cap, rfl, (fun _ => rfl), (fun x hx => by cases hx; rfl), hb, (Array.getElem?_eq_some_iff.1 hg).1, fun j u hu => ?_, fun j hj => ?_⟩
      · have := hown2.cells (g := g) rfl j u hu
        rwa [Addr.add_mid] at this
      · have hjc : j < cur.size := by omega
        refine ⟨?_, ?_⟩
        · simp [World.cell?, hg, hjc]
        · simp [World.frozen?, hg]
  subst hv2
  have hB2 := hB1.trans (hb2.mono hB1.size)
  have hT2 := h.below hB2
  have hA2 : ∀ b, A b → b < w2.heap.size := fun b hb => Nat.lt_of_lt_of_le (hA b hb) hB2.size
  have hrow2 : RowAt w2 oa y.zs := by
    refine ⟨by unfold maxLen; omega, hz.2.1, ?_⟩
    by_cases q : y.zs.length = 0
    · exact .inl (List.eq_nil_of_length_eq_zero q)
    · exact .inr ⟨g, 0, hoa q, hg2, hgr⟩
  have y12 : w2.cell? ⟨w.heap.size, 1, none⟩ = some (.int .i64 y.area) := cell_at y1 (hb2.block _ hX1)
  have y22 : w2.cell? ⟨w.heap.size, 2, none⟩ = some (.slice y.da y.zs.length y.dc) := cell_at y2 (hb2.block _ hX1)
  have gt : ¬ t.own g := fun q => by have := h1.tp.own_lt q; omega
  have xt : ¬ t.own w.heap.size := fun q => by have := h.tp.own_lt q; omega
  have cA := tappend_any t M y.area _ gc y.zs w2 hT2.tp hrow2 (.inr (fun x hx q => gt (by rw [← hox x hx]; exact q)))
  unfold tptr at cA
  rw [hae.out] at cA
  clear y2A hsrc hown1 hbA hown2 hgrow2
  go_wp2_with fail
  refine cA.mono ?_
  rintro e w3 ⟨rfl, hTu⟩
  clear cA
  obtain ⟨t1, hM2⟩ := hT2.first hA2 hTu
  have hs23 := hM2.off.size
  have y13 : w3.cell? ⟨w.heap.size, 1, none⟩ = some (.int .i64 y.area) := cell_at y12 (hM2.off.2 _ (by omega) xt)
  have y23 : w3.cell? ⟨w.heap.size, 2, none⟩ = some (.slice y.da y.zs.length y.dc) := cell_at y22 (hM2.off.2 _ (by omega) xt)
  have hgr3 := range_at hgr (hM2.off.2 g hg2 gt)
  have hgf3 := there_at hgf (hM2.off.2 g hg2 gt)
  have gt1 : ¬ t1.own g := fun q => by
    rcases hM2.fresh g q with q1 | q1
    · exact gt q1
    · omega
  have gr : ¬ r.own g := fun q => by have := h1.rf.own_lt q; omega
  have gA : ¬ A g := fun q => by have := hA g q; have := hB1.size; omega
  have gx : g ≠ w.heap.size := by omega
  have hzz := hz.2.1
  clear hTu hrow2 hgr hgf y12 y22
  go_wp2_with fail
  go_loopw [25] (fun iv wr => ∃ (k : Nat) (ys : List Int), k ≤ y.zs.length ∧ iv = .int .i64 (k : Int) ∧ ys.length = y.zs.length ∧ wr.rangeAt g 0 (v8 ys) ∧ wr.there g 0 y.zs.length ∧ (∀ z ∈ ys, 0 ≤ z ∧ z < 256) ∧ Off (fun b => b = g) w3 wr) (fun iv _ => y.zs.length - (intOf iv).toNat)
  case atStart => exact ⟨0, y.zs, by omega, rfl, rfl, hgr3, hgf3, hzz, Off.refl _ _⟩
  case round =>
    clear hgr3 hgf3
    obtain ⟨k, ys, hk1, rfl, hyl, hyr, hyf, hyz, hyo⟩ := hrel
    obtain ⟨wo, rfl⟩ : ∃ wo, wo = wr := ⟨_, rfl⟩
    by_cases hlt : k < y.zs.length
    · have hltI : (k : Int) < (y.zs.length : Int) := by omega
      obtain rfl := hoa (by omega)
      have c0 := get8 hyr (i := k) (by omega)
      have f0 : wo.frozen? ⟨g, k, none⟩ = false := by have := (hyf k hlt).2; rwa [Nat.zero_add] at this
      rw [Nat.zero_add] at c0
      have hzb : 0 ≤ ys.getD k 0 ∧ ys.getD k 0 < 256 := by
        rw [List.getD_eq_getElem?_getD, List.getElem?_eq_getElem (by omega)]
        exact hyz _ (List.getElem_mem (by omega))
      obtain ⟨zk, hzk⟩ : ∃ zk, Hid (ys.getD k 0 = zk) := ⟨_, hide rfl⟩
      rw [hzk.out] at c0 hzb
      have HX : Hid (∀ z' : Int, 0 ≤ z' ∧ z' < 256 → ∃ ys' : List Int, ys'.length = y.zs.length ∧ (wo.setCell ⟨g, k, none⟩ (.int .u8 z')).rangeAt g 0 (v8 ys') ∧ (wo.setCell ⟨g, k, none⟩ (.int .u8 z')).there g 0 y.zs.length ∧ (∀ z ∈ ys', 0 ≤ z ∧ z < 256) ∧ Off (fun b => b = g) w3 (wo.setCell ⟨g, k, none⟩ (.int .u8 z'))) := hide (fun z' hz' => by
        refine ⟨ys.set k z', by simpa using hyl, ?_, there_set hyf _ _, ?_, hyo.trans (Off.of_setCell (F := fun b => b = g) wo _ _ rfl) (fun _ _ q => q)⟩
        · rw [← v8_set]
          have := range_set hyr k (.int .u8 z')
          rwa [Nat.zero_add] at this
        · intro z hzm
          rcases List.mem_or_eq_of_mem_set hzm with q | rfl
          · exact hyz z q
          · exact hz')
      clear hyr hyf hyz hyo hzk
      go_wp2_with fail
      go_roundw
      case rel =>
        obtain ⟨ys', a1, a2, a3, a4, a5⟩ := HX.out ((zk + 1) % 256) (by omega)
        exact ⟨k + 1, ys', by omega, by go_num, a1, a2, a3, a4, a5⟩
      case measure => simp [intOf]; omega
    · have k1 : ¬ (k : Int) < (y.zs.length : Int) := by omega
      have y1o : wo.cell? ⟨w.heap.size, 1, none⟩ = some (.int .i64 y.area) := cell_at y13 (hyo.2 _ (by omega) (fun q => gx q.symm))
      have y2o : wo.cell? ⟨w.heap.size, 2, none⟩ = some (.slice y.da y.zs.length y.dc) := cell_at y23 (hyo.2 _ (by omega) (fun q => gx q.symm))
      have hTo := hM2.tp.off hyo (fun b q q1 => gt1 (q1 ▸ q))
      have hRo := hM2.rf.off hyo (fun b q q1 => gr (q1 ▸ q))
      have hO23 : Off (fun b => ¬ A b) w2 w3 := hM2.off.mono (fun b _ q => hT2.ta b q)
      have hO3o : Off (fun b => ¬ A b) w3 wo := hyo.mono (fun b _ q => by rw [q]; exact gA)
      have hO : Off (fun b => ¬ A b) w wo := ((Off.of_below hB2).trans hO23 (fun _ _ q => q)).trans hO3o (fun _ _ q => q)
      have hzo : RowAt wo y.da y.zs := hz.off hO (by
        rcases hzA with q | q
        · exact .inl q
        · exact .inr (fun x hx q1 => q1 (q x hx)))
      have cR := rappend_any r M y.area y.da y.dc y.zs wo hRo hzo (by
        rcases hzA with q | q
        · exact .inl q
        · exact .inr (fun x hx q1 => h.ra _ (.inl q1) (q x hx)))
      have HN : Hid (∀ w4, RTurned wo w4 r ae.2 → Next2 A w w4 t r ae.2) := hide (fun w4 hR => Mid2.second hO h.ra hA hM2.p hTo hM2.d hM2.ta (Off.refl _ _) hR)
      rw [hae.out] at cR
      unfold rptr at cR
      clear hTo hRo hzo hyo hyr hyf hyz
      go_wp2_with fail
      refine cR.mono ?_
      rintro e w4 ⟨rfl, hR4⟩
      clear cR
      go_wp2_with fail
      go_ret
      exact ⟨rfl, HN.out w4 hR4⟩
end Go.Proofs.Ytfkchnjbbbhmjaa
