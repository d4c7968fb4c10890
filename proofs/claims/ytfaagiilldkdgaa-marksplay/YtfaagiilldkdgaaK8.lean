/- Signs, whatever is asked -/
import Derived.Test.YtfaagiilldkdgaaK7
namespace Go.Proofs.Ytfaagiilldkdgaa
open Go.RowKit Go.Shelf
set_option linter.unusedVariables false
def signsP (N : Int) (m : Int → Option Mk) (e : Int) (d : List Int) (need : Int) : List Sg := if need < 1 ∨ ((sgs m e d N.toNat).length : Int) < need then [] else (sgs m e d N.toNat).take need.toNat
/-- signs are told: a slice of them, nothing that lay there changed -/
def TellS (w : World) (rs : List Sg) (e' : Ending) (w' : World) : Prop := ∃ a cap, e' = .returned (.slice a rs.length cap) ∧ SigsAt w' a rs ∧ rs.length ≤ cap ∧ Below w.heap.size w w'
theorem enters24 : ∀ args w, (callFunc 24 args).run Try.prog w = .ok (.enter 24 args) w := enters_of Try.func24 (by kernel_rfl) rfl
theorem SigsAt.take {w : World} {a : Option Addr} {rs : List Sg} (h : SigsAt w a rs) (k : Nat) : SigsAt w a (rs.take k) := by
  refine ⟨Nat.le_trans (by rw [List.length_take]; omega) h.1, fun r hr => h.2.1 r (List.mem_of_mem_take hr), ?_⟩
  rcases h.2.2 with h0 | ⟨b, off, rfl, h1, h2⟩
  · exact .inl (by rw [h0]; simp)
  · refine .inr ⟨b, off, rfl, h1, ?_⟩
    rw [← List.take_append_drop k rs, flatS_append] at h2
    exact range_left h2
set_option maxRecDepth 100000 in
set_option maxHeartbeats 2000000 in
theorem signs_no (e : Int) (d : List Int) (hd : d.length = 32) (need : Int) (p : Value) (w : World) (h : NoMk w p) : Calls Try.prog 14 #[p, .int .i64 e, .agg (v8 d).toArray, .int .i64 need] w fun e' w' => e' = .returned (.slice none 0 0) ∧ Below w.heap.size w w' := by
  have hbm := fun w' => build_mark e (v8 d) (by rw [v8_length, hd]) w'
  obtain ⟨u, hu⟩ : ∃ u, Hid (v8 d = u) := ⟨_, hide rfl⟩
  obtain ⟨c, hc⟩ : ∃ u, Hid (mkC e d = u) := ⟨_, hide rfl⟩
  have hc33 : c.length = 33 := by rw [← hc.out]; exact mkC_len _ hd
  have hu32 : u.length = 32 := by rw [← hu.out, v8_length]; exact hd
  have hc1 : ∀ v ∈ c, v.oneCell' = true := by rw [← hc.out]; exact mkC_one _ _
  have hiD : (Try.prog.info? 29).map (·.size) = some u.length := by rw [hu32]; exact iszD
  have hbm : ∀ w' : World, (Instr.build 59 #[(0, .int .i64 e), (1, .agg u.toArray)]).run Try.prog w' = .ok (.agg c.toArray) w' := fun w' => by rw [← hc.out, ← hu.out]; exact hbm w'
  rw [hu.out]
  have hzm := zeroMk
  obtain ⟨zm, hzz⟩ : ∃ z, Hid (([Value.int .i64 0] ++ v8 (List.replicate 32 0)) = z) := ⟨_, hide rfl⟩
  have hzm33 : zm.length = 33 := by rw [← hzz.out]; rfl
  simp only [hzz.out] at hzm
  clear hzz hu
  go_enter Try.func14, Try.ntmps14
  go_upto_region 2 with fail
  have hB1 : Below w.heap.size w (w.alloc (.cells u.toArray 29)) := (Below.refl _ _).alloc (Nat.le_refl _) _
  have hR1 : (w.alloc (.cells u.toArray 29)).rangeAt w.heap.size 0 u := by simpa using range_new w u.toArray 29
  have hs1 : (w.alloc (.cells u.toArray 29)).heap.size = w.heap.size + 1 := by simp
  obtain ⟨w1, hw1⟩ : ∃ w1, w.alloc (.cells u.toArray 29) = w1 := ⟨_, rfl⟩
  rw [hw1] at hB1 hR1 hs1 ⊢
  clear hw1
  have hB2 : Below w1.heap.size w1 (w1.alloc (.cells #[.slice none 0 0] 39)) := (Below.refl _ _).alloc (Nat.le_refl _) _
  have b2 := Boxed.new w1 39 (.slice none 0 0)
  have hs2 : (w1.alloc (.cells #[.slice none 0 0] 39)).heap.size = w1.heap.size + 1 := by simp
  obtain ⟨w2, hw2⟩ : ∃ w2, w1.alloc (.cells #[.slice none 0 0] 39) = w2 := ⟨_, rfl⟩
  rw [hw2] at hB2 b2 hs2 ⊢
  clear hw2
  have hRd := range_below hR1 hB2 (by omega)
  try simp only [Act.put]
  refine pl_begin ?_
  refine pl_take (d := some 11) (v := ?_) (by rfl) ?_ rfl ?_
  rotate_left
  · go_simp
    try with_reducible rfl
  simp only [Act.put, List.setIfInBounds_toArray, List.set_cons_zero, List.set_cons_succ]
  refine pl_take (d := some 12) (v := .agg u.toArray) (by rfl) (ex_mid rfl rfl hRd Try.underlying29 rfl hiD) rfl ?_
  simp only [Act.put, List.setIfInBounds_toArray, List.set_cons_zero, List.set_cons_succ]
  refine pl_take (d := some 13) (v := .agg c.toArray) (by rfl) (ex_build rfl rfl (hbm w2)) rfl ?_
  simp only [Act.put, List.setIfInBounds_toArray, List.set_cons_zero, List.set_cons_succ]
  refine pl_run (d := some 10) (v := .pointer (some ⟨w2.heap.size, 0, none⟩)) (w' := w2.alloc (.cells zm.toArray 59)) (by rfl) (ex_alloc rfl (hzm _)) rfl ?_
  simp only [Act.put, List.setIfInBounds_toArray, List.set_cons_zero, List.set_cons_succ]
  refine pl_store (w' := (w2.alloc (.cells zm.toArray 59)).setCells w2.heap.size 0 c) (by rfl) (ex_put (cs := c.toArray) rfl rfl rfl (there_newN _ _ _ (by simp [hzm33, hc33])) (by simpa [hc33] using iszM) (all_one hc1)) rfl ?_
  refine pl_nil ?_
  obtain ⟨hF1, hF2, hF3, hF4⟩ := fresh_store w2 zm.toArray 59 c (by simp [hzm33, hc33])
  obtain ⟨w3, hw3⟩ : ∃ w3, (w2.alloc (.cells zm.toArray 59)).setCells w2.heap.size 0 c = w3 := ⟨_, rfl⟩
  rw [hw3] at hF1 hF2 hF3 ⊢
  clear hw3 hF4 hRd hR1
  have b3 := boxed_below b2 hF2
  have hbl3 : Below w.heap.size w w3 := hB1.trans ((hB2.mono (by omega)).trans (hF2.mono (by omega)))
  obtain ⟨D, hDe⟩ : ∃ D, Hid (w.heap.size = D) := ⟨_, hide rfl⟩
  obtain ⟨L, hLe⟩ : ∃ D, Hid (w.heap.size + 1 = D) := ⟨_, hide rfl⟩
  obtain ⟨C, hCe⟩ : ∃ D, Hid (w2.heap.size = D) := ⟨_, hide rfl⟩
  have hDL : D < L := by rw [← hDe.out, ← hLe.out]; omega
  have hLC : L < C := by rw [← hLe.out, ← hCe.out]; omega
  have hC3 : C < w3.heap.size := by rw [← hCe.out]; omega
  rw [hDe.out] at hbl3
  rw [hs1, hLe.out] at b3
  rw [hCe.out] at hF1
  rw [hLe.out, hDe.out, hCe.out]
  clear hF2 hF3 hB1 hB2 b2 hs1 hs2
  have cE := each_no p (.func (.func 24) #[] #[.pointer (some ⟨C, 0, none⟩), .pointer (some ⟨L, 0, none⟩)]) w3 (h.below (by rw [hDe.out]; exact hbl3))
  have c3 := b3.cell
  clear b3 hF1
  go_wp2_with fail
  refine cE.mono ?_
  rintro _ w4 ⟨rfl, hx⟩
  obtain rfl := hx.symm
  clear cE hx
  by_cases hn : need < 1
  · go_wp2_with fail
    go_ret
    exact ⟨rfl, by rw [hDe.out]; exact hbl3⟩
  · go_wp2_with fail
    go_ret
    exact ⟨rfl, by rw [hDe.out]; exact hbl3⟩
set_option maxRecDepth 100000 in
set_option maxHeartbeats 2000000 in
theorem signs_any (e : Int) (d : List Int) (hd : d.length = 32) (need : Int) (B b n : Nat) (N : Int) (m : Int → Option Mk) (w : World) (h : MkAt w B b n N m) : Calls Try.prog 14 #[.pointer (some ⟨B, 0, none⟩), .int .i64 e, .agg (v8 d).toArray, .int .i64 need] w fun e' w' => TellS w (signsP N m e d need) e' w' := by
  have hN := h.good
  have hlen := sgs_len m e d N.toNat
  have hok := sgs_ok h e d N.toNat (by omega)
  have hbm := fun w' => build_mark e (v8 d) (by rw [v8_length, hd]) w'
  obtain ⟨u, hu⟩ : ∃ u, Hid (v8 d = u) := ⟨_, hide rfl⟩
  obtain ⟨c, hc⟩ : ∃ u, Hid (mkC e d = u) := ⟨_, hide rfl⟩
  have hc33 : c.length = 33 := by rw [← hc.out]; exact mkC_len _ hd
  have hu32 : u.length = 32 := by rw [← hu.out, v8_length]; exact hd
  have hc1 : ∀ v ∈ c, v.oneCell' = true := by rw [← hc.out]; exact mkC_one _ _
  have hiD : (Try.prog.info? 29).map (·.size) = some u.length := by rw [hu32]; exact iszD
  have hbm : ∀ w' : World, (Instr.build 59 #[(0, .int .i64 e), (1, .agg u.toArray)]).run Try.prog w' = .ok (.agg c.toArray) w' := fun w' => by rw [← hc.out, ← hu.out]; exact hbm w'
  rw [hu.out]
  have hzm := zeroMk
  obtain ⟨zm, hzz⟩ : ∃ z, Hid (([Value.int .i64 0] ++ v8 (List.replicate 32 0)) = z) := ⟨_, hide rfl⟩
  have hzm33 : zm.length = 33 := by rw [← hzz.out]; rfl
  simp only [hzz.out] at hzm
  clear hzz hu
  go_enter Try.func14, Try.ntmps14
  go_upto_region 2 with fail
  have hB1 : Below w.heap.size w (w.alloc (.cells u.toArray 29)) := (Below.refl _ _).alloc (Nat.le_refl _) _
  have hR1 : (w.alloc (.cells u.toArray 29)).rangeAt w.heap.size 0 u := by simpa using range_new w u.toArray 29
  have hs1 : (w.alloc (.cells u.toArray 29)).heap.size = w.heap.size + 1 := by simp
  obtain ⟨w1, hw1⟩ : ∃ w1, w.alloc (.cells u.toArray 29) = w1 := ⟨_, rfl⟩
  rw [hw1] at hB1 hR1 hs1 ⊢
  clear hw1
  have hB2 : Below w1.heap.size w1 (w1.alloc (.cells #[.slice none 0 0] 39)) := (Below.refl _ _).alloc (Nat.le_refl _) _
  have b2 := Boxed.new w1 39 (.slice none 0 0)
  have hs2 : (w1.alloc (.cells #[.slice none 0 0] 39)).heap.size = w1.heap.size + 1 := by simp
  obtain ⟨w2, hw2⟩ : ∃ w2, w1.alloc (.cells #[.slice none 0 0] 39) = w2 := ⟨_, rfl⟩
  rw [hw2] at hB2 b2 hs2 ⊢
  clear hw2
  have hRd := range_below hR1 hB2 (by omega)
  try simp only [Act.put]
  refine pl_begin ?_
  refine pl_take (d := some 11) (v := ?_) (by rfl) ?_ rfl ?_
  rotate_left
  · go_simp
    try with_reducible rfl
  simp only [Act.put, List.setIfInBounds_toArray, List.set_cons_zero, List.set_cons_succ]
  refine pl_take (d := some 12) (v := .agg u.toArray) (by rfl) (ex_mid rfl rfl hRd Try.underlying29 rfl hiD) rfl ?_
  simp only [Act.put, List.setIfInBounds_toArray, List.set_cons_zero, List.set_cons_succ]
  refine pl_take (d := some 13) (v := .agg c.toArray) (by rfl) (ex_build rfl rfl (hbm w2)) rfl ?_
  simp only [Act.put, List.setIfInBounds_toArray, List.set_cons_zero, List.set_cons_succ]
  refine pl_run (d := some 10) (v := .pointer (some ⟨w2.heap.size, 0, none⟩)) (w' := w2.alloc (.cells zm.toArray 59)) (by rfl) (ex_alloc rfl (hzm _)) rfl ?_
  simp only [Act.put, List.setIfInBounds_toArray, List.set_cons_zero, List.set_cons_succ]
  refine pl_store (w' := (w2.alloc (.cells zm.toArray 59)).setCells w2.heap.size 0 c) (by rfl) (ex_put (cs := c.toArray) rfl rfl rfl (there_newN _ _ _ (by simp [hzm33, hc33])) (by simpa [hc33] using iszM) (all_one hc1)) rfl ?_
  refine pl_nil ?_
  obtain ⟨hF1, hF2, hF3, hF4⟩ := fresh_store w2 zm.toArray 59 c (by simp [hzm33, hc33])
  obtain ⟨w3, hw3⟩ : ∃ w3, (w2.alloc (.cells zm.toArray 59)).setCells w2.heap.size 0 c = w3 := ⟨_, rfl⟩
  rw [hw3] at hF1 hF2 hF3 ⊢
  clear hw3 hF4 hRd hR1
  have b3 := boxed_below b2 hF2
  have hbl3 : Below w.heap.size w w3 := hB1.trans ((hB2.mono (by omega)).trans (hF2.mono (by omega)))
  obtain ⟨D, hDe⟩ : ∃ D, Hid (w.heap.size = D) := ⟨_, hide rfl⟩
  obtain ⟨L, hLe⟩ : ∃ D, Hid (w.heap.size + 1 = D) := ⟨_, hide rfl⟩
  obtain ⟨C, hCe⟩ : ∃ D, Hid (w2.heap.size = D) := ⟨_, hide rfl⟩
  have hDL : D < L := by rw [← hDe.out, ← hLe.out]; omega
  have hLC : L < C := by rw [← hLe.out, ← hCe.out]; omega
  have hC3 : C < w3.heap.size := by rw [← hCe.out]; omega
  rw [hDe.out] at hbl3
  rw [hs1, hLe.out] at b3
  rw [hCe.out] at hF1
  rw [hLe.out, hDe.out, hCe.out]
  clear hF2 hF3 hB1 hB2 b2 hs1 hs2
  have hJ0 : JS w D L C w3.heap.size m e d 0 w3 := ⟨⟨_, b3, by simp [sgs, flatS], .inl ⟨rfl, rfl⟩⟩, by rw [hc.out]; exact hF1, hbl3, Nat.le_refl _, by omega⟩
  have cE := each_any B b n N m 24 enters24 #[.pointer (some ⟨C, 0, none⟩), .pointer (some ⟨L, 0, none⟩)] (fun k W => JS w D L C w3.heap.size m e d k W) (fun k W q => h.below (by rw [hDe.out]; exact q.2.2.1)) (fun k W W' q hb => q.below hC3 (by omega) hb)
    (fun k x W hk q hm => by
      have hx := h.ok k x hm
      by_cases hq : x.e = e ∧ x.d = d
      · exact signs1_yes w D L C w3.heap.size hDL hLC hC3 m e d hd k (by omega) x hx.1 hm hq W q
      · exact signs1_no w D L C w3.heap.size hDL hLC hC3 m e d hd k (by omega) x hx.1 hm hq W q)
    (fun k W hk q hm => by
      obtain ⟨q1, q2, q3, q4, q5⟩ := q
      refine ⟨?_, q2, q3, q4, by omega⟩
      have : sgs m e d (k + 1) = sgs m e d k := by rw [sgs, hm]; simp
      rw [this]
      exact q1) _ hJ0
  clear hJ0 b3 hF1 hbl3
  go_wp2_with fail
  refine cE.mono ?_
  rintro _ w4 ⟨rfl, ⟨⟨v, b4, hrow⟩, -, hbl4, hR4, -⟩⟩
  clear cE
  obtain ⟨a, cap, rfl, hcap, hcm, hsg, -⟩ := own_sigs hrow hok (by omega)
  have c4 := b4.cell
  have hbl5 : Hid (Below w.heap.size w w4) := by rw [hDe.out]; exact hbl4
  clear hrow hok hbl4 b4
  by_cases hn : need < 1
  · have hp : Hid (signsP N m e d need = ([] : List Sg)) := hide (by unfold signsP; exact if_pos (.inl hn))
    have hE : TellS w (signsP N m e d need) (.returned (.slice none 0 0)) w4 := ⟨none, 0, by rw [hp.out]; rfl, by rw [hp.out]; exact SigsAt.none, by rw [hp.out]; exact Nat.le_refl _, hbl5.out⟩
    have HE := hide hE
    clear hE hp
    go_wp2_with fail
    go_ret
    exact HE.out
  · by_cases hl : ((sgs m e d N.toNat).length : Int) < need
    · have hp : Hid (signsP N m e d need = ([] : List Sg)) := hide (by unfold signsP; exact if_pos (.inr hl))
      have hE : TellS w (signsP N m e d need) (.returned (.slice none 0 0)) w4 := ⟨none, 0, by rw [hp.out]; rfl, by rw [hp.out]; exact SigsAt.none, by rw [hp.out]; exact Nat.le_refl _, hbl5.out⟩
      have HE := hide hE
      clear hE hp
      go_wp2_with fail
      go_ret
      exact HE.out
    · obtain ⟨q, rfl⟩ := Int.eq_ofNat_of_zero_le (show 0 ≤ need by omega)
      have hq1 : 1 ≤ q := by omega
      have hql : q ≤ (sgs m e d N.toNat).length := by omega
      have hqc : q ≤ cap := by omega
      have hp : Hid (signsP N m e d (q : Int) = (sgs m e d N.toNat).take q) := hide (by unfold signsP; rw [if_neg (by omega)]; rfl)
      have hlt : ((sgs m e d N.toNat).take q).length = q := by rw [List.length_take]; omega
      have hE : TellS w (signsP N m e d (q : Int)) (.returned (.slice a q q)) w4 := ⟨a, q, by rw [hp.out, hlt], by rw [hp.out]; exact hsg.take q, by rw [hp.out, hlt]; exact Nat.le_refl _, hbl5.out⟩
      have HE := hide hE
      have cC := clip_any a q cap hqc hcm w4
      clear hE hp hlt hsg
      go_wp2_with fail
      refine cC.mono ?_
      rintro _ w5 ⟨rfl, hx⟩
      obtain rfl := hx.symm
      clear cC hx
      go_wp2_with fail
      go_ret
      exact HE.out
end Go.Proofs.Ytfaagiilldkdgaa
