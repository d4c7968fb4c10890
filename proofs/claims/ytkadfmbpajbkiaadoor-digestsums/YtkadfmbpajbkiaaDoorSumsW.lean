/- the law of sums: the walk -/
import Derived.Test.YtkadfmbpajbkiaaDoorSumsB
import Derived.Test.YtkadfmbpajbkiaaDoorEql
namespace Go.Proofs.YtkadfmbpajbkiaaDoor
open Go.RowKit
open Sha
set_option maxRecDepth 20000 in
set_option maxHeartbeats 4000000 in
theorem sums_walk (a : Option Addr) (cap : Nat) (ps : List Part) (d : List Int) (w : World) (hG : Glob w) (h : PartsAt w a ps) (hdl : d.length = 32) (hdo : ∀ z ∈ d, 0 ≤ z ∧ z < 256) :
   Calls Tryd.prog 3 #[.slice a ps.length cap, .agg (v8 d).toArray] w fun e w' => e = .returned (.bool true) ∧ Below w.heap.size w w' := by
  have hm := h.1
  unfold maxLen at hm
  obtain ⟨i0, hi, hz0, hz1, hz2⟩ := info_parts info8
  obtain ⟨j0, hj, hy0, hy1, hy2⟩ := info_parts infoP
  have hB0 : Below w.heap.size w (w.alloc (.cells (v8 d).toArray 24)) := (Below.refl _ _).alloc (Nat.le_refl _) _
  have cl := light_any a cap ps (w.alloc (.cells (v8 d).toArray 24)) (h.below hB0)
  have hT0 : Two w d (.slice none 0 0) [] (.slice none 0 0) [] (w.alloc (.cells (v8 d).toArray 24)) := ⟨hB0, by simp, range_new w (v8 d).toArray 24, World.ownsRow_nil _ _ _ _, World.ownsRow_nil _ _ _ _, by simp, by simp, by simp⟩
  go_enter Tryd.func3, Tryd.ntmps3
  go_wp2_with fail
  refine cl.mono ?_
  rintro e w0 (⟨rfl, hx⟩ | ⟨rfl, hx, hl⟩)
  · obtain rfl := hx.symm
    clear hx cl hT0
    have hGB := hG.below hB0
    have cv := lives_any _ hGB
    go_wp2_with fail
    refine cv.mono ?_
    rintro e w9 ⟨rfl, hw9⟩
    have hfin := hB0.trans (hw9.mono hB0.size)
    clear cv hw9 hB0 hGB
    go_wp2
    go_ret
    exact ⟨rfl, hfin⟩
  clear cl
  rw [← hx] at hT0 hB0
  clear hx
  unfold load at hl
  go_wp2_with fail
  go_loopw [5, 6, 16] (fun v1 v2 i wr => ∃ (k : Nat) (qs : List Part), k ≤ ps.length ∧ i = .int .i64 (k : Int) ∧ Hid (qs.map Part.zs = (ps.take k).map Part.zs) ∧ Two w d v1 (cat (ps.take k)) v2 qs wr) (fun _ _ i _ => ps.length - (intOf i).toNat)
  case atStart => exact ⟨0, [], by omega, rfl, rfl, hT0⟩
  case round =>
    clear hT0 hB0
    obtain ⟨k, qs, hk, rfl, hsame, hT⟩ := hrel
    by_cases hlt : k < ps.length
    · obtain ⟨b, off, rfl, hbs, hrg⟩ : ∃ b off, a = some ⟨b, off, none⟩ ∧ b < w.heap.size ∧ w.rangeAt b off (ps.map Part.val) := by
        rcases h.2.2 with rfl | q
        · simp at hlt
        · exact q
      obtain ⟨pa, pc, pz, hp, hat⟩ : ∃ pa pc pz, Hid (ps[k] = ⟨pa, pc, pz⟩) ∧ (⟨pa, pc, pz⟩ : Part).at w := by
        have := h.2.1 ps[k] (List.getElem_mem hlt)
        exact ⟨ps[k].a, ps[k].cap, ps[k].zs, rfl, this⟩
      have hB := hT.bel
      have hcell : wr.cell? ⟨b, off + k, none⟩ = some (.slice pa pz.length pc) := by
        rw [hB.cell (p := ⟨b, off + k, none⟩) hbs]
        refine hrg k _ ?_
        rw [List.getElem?_map, List.getElem?_eq_getElem hlt, hp.out]; rfl
      obtain ⟨hr, hpc, hpm⟩ := hat
      have hlk : (k : Int) < ps.length := by omega
      have HQ : Hid (qs.length = k) := by
        have := congrArg List.length hsame.out
        rw [List.length_map, List.length_map, List.length_take] at this
        show _ = _
        omega
      have HC : Hid (cat (ps.take (k + 1)) = cat (ps.take k) ++ pz) := by
        show _ = _
        rw [cat_take_succ ps k hlt, hp.out]
      have HL : Hid ((cat (ps.take k)).length + pz.length ≤ 5000) := by
        show _ ≤ _
        have := cat_take_le ps (k + 1)
        rw [HC.out, List.length_append] at this
        omega
      have HS : Hid ((ps.take (k + 1)).map Part.zs = qs.map Part.zs ++ [pz]) := by
        show _ = _
        rw [List.take_succ_eq_append_getElem hlt, List.map_append, hsame.out, hp.out]
        rfl
      obtain ⟨zs, hzs⟩ : ∃ zs, Hid (cat (ps.take k) = zs) := ⟨_, rfl⟩
      rw [hzs.out] at hT HC HL
      clear hp hsame hzs
      have hown1 := hT.own1
      have hsrc := RowAt.src (hr.below hB) pc
      have hg0 := hT.big
      go_wp2_with (at_builtin; refine wpList_append_own_src2 _ rfl _ _ 27 27 rfl (w.heap.size + 1) 5 i0 (.int .u8 0) 1 1 Tryd.underlying27 hi hz0 hz1 hz2 rfl _ zs.length _ rfl hown1 _ pz.length _ rfl hsrc ?c1 ?c2 ?c3 ?_)
      case c1 => have := HL.out; unfold maxLen; omega
      case c2 => have := HL.out; omega
      case c3 => omega
      intro v1' w1 hown1' hgr1 hn1
      have T1 := hT.first (v1' := v1') (zs' := zs ++ pz) hgr1 (by rw [List.length_append, v8_append]; exact hown1') hn1
      clear hT hown1 hown1' hgr1 hn1 hsrc hcell hB hg0
      have hB0 : Below w1.heap.size w1 (w1.alloc (.cells #[] 5)) := (Below.refl _ _).alloc (Nat.le_refl _) _
      have hsrc := RowAt.src ((hr.below T1.bel).below hB0) pc
      go_wp2_with (at_builtin; refine wpList_append_own_src2 _ rfl _ _ 27 27 rfl w1.heap.size 5 i0 (.int .u8 0) 1 1 Tryd.underlying27 hi hz0 hz1 hz2 rfl _ 0 [] rfl (nil_bytes w1) _ pz.length _ rfl hsrc ?d1 ?d2 ?d3 ?_)
      case d1 => have := HL.out; unfold maxLen; omega
      case d2 => have := HL.out; omega
      case d3 => simp
      intro v3 w3 hown3 hgr3 _
      have hown3' : w3.ownsRow w1.heap.size 5 1 v3 pz.length (v8 pz) := by simpa using hown3
      have hB3 : Below w1.heap.size w1 w3 := hB0.grown hgr3 hB0.size (own_low (nil_bytes w1))
      obtain ⟨a', c', rfl, hc', hm', hrow3⟩ := own_bytes hown3' hr.2.1 hr.1
      have T3 := T1.grow hB3
      have o1 := copy_off (qz := pz) hown3' (own_lt T1.own1)
      have o2 := copy_off (qz := pz) hown3' (own_lt T1.own2)
      have hq3 : (⟨a', c', pz⟩ : Part).at w3 := ⟨hrow3, hc', hm'⟩
      clear hown3 hown3' hgr3 hsrc hB0 hB3 T1 hrow3
      have hB4 : Below w3.heap.size w3 (w3.alloc (.cells #[.slice a' pz.length c'] 27)) := (Below.refl _ _).alloc (Nat.le_refl _) _
      have T4 := T3.grow hB4
      have hq4 := hq3.below hB4
      have hown4 := T4.own2
      have hsrc : Src Tryd.prog 1 22 (.slice (some ⟨w3.heap.size, 0, none⟩) 1 1) 1 [.slice a' pz.length c'] (w3.alloc (.cells #[.slice a' pz.length c'] 27)) := one_src w3 ⟨a', c', pz⟩
      have hg4 := T4.big
      go_wp2_with (at_builtin; refine wpList_append_own_src2 _ rfl _ _ 22 22 rfl (w.heap.size + 1) 27 j0 (.slice none 0 0) 1 24 Tryd.underlying22 hj hy0 hy1 hy2 rfl _ qs.length _ rfl hown4 _ 1 _ rfl hsrc ?e1 ?e2 ?e3 ?_)
      case e1 => have := HQ.out; unfold maxLen; omega
      case e2 => have := HQ.out; omega
      case e3 => omega
      intro v2' w5 hown5 hgr5 hn5
      have T5 := T4.second hq4 o1 o2 hgr5 hown5 (by rw [World.size_alloc]; exact hn5)
      clear T4 T3 hown4 hown5 hgr5 hn5 hsrc hg4 hB4 hq4 hq3
      go_wp2_with fail
      go_roundw
      case rel =>
        refine ⟨k + 1, qs ++ [⟨a', c', pz⟩], by omega, by go_num, ?_, ?_⟩
        · show _ = _
          rw [HS.out, List.map_append]
          rfl
        · rw [HC.out]; exact T5
      case measure => simp [intOf]; omega
    · have hk' : k = ps.length := by omega
      subst hk'
      rw [List.take_length] at hsame hT
      clear hk hlt
      have hcs : cat qs = cat ps := cat_same hsame.out
      have HQ : qs.length = ps.length := by simpa using congrArg List.length hsame.out
      have hok : ∀ z ∈ cat ps, 0 ≤ z ∧ z < 256 := cat_ok h.2.1
      obtain ⟨zs, hzs⟩ : ∃ zs, Hid (cat ps = zs) := ⟨_, rfl⟩
      rw [hzs.out] at hT hcs hl hok
      have hl5 : zs.length ≤ 5000 := by omega
      obtain ⟨a1, c1, rfl, hc1, hm1, hrow1⟩ := own_bytes hT.own1 hok (by unfold maxLen; omega)
      obtain ⟨a2, c2, rfl, hP2⟩ := own_parts hT.own2 hT.ats (by unfold maxLen; omega)
      have hB := hT.bel
      have hR := hT.box
      have hX := hT.big
      have hHcs : Hid (cat qs = zs) := hcs
      have HQ' : Hid (qs.length = ps.length) := HQ
      clear hT hcs HQ hzs hc1 hm1
      obtain ⟨X, hXe⟩ : ∃ X, Hid (w.heap.size = X) := ⟨_, rfl⟩
      have hi' : (Tryd.prog.info? 24).map (·.size) = some (v8 d).length := by have := info24 d hdl; simpa using this
      have hB4 : Below w.heap.size w wr.drew := hB.drew
      have hR4 : wr.drew.rangeAt X 0 (v8 d) := (World.rangeAt_drew _ _ _ _).2 (by rw [← hXe.out]; exact hR)
      have hX4 : X < wr.drew.heap.size := by rw [← hXe.out]; exact hX
      have hk4 : RowAt wr.drew a1 zs := hrow1.below (Below.refl wr.heap.size wr).drew
      have hP4 : PartsAt wr.drew a2 qs := hP2.below (Below.refl wr.heap.size wr).drew
      go_wp2_with fail
      rw [hXe.out]
      clear hB hR hX hrow1 hP2
      obtain ⟨w5, hw5⟩ : ∃ w5, wr.drew = w5 := ⟨_, rfl⟩
      rw [hw5] at hB4 hR4 hX4 hk4 hP4
      refine hs_begin (S := (Below w5.heap.size w5)) 14 rfl (by kernel_rfl) ?_
      rw [hw5]
      clear hw5
      have hS : (Below w5.heap.size w5) w5 := Below.refl _ _
      refine hs_take (i := 0) (d := some 30) (v := ?_) rfl (by kernel_rfl) (by kernel_rfl) (by kernel_rfl) (by rfl) ?_ hS rfl ?_
      rotate_left
      · intro w' hw
        go_simp
        try with_reducible rfl
      simp only [Act.put, List.setIfInBounds_toArray, List.set_cons_zero, List.set_cons_succ]
      refine hs_take (i := 2) (d := some 32) (v := ?_) rfl (by kernel_rfl) (by kernel_rfl) (by kernel_rfl) (by rfl) ?_ hS rfl ?_
      rotate_left
      · intro w' hw
        go_simp
        try with_reducible rfl
      simp only [Act.put, List.setIfInBounds_toArray, List.set_cons_zero, List.set_cons_succ]
      have c9 := sum_any a2 c2 qs w5 (hG.below hB4) hP4 (by rw [hHcs.out]; omega)
      rw [hHcs.out] at c9
      obtain ⟨m, hm9⟩ : ∃ m, Hid (sha zs = m) := ⟨_, rfl⟩
      have hml : m.length = 32 := by rw [← hm9.out]; exact sha_length _
      rw [hm9.out] at c9
      refine hs_call (i := 1) (d := some 31) rfl (by kernel_rfl) (by rfl) (by go_simp; first | done | exact ⟨rfl, rfl⟩ | with_reducible rfl) rfl ?_
      refine (c9).mono ?_
      rintro e' w9 ⟨rfl, hw9⟩
      have hS : (Below w5.heap.size w5) w9 := hS.trans (hw9.mono hS.size)
      refine ⟨_, rfl, hS, ?_⟩
      simp only [Act.put, List.setIfInBounds_toArray, List.set_cons_zero, List.set_cons_succ]
      clear c9 hw9
      have c10 := refSum_any a1 c1 zs w9 (hk4.below hS) (by omega)
      rw [hm9.out] at c10
      refine hs_call (i := 3) (d := some 33) rfl (by kernel_rfl) (by rfl) (by go_simp; first | done | exact ⟨rfl, rfl⟩ | with_reducible rfl) rfl ?_
      refine (c10).mono ?_
      rintro e' w10 ⟨rfl, hw10⟩
      have hS : (Below w5.heap.size w5) w10 := hS.trans (hw10.mono hS.size)
      refine ⟨_, rfl, hS, ?_⟩
      simp only [Act.put, List.setIfInBounds_toArray, List.set_cons_zero, List.set_cons_succ]
      clear c10 hw10
      have heq := neq_digest m hml
      refine hs_take (i := 4) (d := some 34) (v := .bool false) rfl (by kernel_rfl) (by kernel_rfl) (by kernel_rfl) (by rfl) (fun w' hw => by go_simp) hS rfl ?_
      simp only [Act.put, List.setIfInBounds_toArray, List.set_cons_zero, List.set_cons_succ]
      refine hs_take (i := 5) (d := some 35) (v := ?_) rfl (by kernel_rfl) (by kernel_rfl) (by kernel_rfl) (by rfl) ?_ hS rfl ?_
      rotate_left
      · intro w' hw
        go_simp
        try with_reducible rfl
      simp only [Act.put, List.setIfInBounds_toArray, List.set_cons_zero, List.set_cons_succ]
      clear heq
      refine hs_take (i := 6) (d := some 36) (v := .agg (v8 d).toArray) rfl (by kernel_rfl) (by kernel_rfl) (by kernel_rfl) (by rfl) (fun w' hw => exec_load rfl rfl (run_loadVar_mid (P := Tryd.prog) w' X 0 24 (v8 d) _ (range_below hR4 hw hX4) Tryd.underlying24 rfl hi')) hS rfl ?_
      simp only [Act.put, List.setIfInBounds_toArray, List.set_cons_zero, List.set_cons_succ]
      refine hs_take (i := 7) (d := some 37) (v := ?_) rfl (by kernel_rfl) (by kernel_rfl) (by kernel_rfl) (by rfl) ?_ hS rfl ?_
      rotate_left
      · intro w' hw
        go_simp
        try with_reducible rfl
      simp only [Act.put, List.setIfInBounds_toArray, List.set_cons_zero, List.set_cons_succ]
      refine hs_take (i := 9) (d := some 39) (v := .agg (v8 d).toArray) rfl (by kernel_rfl) (by kernel_rfl) (by kernel_rfl) (by rfl) (fun w' hw => exec_load rfl rfl (run_loadVar_mid (P := Tryd.prog) w' X 0 24 (v8 d) _ (range_below hR4 hw hX4) Tryd.underlying24 rfl hi')) hS rfl ?_
      simp only [Act.put, List.setIfInBounds_toArray, List.set_cons_zero, List.set_cons_succ]
      refine hs_take (i := 10) (d := some 40) (v := ?_) rfl (by kernel_rfl) (by kernel_rfl) (by kernel_rfl) (by rfl) ?_ hS rfl ?_
      rotate_left
      · intro w' hw
        go_simp
        try with_reducible rfl
      simp only [Act.put, List.setIfInBounds_toArray, List.set_cons_zero, List.set_cons_succ]
      have c11 := chain_any d a2 c2 qs w10 (hG.below (hB4.trans (hS.mono hB4.size))) hdl hdo (hP4.below hS) (by rw [hHcs.out]; omega)
      rw [hHcs.out] at c11
      obtain ⟨m2, hm11⟩ : ∃ m2, Hid (sha (d ++ zs) = m2) := ⟨_, rfl⟩
      have hml2 : m2.length = 32 := by rw [← hm11.out]; exact sha_length _
      rw [hm11.out] at c11
      refine hs_call (i := 8) (d := some 38) rfl (by kernel_rfl) (by rfl) (by go_simp; first | done | exact ⟨rfl, rfl⟩ | with_reducible rfl) rfl ?_
      refine (c11).mono ?_
      rintro e' w11 ⟨rfl, hw11⟩
      have hS : (Below w5.heap.size w5) w11 := hS.trans (hw11.mono hS.size)
      refine ⟨_, rfl, hS, ?_⟩
      simp only [Act.put, List.setIfInBounds_toArray, List.set_cons_zero, List.set_cons_succ]
      clear c11 hw11
      have c12 := refChain_any d a1 c1 zs w11 hdl hdo (hk4.below hS) (by omega)
      rw [hm11.out] at c12
      refine hs_call (i := 11) (d := some 41) rfl (by kernel_rfl) (by rfl) (by go_simp; first | done | exact ⟨rfl, rfl⟩ | with_reducible rfl) rfl ?_
      refine (c12).mono ?_
      rintro e' w12 ⟨rfl, hw12⟩
      have hS : (Below w5.heap.size w5) w12 := hS.trans (hw12.mono hS.size)
      refine ⟨_, rfl, hS, ?_⟩
      simp only [Act.put, List.setIfInBounds_toArray, List.set_cons_zero, List.set_cons_succ]
      clear c12 hw12
      have heq := neq_digest m2 hml2
      refine hs_take (i := 12) (d := some 42) (v := .bool false) rfl (by kernel_rfl) (by kernel_rfl) (by kernel_rfl) (by rfl) (fun w' hw => by go_simp) hS rfl ?_
      simp only [Act.put, List.setIfInBounds_toArray, List.set_cons_zero, List.set_cons_succ]
      clear heq
      refine hs_take (i := 13) (d := some 43) (v := ?_) rfl (by kernel_rfl) (by kernel_rfl) (by kernel_rfl) (by rfl) ?_ hS rfl ?_
      rotate_left
      · intro w' hw
        go_simp
        try with_reducible rfl
      simp only [Act.put, List.setIfInBounds_toArray, List.set_cons_zero, List.set_cons_succ]
      refine hs_done (by kernel_rfl) ?_
      have hB12 := hB4.trans (hS.mono hB4.size)
      have hP12 := hP4.below hS
      clear hB4 hR4 hX4 hk4 hP4 hS hml hml2 hm9 hm11 hi'
      go_wp2_with fail
      go_loopw [46] (fun i wr => ∃ (k : Nat), k ≤ ps.length ∧ i = .int .i64 (k : Int) ∧ Below w12.heap.size w12 wr) (fun i _ => ps.length - (intOf i).toNat)
      case atStart => exact ⟨0, by omega, rfl, Below.refl _ _⟩
      case round =>
        obtain ⟨k, hk, rfl, hW⟩ := hrel
        by_cases hlt : k < ps.length
        · have hlq : k < qs.length := by rw [HQ'.out]; exact hlt
          have hlk : (k : Int) < ps.length := by omega
          have hlk2 : (k : Int) < qs.length := by omega
          obtain ⟨b, off, rfl, hbs, hrg⟩ : ∃ b off, a = some ⟨b, off, none⟩ ∧ b < w.heap.size ∧ w.rangeAt b off (ps.map Part.val) := by
            rcases h.2.2 with rfl | q
            · simp at hlt
            · exact q
          obtain ⟨b2, off2, rfl, hbs2, hrg2⟩ : ∃ b off, a2 = some ⟨b, off, none⟩ ∧ b < w12.heap.size ∧ w12.rangeAt b off (qs.map Part.val) := by
            rcases hP12.2.2 with rfl | q
            · simp at hlq
            · exact q
          obtain ⟨pa, pc, pz, hp, hat⟩ : ∃ pa pc pz, Hid (ps[k] = ⟨pa, pc, pz⟩) ∧ (⟨pa, pc, pz⟩ : Part).at w := by
            have := h.2.1 ps[k] (List.getElem_mem hlt)
            exact ⟨ps[k].a, ps[k].cap, ps[k].zs, rfl, this⟩
          obtain ⟨qa, qc, hq, hat2⟩ : ∃ qa qc, Hid (qs[k] = ⟨qa, qc, pz⟩) ∧ (⟨qa, qc, pz⟩ : Part).at w12 := by
            have h2 := hP12.2.1 qs[k] (List.getElem_mem hlq)
            have e : qs[k].zs = pz := by
              have e := congrArg (fun l => l[k]?) hsame.out
              simp only [List.getElem?_map, List.getElem?_eq_getElem hlt, List.getElem?_eq_getElem hlq, Option.map_some, hp.out] at e
              exact Option.some.inj e
            have e2 : qs[k] = ⟨qs[k].a, qs[k].cap, pz⟩ := by rw [← e]
            exact ⟨qs[k].a, qs[k].cap, e2, by rw [e2] at h2; exact h2⟩
          have hWW := hB12.trans (hW.mono hB12.size)
          have cellp : ∀ w', Below wr.drew.heap.size wr.drew w' → w'.cell? ⟨b, off + k, none⟩ = some (.slice pa pz.length pc) := by
            intro w' hw'
            rw [(hWW.drew.trans (hw'.mono hWW.drew.size)).cell (p := ⟨b, off + k, none⟩) hbs]
            refine hrg k _ ?_
            rw [List.getElem?_map, List.getElem?_eq_getElem hlt, hp.out]; rfl
          have cellq : ∀ w', Below wr.drew.heap.size wr.drew w' → w'.cell? ⟨b2, off2 + k, none⟩ = some (.slice qa pz.length qc) := by
            intro w' hw'
            rw [(hW.drew.trans (hw'.mono hW.drew.size)).cell (p := ⟨b2, off2 + k, none⟩) hbs2]
            refine hrg2 k _ ?_
            rw [List.getElem?_map, List.getElem?_eq_getElem hlq, hq.out]; rfl
          have strp : ∀ w', Below wr.drew.heap.size wr.drew w' → (convert 27 9 (.slice pa pz.length pc)).run Tryd.prog w' = .ok (.string (strOf pz)) w' := fun w' hw' => (hat.1.below (hWW.drew.trans (hw'.mono hWW.drew.size))).str pc
          have strq : ∀ w', Below wr.drew.heap.size wr.drew w' → (convert 27 9 (.slice qa pz.length qc)).run Tryd.prog w' = .ok (.string (strOf pz)) w' := fun w' hw' => (hat2.1.below (hW.drew.trans (hw'.mono hW.drew.size))).str qc
          obtain ⟨st, hst⟩ : ∃ st, Hid (strOf pz = st) := ⟨_, rfl⟩
          rw [hst.out] at strp strq
          have hW1 := hW.drew
          clear hp hq hat hat2 hrg hrg2
          go_wp2_with fail
          obtain ⟨w5, hw5⟩ : ∃ w5, wr.drew = w5 := ⟨_, rfl⟩
          rw [hw5] at cellp cellq strp strq hW1
          refine hs_begin (S := (Below w5.heap.size w5)) 11 rfl (by kernel_rfl) ?_
          rw [hw5]
          clear hw5
          have hS : (Below w5.heap.size w5) w5 := Below.refl _ _
          refine hs_take (i := 0) (d := some 49) (v := ?_) rfl (by kernel_rfl) (by kernel_rfl) (by kernel_rfl) (by rfl) ?_ hS rfl ?_
          rotate_left
          · intro w' hw
            go_simp
            try with_reducible rfl
          simp only [Act.put, List.setIfInBounds_toArray, List.set_cons_zero, List.set_cons_succ]
          refine hs_take (i := 1) (d := some 50) (v := ?_) rfl (by kernel_rfl) (by kernel_rfl) (by kernel_rfl) (by rfl) ?_ hS rfl ?_
          rotate_left
          · intro w' hw
            go_simp
            try with_reducible rfl
          simp only [Act.put, List.setIfInBounds_toArray, List.set_cons_zero, List.set_cons_succ]
          refine hs_take (i := 2) (d := some 51) (v := ?_) rfl (by kernel_rfl) (by kernel_rfl) (by kernel_rfl) (by rfl) ?_ hS rfl ?_
          rotate_left
          · intro w' hw
            go_simp
            try with_reducible rfl
          simp only [Act.put, List.setIfInBounds_toArray, List.set_cons_zero, List.set_cons_succ]
          refine hs_take (i := 3) (d := some 52) (v := ?_) rfl (by kernel_rfl) (by kernel_rfl) (by kernel_rfl) (by rfl) ?_ hS rfl ?_
          rotate_left
          · intro w' hw
            have hc := cellq w' hw
            go_simp
            try with_reducible rfl
          simp only [Act.put, List.setIfInBounds_toArray, List.set_cons_zero, List.set_cons_succ]
          refine hs_take (i := 4) (d := some 53) (v := ?_) rfl (by kernel_rfl) (by kernel_rfl) (by kernel_rfl) (by rfl) ?_ hS rfl ?_
          rotate_left
          · intro w' hw
            have hc := strq w' hw
            go_simp
            try with_reducible rfl
          simp only [Act.put, List.setIfInBounds_toArray, List.set_cons_zero, List.set_cons_succ]
          refine hs_take (i := 5) (d := some 54) (v := ?_) rfl (by kernel_rfl) (by kernel_rfl) (by kernel_rfl) (by rfl) ?_ hS rfl ?_
          rotate_left
          · intro w' hw
            go_simp
            try with_reducible rfl
          simp only [Act.put, List.setIfInBounds_toArray, List.set_cons_zero, List.set_cons_succ]
          refine hs_take (i := 6) (d := some 55) (v := ?_) rfl (by kernel_rfl) (by kernel_rfl) (by kernel_rfl) (by rfl) ?_ hS rfl ?_
          rotate_left
          · intro w' hw
            go_simp
            try with_reducible rfl
          simp only [Act.put, List.setIfInBounds_toArray, List.set_cons_zero, List.set_cons_succ]
          refine hs_take (i := 7) (d := some 56) (v := ?_) rfl (by kernel_rfl) (by kernel_rfl) (by kernel_rfl) (by rfl) ?_ hS rfl ?_
          rotate_left
          · intro w' hw
            go_simp
            try with_reducible rfl
          simp only [Act.put, List.setIfInBounds_toArray, List.set_cons_zero, List.set_cons_succ]
          refine hs_take (i := 8) (d := some 57) (v := ?_) rfl (by kernel_rfl) (by kernel_rfl) (by kernel_rfl) (by rfl) ?_ hS rfl ?_
          rotate_left
          · intro w' hw
            have hc := cellp w' hw
            go_simp
            try with_reducible rfl
          simp only [Act.put, List.setIfInBounds_toArray, List.set_cons_zero, List.set_cons_succ]
          refine hs_take (i := 9) (d := some 58) (v := ?_) rfl (by kernel_rfl) (by kernel_rfl) (by kernel_rfl) (by rfl) ?_ hS rfl ?_
          rotate_left
          · intro w' hw
            have hc := strp w' hw
            go_simp
            try with_reducible rfl
          simp only [Act.put, List.setIfInBounds_toArray, List.set_cons_zero, List.set_cons_succ]
          clear cellp cellq strp strq
          refine hs_take (i := 10) (d := some 59) (v := ?_) rfl (by kernel_rfl) (by kernel_rfl) (by kernel_rfl) (by rfl) ?_ hS rfl ?_
          rotate_left
          · intro w' hw
            go_simp
            try with_reducible rfl
          simp only [Act.put, List.setIfInBounds_toArray, List.set_cons_zero, List.set_cons_succ]
          refine hs_done (by kernel_rfl) ?_
          go_wp2_with fail
          go_roundw
          case rel => exact ⟨k + 1, by omega, by go_num, hW1⟩
          case measure => simp [intOf]; omega
        · have hlk : ¬ (k : Int) < ps.length := by omega
          have hWW := hB12.trans (hW.mono hB12.size)
          have cv := lives_any _ (hG.below hWW)
          go_wp2_with fail
          refine cv.mono ?_
          rintro e w13 ⟨rfl, hw13⟩
          have hfin := hWW.trans (hw13.mono hWW.size)
          clear cv hw13
          go_wp2
          go_ret
          exact ⟨rfl, hfin⟩
end Go.Proofs.YtkadfmbpajbkiaaDoor
