/- StateBack -/
import Derived.Test.YtaaifcpanflejaaJB6
namespace Go.Proofs.Ytaaifcpanflejaa
open Go.RowKit
open Sha Tal
set_option linter.unusedVariables false
set_option linter.unusedSimpArgs false
section
variable {P : Program} {ops : Array Oper} {Q : Exit → Act → World → Prop}
end
theorem strOf_aux : ∀ (zs : List Int) (r : ByteArray), (zs.foldl (fun r n => r.push (UInt8.ofNat n.toNat)) r).size = r.size + zs.length
  | [], r => by simp
  | z :: zs, r => by rw [List.foldl_cons, strOf_aux zs, ByteArray.size_push, List.length_cons]; omega
theorem strOf_size (zs : List Int) : (strOf zs).size = zs.length := by unfold strOf; rw [strOf_aux]; simp
theorem fold_at (off : Nat) : ∀ (u : List Value) (k : Nat) (arr : Array Value), off + k + u.length ≤ arr.size → List.foldl (fun (cs : Array Value) (x : Value × Nat) => cs.setIfInBounds (off + x.snd) x.fst) arr (u.zipIdx k) = (arr.toList.take (off + k) ++ (u ++ arr.toList.drop (off + k + u.length))).toArray
  | [], k, arr, h => by simp
  | a :: u, k, arr, h => by
    simp only [List.length_cons] at h
    rw [List.zipIdx_cons, List.foldl_cons, fold_at off u (k + 1) _ (by simp; omega)]
    congr 1
    have hlt : off + k < arr.toList.length := by simp; omega
    rw [Array.toList_setIfInBounds]
    simp only [List.length_cons]
    rw [List.drop_set_of_lt (by omega), show off + (k + 1) + u.length = off + k + (u.length + 1) by omega, show off + (k + 1) = off + k + 1 by omega, List.take_succ_eq_append_getElem (by simpa using hlt), List.getElem_set_self, List.take_set_of_le (Nat.le_refl _)]
    simp
theorem run_bs2 {P : Program} (t e : TypeId) (i : TypeInfo) (z : Value) (u v : List Value) (ht : P.underlying t = some (.slice e)) (hi : P.info? e = some i) (hz : i.zero = some z) (hs : i.size = u.length) (hv : v.length = u.length) (h0 : 0 < u.length) (hm : u.length ≤ 1000) (w : World) :
    (Instr.buildSlice t 2 #[(0, .agg u.toArray), (1, .agg v.toArray)]).run P w = .ok (.slice (some ⟨w.heap.size, 0, none⟩) 2 2) (w.alloc (.cells (u ++ v).toArray e)) := by
  have h1 : ¬ 2 ^ 24 < 2 * u.length := by omega
  have f1 : ∀ arr : Array Value, arr.size = 2 * u.length → List.foldl (fun (cs : Array Value) (x : Value × Nat) => cs.setIfInBounds x.snd x.fst) arr u.zipIdx = (u ++ arr.toList.drop u.length).toArray := fun arr h => by
    have := fold_at 0 u 0 arr (by omega)
    simpa using this
  have f2 : ∀ arr : Array Value, arr.size = 2 * u.length → List.foldl (fun (cs : Array Value) (x : Value × Nat) => cs.setIfInBounds (u.length + x.snd) x.fst) (u ++ arr.toList.drop u.length).toArray v.zipIdx = (u ++ v).toArray := fun arr h => by
    have hl : (u ++ arr.toList.drop u.length).length = 2 * u.length := by simp [h]; omega
    have := fold_at u.length v 0 (u ++ arr.toList.drop u.length).toArray (by simp only [List.size_toArray, hl]; omega)
    rw [this]
    congr 1
    simp only [Nat.add_zero, List.take_left]
    rw [List.drop_of_length_le (by rw [hl]; omega), List.append_nil]
  unfold Instr.buildSlice
  simp [run_underlying ht, sizeOf, zeroValue, typeInfo, hi, hz, hs, h1, Instr.fill, Value.cells, newRow]
  rw [if_neg (by omega), if_neg (by omega)]
  rw [f1 _ (by simp), f2 _ (by simp)]
  rw [if_neg (by simp [hv]; omega)]
  simp
theorem ex_bs2 {P : Program} {o : Oper} {a : Act} {w w' : World} {t : TypeId} {x y : Operand} {u v r : Value} (ho : o.op = .buildSlice t 2 #[(0, x), (1, y)]) (hx : a.eval x = u) (hy : a.eval y = v) (hr : (Instr.buildSlice t 2 #[(0, u), (1, v)]).run P w = .ok r w') : (execOp a.eval o).run P w = .ok (.value r) w' := by
  unfold execOp
  simp [ho, hx, hy, hr]
theorem infoSt : (Try.prog.info? 30).map (fun i => (i.zero, i.size)) = some (some (.agg Stt.zero.cells.toArray), 37) := by kernel_rfl
theorem bs2_st {u v : List Value} (hu : u.length = 37) (hv : v.length = 37) (w : World) : (Instr.buildSlice 62 2 #[(0, .agg u.toArray), (1, .agg v.toArray)]).run Try.prog w = .ok (.slice (some ⟨w.heap.size, 0, none⟩) 2 2) (w.alloc (.cells (u ++ v).toArray 30)) := by
  obtain ⟨i, hi, hzz⟩ := Option.map_eq_some_iff.1 infoSt
  simp only [Prod.mk.injEq] at hzz
  obtain ⟨hz, hs⟩ := hzz
  exact run_bs2 62 30 i _ u v Try.underlying62 hi hz (by rw [hs, hu]) (by rw [hu, hv]) (by omega) (by omega) w
theorem sts_two {r q : Stt} {w : World} (h : r.ok) (h2 : q.ok) : Sl.At StE (w.alloc (.cells (r.cells ++ q.cells).toArray 30)) ⟨some ⟨w.heap.size, 0, none⟩, 2, [r, q]⟩ := by
  obtain ⟨hB, hR, hs⟩ := boxed_new w (r.cells ++ q.cells) 30
  refine ⟨by simp [maxLen], fun y hy => ?_, .inr ⟨_, 0, rfl, hs, by simpa [StE] using hR⟩⟩
  simp only [List.mem_cons, List.not_mem_nil, or_false] at hy
  rcases hy with rfl | rfl
  · exact h
  · exact h2
theorem three_box (q q' q2 : List Value) (t t' t2 : TypeId) (w : World) : (((w.alloc (.cells q.toArray t)).alloc (.cells q'.toArray t')).alloc (.cells q2.toArray t2)).rangeAt w.heap.size 0 q ∧ (((w.alloc (.cells q.toArray t)).alloc (.cells q'.toArray t')).alloc (.cells q2.toArray t2)).rangeAt (w.heap.size + 1) 0 q' ∧ (((w.alloc (.cells q.toArray t)).alloc (.cells q'.toArray t')).alloc (.cells q2.toArray t2)).rangeAt (w.heap.size + 2) 0 q2 ∧ Below w.heap.size w (((w.alloc (.cells q.toArray t)).alloc (.cells q'.toArray t')).alloc (.cells q2.toArray t2)) ∧ w.heap.size + 3 ≤ (((w.alloc (.cells q.toArray t)).alloc (.cells q'.toArray t')).alloc (.cells q2.toArray t2)).heap.size := by
  obtain ⟨h1, h2, h3, h4⟩ := two_box2 q q' t t' w
  obtain ⟨g1, g2, g3⟩ := boxed_new ((w.alloc (.cells q.toArray t)).alloc (.cells q'.toArray t')) q2 t2
  have e : ((w.alloc (.cells q.toArray t)).alloc (.cells q'.toArray t')).heap.size = w.heap.size + 2 := by simp
  have g1' := g1
  rw [e] at g2 g3
  exact ⟨range_below h1 g1 (by omega), range_below h2 g1 (by omega), g2, h3.trans (g1.mono (by omega)), by omega⟩
set_option maxRecDepth 100000 in
set_option maxHeartbeats 8000000 in
theorem stateBack_walk (c : Ld.Cfg) (x o : Stt) (xo : x.ok) (oo : o.ok) (w : World) (xa : x.At w) (oa : o.At w) : Calls Try.prog 4 #[.agg (cfgL c).toArray, .agg x.cells.toArray, .agg o.cells.toArray] w fun e w' => e = .returned (.bool true) ∧ Below w.heap.size w w' := by
  obtain ⟨zc, hzl, hzr⟩ : ∃ z : List Value, z.length = 37 ∧ (∀ w : World, (zeroValue 30).run Try.prog w = .ok (.agg z.toArray) w) := ⟨_, Stt.len Stt.zero_ok, zeroS0⟩
  have iu := iszCf c
  obtain ⟨rc, rx, ro, hB, hz⟩ := three_box (cfgL c) x.cells o.cells 23 30 30 w
  have hxl : x.cells.length = 37 := Stt.len xo
  have hol : o.cells.length = 37 := Stt.len oo
  have hix : (Try.prog.info? 30).map (·.size) = some x.cells.length := by rw [hxl]; exact iszSt
  have hio : (Try.prog.info? 30).map (·.size) = some o.cells.length := by rw [hol]; exact iszSt
  have cGx : ∀ w0 (h1 : x.At w0), Calls Try.prog 10 #[.agg (cfgL c).toArray, .agg x.cells.toArray] w0 fun e w' => e = .returned (.bool (x.good c)) ∧ Below w0.heap.size w0 w' := fun w0 h1 => sgood_any c x w0 xo h1
  have cGo0 : ∀ w0 (h1 : o.At w0), Calls Try.prog 10 #[.agg (cfgL c).toArray, .agg o.cells.toArray] w0 fun e w' => e = .returned (.bool (o.good c)) ∧ Below w0.heap.size w0 w' := fun w0 h1 => sgood_any c o w0 oo h1
  have cBx := fun (l1 : x.ws.xs.length ≤ 100) (l2 : x.ps.xs.length ≤ 200) w0 h1 => sbytes_any x w0 xo h1 l1 l2
  have cBo0 := fun (l1 : o.ws.xs.length ≤ 100) (l2 : o.ps.xs.length ≤ 200) w0 h1 => sbytes_any o w0 oo h1 l1 l2
  have cSo0 := fun w0 h1 h2 => xssame_any x o w0 xo oo h1 h2
  have cSy0 := fun (y : Stt) w0 yo h1 h2 => xssame_any y x w0 yo xo h1 h2
  have cP0 := fun sb w0 hs => sparse_any c sb w0 hs
  have hlen : ∀ y ∈ [x, o], y.ws.xs.length ≤ maxLen ∧ y.ps.xs.length ≤ maxLen := fun y hy => by
    simp only [List.mem_cons, List.not_mem_nil, or_false] at hy
    rcases hy with rfl | rfl
    · exact ⟨xa.ws.1, xa.ps.1⟩
    · exact ⟨oa.ws.1, oa.ps.1⟩
  have cL0 := fun (w0 : World) => light22_any ⟨some ⟨w0.heap.size, 0, none⟩, 2, [x, o]⟩ (w0.alloc (.cells (x.cells ++ o.cells).toArray 30)) (sts_two xo oo) hlen
  have hbs0 := fun (w0 : World) => bs2_st hxl hol w0
  have xaW := xa.below hB
  have oaW := oa.below hB
  have gfit := fun (w0 : World) (h1 : x.At w0) (hg : x.good c = true) => fit_of_good (c := c) xo h1 hg
  have gfito := fun (w0 : World) (h1 : o.At w0) (hg : o.good c = true) => fit_of_good (c := c) oo h1 hg
  have hxby := fun l1 l2 => Stt.byte xo (fun y hy => xa.ws.2.1 y hy) (fun z hz => xa.ps.2.1 z hz) l1 l2
  have hoby := fun l1 l2 => Stt.byte oo (fun y hy => oa.ws.2.1 y hy) (fun z hz => oa.ps.2.1 z hz) l1 l2
  have HFX := hide (fun hg => gfit w xa hg)
  have HFO := hide (fun hg => gfito w oa hg)
  clear gfit gfito hlen xa oa
  obtain ⟨qx, hqx⟩ : ∃ q, Hid (x.cells = q) := ⟨_, hide rfl⟩
  obtain ⟨qo, hqo⟩ : ∃ q, Hid (o.cells = q) := ⟨_, hide rfl⟩
  simp only [hqx.out, hqo.out] at *
  generalize cfgL c = u at *
  go_enter Try.func4, Try.ntmps4
  go_upto_region 1 with fail
  obtain ⟨W, hW⟩ : ∃ W, ((w.alloc (.cells u.toArray 23)).alloc (.cells qx.toArray 30)).alloc (.cells qo.toArray 30) = W := ⟨_, rfl⟩
  simp only [hW] at rc rx ro hB hz xaW oaW ⊢
  clear hW
  have cL := cL0 W
  have hbs := hbs0 W
  clear cL0 hbs0
  have hBa : Below W.heap.size W (W.alloc (.cells (qx ++ qo).toArray 30)) := (Below.refl _ _).alloc (Nat.le_refl _) _
  obtain ⟨C, hC⟩ : ∃ X, w.heap.size = X := ⟨_, rfl⟩
  simp only [hC] at rc rx ro hz ⊢
  obtain ⟨lt, hlt⟩ : ∃ b, Hid ([x, o].all litB = b) := ⟨_, hide rfl⟩
  rw [hlt.out] at cL
  have HC := hide hC
  clear hC
  try simp only [Act.put]
  refine pl_begin ?_
  refine pl_take (d := some 9) (v := .agg qx.toArray) (by rfl) (ex_mid rfl rfl rx Try.underlying30 rfl hix) rfl ?_
  simp only [Act.put, List.setIfInBounds_toArray, List.set_cons_zero, List.set_cons_succ]
  refine pl_take (d := some 10) (v := .agg qo.toArray) (by rfl) (ex_mid rfl rfl ro Try.underlying30 rfl hio) rfl ?_
  simp only [Act.put, List.setIfInBounds_toArray, List.set_cons_zero, List.set_cons_succ]
  refine pl_run (d := some 11) (v := .slice (some ⟨W.heap.size, 0, none⟩) 2 2) (w' := W.alloc (.cells (qx ++ qo).toArray 30)) (by rfl) (ex_bs2 rfl rfl rfl hbs) rfl ?_
  simp only [Act.put, List.setIfInBounds_toArray, List.set_cons_zero, List.set_cons_succ]
  refine pl_call (d := some 12) (by rfl) (by go_simp; first | done | exact ⟨rfl, rfl⟩ | with_reducible rfl) rfl ?_
  refine (cL).mono ?_
  rintro _ w1 ⟨rfl, hb1⟩
  refine ⟨_, rfl, ?_⟩
  simp only [Act.put, List.setIfInBounds_toArray, List.set_cons_zero, List.set_cons_succ]
  have hB1 := hBa.trans (hb1.mono hBa.size)
  have B1 := hB.trans (hB1.mono hB.size)
  have rc1 := range_below rc hB1 (by omega)
  have rx1 := range_below rx hB1 (by omega)
  have ro1 := range_below ro hB1 (by omega)
  have xa1 := xaW.below hB1
  have oa1 := oaW.below hB1
  have hz1 := Nat.le_trans hz hB1.size
  clear hBa hb1 hB1 hbs cL rc rx ro hB hz xaW oaW
  cases lt
  · refine pl_take (d := some 13) (v := .bool true) (by rfl) (by go_simp) rfl ?_
    simp only [Act.put, List.setIfInBounds_toArray, List.set_cons_zero, List.set_cons_succ]
    refine pl_take (d := some 14) (v := ?_) (by rfl) ?_ rfl ?_
    rotate_left
    · go_simp
      try with_reducible rfl
    simp only [Act.put, List.setIfInBounds_toArray, List.set_cons_zero, List.set_cons_succ]
    refine pl_skip (d := some 15) (by rfl) rfl ?_
    simp only [Act.put, List.setIfInBounds_toArray, List.set_cons_zero, List.set_cons_succ]
    refine pl_skip (d := some 16) (by rfl) rfl ?_
    simp only [Act.put, List.setIfInBounds_toArray, List.set_cons_zero, List.set_cons_succ]
    refine pl_skip (d := some 17) (by rfl) rfl ?_
    simp only [Act.put, List.setIfInBounds_toArray, List.set_cons_zero, List.set_cons_succ]
    refine pl_skip (d := some 18) (by rfl) rfl ?_
    simp only [Act.put, List.setIfInBounds_toArray, List.set_cons_zero, List.set_cons_succ]
    refine pl_take (d := some 19) (v := ?_) (by rfl) ?_ rfl ?_
    rotate_left
    · go_simp
      try with_reducible rfl
    simp only [Act.put, List.setIfInBounds_toArray, List.set_cons_zero, List.set_cons_succ]
    refine pl_nil ?_
    clear rc1 rx1 ro1 xa1 oa1
    go_upto_region 2 with fail
    try simp only [Act.put]
    refine pl_begin ?_
    refine pl_call (d := some 20) (by rfl) (by go_simp; first | done | exact ⟨rfl, rfl⟩ | with_reducible rfl) rfl ?_
    refine (lives22_any w1).mono ?_
    rintro _ wL ⟨rfl, hbL⟩
    refine ⟨_, rfl, ?_⟩
    simp only [Act.put, List.setIfInBounds_toArray, List.set_cons_zero, List.set_cons_succ]
    refine pl_take (d := some 6) (v := ?_) (by rfl) ?_ rfl ?_
    rotate_left
    · go_simp
      try with_reducible rfl
    simp only [Act.put, List.setIfInBounds_toArray, List.set_cons_zero, List.set_cons_succ]
    refine pl_nil ?_
    have HB := hide (B1.trans (hbL.mono B1.size))
    go_wp2_with fail
    go_ret
    exact ⟨rfl, HB.out⟩
  · refine pl_take (d := some 13) (v := .bool false) (by rfl) (by go_simp) rfl ?_
    simp only [Act.put, List.setIfInBounds_toArray, List.set_cons_zero, List.set_cons_succ]
    have hl4 : (x.ws.xs.length ≤ 100 ∧ x.ps.xs.length ≤ 200) ∧ (o.ws.xs.length ≤ 100 ∧ o.ps.xs.length ≤ 200) := by
      have := hlt.out
      simp only [List.all_cons, List.all_nil, Bool.and_true, Bool.and_eq_true] at this
      exact ⟨litB_iff.1 this.1, litB_iff.1 this.2⟩
    obtain ⟨⟨l1, l2⟩, l3, l4⟩ := hl4
    have cB2 := cBx l1 l2
    have cBo1 := cBo0 l3 l4
    have hb1 := hxby l1 l2
    have hb2 := hoby l3 l4
    have hbl : x.bytes.length ≤ 5000 := Stt.b3_le xo l1 l2 (fun y hy => xa1.ws.2.1 y hy) (fun z hz => xa1.ps.2.1 z hz) _
    clear cBx cBo0 hxby hoby hlt l1 l2 l3 l4
    refine pl_take (d := some 14) (v := ?_) (by rfl) ?_ rfl ?_
    rotate_left
    · go_simp
      try with_reducible rfl
    simp only [Act.put, List.setIfInBounds_toArray, List.set_cons_zero, List.set_cons_succ]
    refine pl_take (d := some 15) (v := .agg u.toArray) (by rfl) (ex_mid rfl rfl rc1 Try.underlying23 rfl iu) rfl ?_
    simp only [Act.put, List.setIfInBounds_toArray, List.set_cons_zero, List.set_cons_succ]
    refine pl_take (d := some 16) (v := .agg qx.toArray) (by rfl) (ex_mid rfl rfl rx1 Try.underlying30 rfl hix) rfl ?_
    simp only [Act.put, List.setIfInBounds_toArray, List.set_cons_zero, List.set_cons_succ]
    refine pl_call (d := some 17) (by rfl) (by go_simp; first | done | exact ⟨rfl, rfl⟩ | with_reducible rfl) rfl ?_
    refine (cGx w1 xa1).mono ?_
    rintro _ w2 ⟨rfl, hb2w⟩
    refine ⟨_, rfl, ?_⟩
    simp only [Act.put, List.setIfInBounds_toArray, List.set_cons_zero, List.set_cons_succ]
    have B2 := B1.trans (hb2w.mono B1.size)
    have rc2 := range_below rc1 hb2w (by omega)
    have rx2 := range_below rx1 hb2w (by omega)
    have ro2 := range_below ro1 hb2w (by omega)
    have xa2 := xa1.below hb2w
    have oa2 := oa1.below hb2w
    have hz2 := Nat.le_trans hz1 hb2w.size
    obtain ⟨gx, hgx⟩ : ∃ b, Hid (x.good c = b) := ⟨_, hide rfl⟩
    simp only [hgx.out]
    clear cGx rc1 rx1 ro1 xa1 oa1 hb2w B1 hz1
    cases gx
    · refine pl_take (d := some 18) (v := .bool true) (by rfl) (by go_simp) rfl ?_
      simp only [Act.put, List.setIfInBounds_toArray, List.set_cons_zero, List.set_cons_succ]
      refine pl_take (d := some 19) (v := ?_) (by rfl) ?_ rfl ?_
      rotate_left
      · go_simp
        try with_reducible rfl
      simp only [Act.put, List.setIfInBounds_toArray, List.set_cons_zero, List.set_cons_succ]
      refine pl_nil ?_
      clear rc2 rx2 ro2 xa2 oa2
      go_upto_region 2 with fail
      try simp only [Act.put]
      refine pl_begin ?_
      refine pl_call (d := some 20) (by rfl) (by go_simp; first | done | exact ⟨rfl, rfl⟩ | with_reducible rfl) rfl ?_
      refine (lives22_any w2).mono ?_
      rintro _ wL ⟨rfl, hbL⟩
      refine ⟨_, rfl, ?_⟩
      simp only [Act.put, List.setIfInBounds_toArray, List.set_cons_zero, List.set_cons_succ]
      refine pl_take (d := some 6) (v := ?_) (by rfl) ?_ rfl ?_
      rotate_left
      · go_simp
        try with_reducible rfl
      simp only [Act.put, List.setIfInBounds_toArray, List.set_cons_zero, List.set_cons_succ]
      refine pl_nil ?_
      have HB := hide (B2.trans (hbL.mono B2.size))
      go_wp2_with fail
      go_ret
      exact ⟨rfl, HB.out⟩
    · refine pl_take (d := some 18) (v := .bool false) (by rfl) (by go_simp) rfl ?_
      simp only [Act.put, List.setIfInBounds_toArray, List.set_cons_zero, List.set_cons_succ]
      refine pl_take (d := some 19) (v := ?_) (by rfl) ?_ rfl ?_
      rotate_left
      · go_simp
        try with_reducible rfl
      simp only [Act.put, List.setIfInBounds_toArray, List.set_cons_zero, List.set_cons_succ]
      refine pl_nil ?_
      have hfx : x.sp.fit := HFX.out hgx.out
      have hgs : x.sp.good c = true := by rw [← Stt.good_sp]; exact hgx.out
      have cP := fun w0 => cP0 (strOf x.bytes) w0 (by rw [strOf_size]; omega)
      unfold ParsA at cP
      rw [strL_strOf hb1, Stt.bytes_sp, parse_back hfx hgs] at cP
      simp only at cP
      have cP : ∀ w0, Calls Try.prog 6 #[.agg u.toArray, .string (strOf x.bytes)] w0 fun en w' => ∃ y : Stt, en = .returned (.tuple #[.agg y.cells.toArray, .int .i64 0]) ∧ y.sp = x.sp ∧ y.ok ∧ y.At w' ∧ y.Lo w0.heap.size ∧ Below w0.heap.size w0 w' := by rw [Stt.bytes_sp]; exact cP
      have HZ := hide (⟨hfx, hb1, hb2⟩ : x.sp.fit ∧ (∀ z ∈ x.bytes, 0 ≤ z ∧ z < 256) ∧ ∀ z ∈ o.bytes, 0 ≤ z ∧ z < 256)
      clear cP0 hgs hgx HFX hb1 hb2 hbl hfx
      obtain ⟨b0, hb0⟩ : ∃ b, Hid (strOf x.bytes = b) := ⟨_, hide rfl⟩
      obtain ⟨b1, hb1'⟩ : ∃ b, Hid (strOf o.bytes = b) := ⟨_, hide rfl⟩
      simp only [hb0.out, hb1'.out] at cP cB2 cBo1
      obtain ⟨go, hgo⟩ : ∃ b, Hid (o.good c = b) := ⟨_, hide rfl⟩
      simp only [hgo.out] at cGo0
      obtain ⟨E, hE⟩ : ∃ X, C + 1 + 1 = X := ⟨_, rfl⟩
      have hE2 : C + 2 = E := hE
      rw [hE2] at ro2
      simp only [hE, hE2]
      obtain ⟨D, hD⟩ : ∃ X, C + 1 = X := ⟨_, rfl⟩
      simp only [hD] at rx2 ⊢
      have sc2 : C < w2.heap.size := by omega
      have sx2 : D < w2.heap.size := by omega
      have so2 : E < w2.heap.size := by omega
      clear hD hE hE2 hz2
      have HBs := hide (fun hg : x.sp.fit => fun ho : o.sp.fit => bytes_same hg ho)
      go_upto_region 3 with fail
      have r8c : w2.drew.rangeAt C 0 u := (World.rangeAt_drew _ _ _ _).2 rc2
      have r8x : w2.drew.rangeAt D 0 qx := (World.rangeAt_drew _ _ _ _).2 rx2
      have r8o : w2.drew.rangeAt E 0 qo := (World.rangeAt_drew _ _ _ _).2 ro2
      have xa8 : x.At w2.drew := xa2.below ((Below.refl _ _).drew)
      have oa8 : o.At w2.drew := oa2.below ((Below.refl _ _).drew)
      have B8 : Below w.heap.size w w2.drew := B2.drew
      have s8c : C < w2.drew.heap.size := sc2
      have s8x : D < w2.drew.heap.size := sx2
      have s8o : E < w2.drew.heap.size := so2
      refine hs_begin (S := (Below w2.drew.heap.size w2.drew)) 10 rfl (by kernel_rfl) ?_
      obtain ⟨w8, hw8⟩ : ∃ W, w2.drew = W := ⟨_, rfl⟩
      rw [hw8] at r8c r8x r8o xa8 oa8 B8 s8c s8x s8o ⊢
      clear hw8 rc2 rx2 ro2 xa2 oa2 B2 sc2 sx2 so2
      have hS : (Below w8.heap.size w8) w8 := Below.refl _ _
      have cB : ∀ w0, Below w8.heap.size w8 w0 → Calls Try.prog 11 #[.agg qx.toArray] w0 fun e w' => e = .returned (.string b0) ∧ Below w0.heap.size w0 w' := fun w0 hb => cB2 w0 (xa8.below hb)
      refine hs_take (i := 0) (d := some 22) (v := .agg u.toArray) rfl (by kernel_rfl) (by kernel_rfl) (by kernel_rfl) (by rfl) (fun w' hw => ex_mid rfl rfl (range_below r8c hw s8c) Try.underlying23 rfl iu) hS rfl ?_
      simp only [Act.put, List.setIfInBounds_toArray, List.set_cons_zero, List.set_cons_succ]
      refine hs_take (i := 1) (d := some 23) (v := .agg qx.toArray) rfl (by kernel_rfl) (by kernel_rfl) (by kernel_rfl) (by rfl) (fun w' hw => ex_mid rfl rfl (range_below r8x hw s8x) Try.underlying30 rfl hix) hS rfl ?_
      simp only [Act.put, List.setIfInBounds_toArray, List.set_cons_zero, List.set_cons_succ]
      refine hs_forkL (l := [2, 7]) (by kernel_rfl) (by simp) ?_
      intro ii hii
      simp only [List.mem_cons, List.not_mem_nil, or_false] at hii
      rcases hii with rfl | rfl
      · refine st_call (i := 2) (d := some 24) rfl (by rfl) (by go_simp; first | done | exact ⟨rfl, rfl⟩ | with_reducible rfl) rfl ?_
        refine (cB w8 hS).mono ?_
        rintro _ wa ⟨rfl, hb_wa⟩
        have hS : (Below w8.heap.size w8) wa := hS.trans (hb_wa.mono hS.size)
        refine ⟨_, rfl, hS, ?_⟩
        simp only [Act.put, List.setIfInBounds_toArray, List.set_cons_zero, List.set_cons_succ]
        refine hs_forkL (l := [3, 7]) (by kernel_rfl) (by simp) ?_
        intro ii hii
        simp only [List.mem_cons, List.not_mem_nil, or_false] at hii
        rcases hii with rfl | rfl
        · refine st_call (i := 3) (d := some 25) rfl (by rfl) (by go_simp; first | done | exact ⟨rfl, rfl⟩ | with_reducible rfl) rfl ?_
          refine (cP wa).mono ?_
          rintro _ wb ⟨y, rfl, ys, yo, ya, yl, hb_wb⟩
          have hS : (Below w8.heap.size w8) wb := hS.trans (hb_wb.mono hS.size)
          refine ⟨_, rfl, hS, ?_⟩
          simp only [Act.put, List.setIfInBounds_toArray, List.set_cons_zero, List.set_cons_succ]
          refine hs_take (i := 4) (d := some 21) (v := ?_) rfl (by kernel_rfl) (by kernel_rfl) (by kernel_rfl) (by rfl) ?_ hS rfl ?_
          rotate_left
          · intro w' hw
            go_simp
            try with_reducible rfl
          simp only [Act.put, List.setIfInBounds_toArray, List.set_cons_zero, List.set_cons_succ]
          refine hs_take (i := 5) (d := some 26) (v := ?_) rfl (by kernel_rfl) (by kernel_rfl) (by kernel_rfl) (by rfl) ?_ hS rfl ?_
          rotate_left
          · intro w' hw
            go_simp
            try with_reducible rfl
          simp only [Act.put, List.setIfInBounds_toArray, List.set_cons_zero, List.set_cons_succ]
          refine hs_take (i := 6) (d := some 27) (v := ?_) rfl (by kernel_rfl) (by kernel_rfl) (by kernel_rfl) (by rfl) ?_ hS rfl ?_
          rotate_left
          · intro w' hw
            go_simp
            try with_reducible rfl
          simp only [Act.put, List.setIfInBounds_toArray, List.set_cons_zero, List.set_cons_succ]
          obtain ⟨X, HX⟩ : ∃ x, Hid (wb.heap.size = x) := ⟨_, hide rfl⟩
          have hXw : w8.heap.size ≤ X := by have := hS.size; have := HX.out; omega
          have hb_wc : Below wb.heap.size wb (wb.alloc (.cells zc.toArray 30)) := (Below.refl _ _).alloc (Nat.le_refl _) _
          have tn : (wb.alloc (.cells zc.toArray 30)).there X 0 37 := by rw [← HX.out]; exact there_newN wb zc.toArray 30 (n := 37) (by simp [hzl])
          have ln : X < (wb.alloc (.cells zc.toArray 30)).heap.size := by rw [← HX.out]; exact (boxed_new wb zc 30).2.2
          have hS' : (Below w8.heap.size w8) (wb.alloc (.cells zc.toArray 30)) := hS.trans (hb_wc.mono hS.size)
          refine hs_run (i := 7) (d := some 7) (v := .pointer (some ⟨X, 0, none⟩)) (w' := wb.alloc (.cells zc.toArray 30)) rfl (by kernel_rfl) (by rfl) (by rw [← HX.out]; exact ex_alloc rfl (hzr _)) rfl hS' ?_
          simp only [Act.put, List.setIfInBounds_toArray, List.set_cons_zero, List.set_cons_succ]
          obtain ⟨wc, h_wc⟩ : ∃ W, wb.alloc (.cells zc.toArray 30) = W := ⟨_, rfl⟩
          rw [h_wc] at hb_wc tn ln hS' ⊢
          clear h_wc
          have hS : (Below w8.heap.size w8) wc := hS'
          clear hS'
          have yaF : ∀ q, y.At (wc.setCells X 0 q) := fun q => ya.below (below_sets (by have := HX.out; omega) q 0 _ hb_wc)
          have hyl : y.cells.length = 37 := Stt.len yo
          have hy1 := Stt.one y
          have hiy : (Try.prog.info? 30).map (·.size) = some y.cells.length := by rw [hyl]; exact iszSt
          obtain ⟨qy, hqy⟩ : ∃ q, Hid (y.cells = q) := ⟨_, hide rfl⟩
          rw [hqy.out] at hyl hy1 hiy
          simp only [hqy.out]
          have hS2 : (Below w8.heap.size w8) (wc.setCells X 0 qy) := below_sets hXw qy 0 _ hS
          have ryX : (wc.setCells X 0 qy).rangeAt X 0 qy := World.rangeAt_setCells_same wc X 0 qy (by rw [hyl]; exact tn)
          have yaF := yaF qy
          refine hs_store (i := 8) (w' := wc.setCells X 0 qy) rfl (by kernel_rfl) (by rfl) (ex_put (cs := qy.toArray) rfl rfl rfl (by simpa [hyl] using tn) (by simpa using hiy) (all_one hy1)) rfl hS2 ?_
          obtain ⟨w9, hw9⟩ : ∃ W, wc.setCells X 0 qy = W := ⟨_, rfl⟩
          have sX9 : X < w9.heap.size := by rw [← hw9, size_sets]; exact ln
          rw [hw9] at hS2 ryX yaF ⊢
          have hS : (Below w8.heap.size w8) w9 := hS2
          refine hs_take (i := 9) (d := some 8) (v := ?_) rfl (by kernel_rfl) (by kernel_rfl) (by kernel_rfl) (by rfl) ?_ hS rfl ?_
          rotate_left
          · intro w' hw
            go_simp
            try with_reducible rfl
          simp only [Act.put, List.setIfInBounds_toArray, List.set_cons_zero, List.set_cons_succ]
          refine hs_done (by kernel_rfl) ?_
          have xa9 := xa8.below hS
          have rc9 := range_below r8c hS s8c
          have rx9 := range_below r8x hS s8x
          have B9 := B8.trans (hS.mono B8.size)
          have s9c := Nat.lt_of_lt_of_le s8c hS.size
          have s9x := Nat.lt_of_lt_of_le s8x hS.size
          have oa9 := oa8.below hS
          have ro9 := range_below r8o hS s8o
          have s9o := Nat.lt_of_lt_of_le s8o hS.size
          have cSy := fun w0 h1 h2 => cSy0 y w0 yo h1 h2
          simp only [hqy.out, show y.B x = true from Stt.B_sp.2 ys] at cSy
          clear cSy0 hS2 hS hXw tn ln r8c r8x r8o xa8 oa8 B8 s8c s8x s8o yl ya cB cP hw9
          go_upto_region 4 with fail
          try simp only [Act.put]
          refine pl_begin ?_
          refine pl_take (d := some 28) (v := ?_) (by rfl) ?_ rfl ?_
          rotate_left
          · go_simp
            try with_reducible rfl
          simp only [Act.put, List.setIfInBounds_toArray, List.set_cons_zero, List.set_cons_succ]
          refine pl_take (d := some 29) (v := .bool false) (by rfl) (by go_simp) rfl ?_
          simp only [Act.put, List.setIfInBounds_toArray, List.set_cons_zero, List.set_cons_succ]
          refine pl_take (d := some 30) (v := ?_) (by rfl) ?_ rfl ?_
          rotate_left
          · go_simp
            try with_reducible rfl
          simp only [Act.put, List.setIfInBounds_toArray, List.set_cons_zero, List.set_cons_succ]
          refine pl_take (d := some 31) (v := .agg qy.toArray) (by rfl) (ex_mid rfl rfl ryX Try.underlying30 rfl hiy) rfl ?_
          simp only [Act.put, List.setIfInBounds_toArray, List.set_cons_zero, List.set_cons_succ]
          refine pl_take (d := some 32) (v := .agg qx.toArray) (by rfl) (ex_mid rfl rfl rx9 Try.underlying30 rfl hix) rfl ?_
          simp only [Act.put, List.setIfInBounds_toArray, List.set_cons_zero, List.set_cons_succ]
          refine pl_call (d := some 33) (by rfl) (by go_simp; first | done | exact ⟨rfl, rfl⟩ | with_reducible rfl) rfl ?_
          refine (cSy w9 yaF xa9).mono ?_
          rintro _ v1 ⟨rfl, hb1⟩
          refine ⟨_, rfl, ?_⟩
          simp only [Act.put, List.setIfInBounds_toArray, List.set_cons_zero, List.set_cons_succ]
          refine pl_take (d := some 34) (v := .bool false) (by rfl) (by go_simp) rfl ?_
          simp only [Act.put, List.setIfInBounds_toArray, List.set_cons_zero, List.set_cons_succ]
          refine pl_take (d := some 35) (v := ?_) (by rfl) ?_ rfl ?_
          rotate_left
          · go_simp
            try with_reducible rfl
          simp only [Act.put, List.setIfInBounds_toArray, List.set_cons_zero, List.set_cons_succ]
          refine pl_nil ?_
          have BU := B9.trans (hb1.mono B9.size)
          have uc := range_below rc9 hb1 s9c
          have ux := range_below rx9 hb1 s9x
          have uo := range_below ro9 hb1 s9o
          have uax := xa9.below hb1
          have uao := oa9.below hb1
          have usc := Nat.lt_of_lt_of_le s9c hb1.size
          have usx := Nat.lt_of_lt_of_le s9x hb1.size
          have uso := Nat.lt_of_lt_of_le s9o hb1.size
          clear B9 rc9 rx9 ro9 xa9 oa9 s9c s9x s9o hb1 ryX yaF sX9 cSy
          go_upto_region 6 with fail
          have vc : v1.drew.rangeAt C 0 u := (World.rangeAt_drew _ _ _ _).2 uc
          have vx : v1.drew.rangeAt D 0 qx := (World.rangeAt_drew _ _ _ _).2 ux
          have vo : v1.drew.rangeAt E 0 qo := (World.rangeAt_drew _ _ _ _).2 uo
          have vax : x.At v1.drew := uax.below ((Below.refl _ _).drew)
          have vao : o.At v1.drew := uao.below ((Below.refl _ _).drew)
          have BV : Below w.heap.size w v1.drew := BU.drew
          have vsc : C < v1.drew.heap.size := usc
          have vsx : D < v1.drew.heap.size := usx
          have vso : E < v1.drew.heap.size := uso
          refine hs_begin (S := (Below v1.drew.heap.size v1.drew)) 19 rfl (by kernel_rfl) ?_
          obtain ⟨v8, hv8⟩ : ∃ W, v1.drew = W := ⟨_, rfl⟩
          rw [hv8] at vc vx vo vax vao BV vsc vsx vso ⊢
          clear hv8 uc ux uo uax uao BU usc usx uso
          have hS : (Below v8.heap.size v8) v8 := Below.refl _ _
          have cGo := fun w0 (hb : Below v8.heap.size v8 w0) => cGo0 w0 (vao.below hb)
          have cBs := fun w0 (hb : Below v8.heap.size v8 w0) => cB2 w0 (vax.below hb)
          have cBo := fun w0 (hb : Below v8.heap.size v8 w0) => cBo1 w0 (vao.below hb)
          have cSo := fun w0 (hb : Below v8.heap.size v8 w0) => cSo0 w0 (vax.below hb) (vao.below hb)
          clear cGo0 cB2 cBo1 cSo0
          refine hs_take (i := 0) (d := some 36) (v := .agg u.toArray) rfl (by kernel_rfl) (by kernel_rfl) (by kernel_rfl) (by rfl) (fun w' hw => ex_mid rfl rfl (range_below vc hw vsc) Try.underlying23 rfl iu) hS rfl ?_
          simp only [Act.put, List.setIfInBounds_toArray, List.set_cons_zero, List.set_cons_succ]
          refine hs_take (i := 1) (d := some 37) (v := .agg qo.toArray) rfl (by kernel_rfl) (by kernel_rfl) (by kernel_rfl) (by rfl) (fun w' hw => ex_mid rfl rfl (range_below vo hw vso) Try.underlying30 rfl hio) hS rfl ?_
          simp only [Act.put, List.setIfInBounds_toArray, List.set_cons_zero, List.set_cons_succ]
          refine hs_call (i := 2) (d := some 38) rfl (by kernel_rfl) (by rfl) (by go_simp; first | done | exact ⟨rfl, rfl⟩ | with_reducible rfl) rfl ?_
          refine (cGo v8 hS).mono ?_
          rintro _ u1 ⟨rfl, hu1⟩
          have hS : (Below v8.heap.size v8) u1 := hS.trans (hu1.mono hS.size)
          refine ⟨_, rfl, hS, ?_⟩
          simp only [Act.put, List.setIfInBounds_toArray, List.set_cons_zero, List.set_cons_succ]
          cases go
          · refine hs_take (i := 3) (d := some 39) (v := .bool true) rfl (by kernel_rfl) (by kernel_rfl) (by kernel_rfl) (by rfl) (fun w' hw => by go_simp) hS rfl ?_
            simp only [Act.put, List.setIfInBounds_toArray, List.set_cons_zero, List.set_cons_succ]
            refine hs_take (i := 4) (d := some 40) (v := ?_) rfl (by kernel_rfl) (by kernel_rfl) (by kernel_rfl) (by rfl) ?_ hS rfl ?_
            rotate_left
            · intro w' hw
              go_simp
              try with_reducible rfl
            simp only [Act.put, List.setIfInBounds_toArray, List.set_cons_zero, List.set_cons_succ]
            refine hs_skip (i := 5) (d := some 41) rfl (by kernel_rfl) (by kernel_rfl) (by kernel_rfl) (by rfl) hS rfl ?_
            simp only [Act.put, List.setIfInBounds_toArray, List.set_cons_zero, List.set_cons_succ]
            refine hs_skip (i := 6) (d := some 42) rfl (by kernel_rfl) (by kernel_rfl) (by kernel_rfl) (by rfl) hS rfl ?_
            simp only [Act.put, List.setIfInBounds_toArray, List.set_cons_zero, List.set_cons_succ]
            refine hs_skip (i := 7) (d := some 43) rfl (by kernel_rfl) (by kernel_rfl) (by kernel_rfl) (by rfl) hS rfl ?_
            simp only [Act.put, List.setIfInBounds_toArray, List.set_cons_zero, List.set_cons_succ]
            refine hs_skip (i := 8) (d := some 44) rfl (by kernel_rfl) (by kernel_rfl) (by kernel_rfl) (by rfl) hS rfl ?_
            simp only [Act.put, List.setIfInBounds_toArray, List.set_cons_zero, List.set_cons_succ]
            refine hs_skip (i := 9) (d := some 45) rfl (by kernel_rfl) (by kernel_rfl) (by kernel_rfl) (by rfl) hS rfl ?_
            simp only [Act.put, List.setIfInBounds_toArray, List.set_cons_zero, List.set_cons_succ]
            refine hs_skip (i := 10) (d := some 46) rfl (by kernel_rfl) (by kernel_rfl) (by kernel_rfl) (by rfl) hS rfl ?_
            simp only [Act.put, List.setIfInBounds_toArray, List.set_cons_zero, List.set_cons_succ]
            refine hs_skip (i := 11) (d := some 47) rfl (by kernel_rfl) (by kernel_rfl) (by kernel_rfl) (by rfl) hS rfl ?_
            simp only [Act.put, List.setIfInBounds_toArray, List.set_cons_zero, List.set_cons_succ]
            refine hs_skip (i := 12) (d := some 48) rfl (by kernel_rfl) (by kernel_rfl) (by kernel_rfl) (by rfl) hS rfl ?_
            simp only [Act.put, List.setIfInBounds_toArray, List.set_cons_zero, List.set_cons_succ]
            refine hs_skip (i := 13) (d := some 49) rfl (by kernel_rfl) (by kernel_rfl) (by kernel_rfl) (by rfl) hS rfl ?_
            simp only [Act.put, List.setIfInBounds_toArray, List.set_cons_zero, List.set_cons_succ]
            refine hs_take (i := 14) (d := some 50) (v := ?_) rfl (by kernel_rfl) (by kernel_rfl) (by kernel_rfl) (by rfl) ?_ hS rfl ?_
            rotate_left
            · intro w' hw
              go_simp
              try with_reducible rfl
            simp only [Act.put, List.setIfInBounds_toArray, List.set_cons_zero, List.set_cons_succ]
            refine hs_take (i := 15) (d := some 51) (v := ?_) rfl (by kernel_rfl) (by kernel_rfl) (by kernel_rfl) (by rfl) ?_ hS rfl ?_
            rotate_left
            · intro w' hw
              go_simp
              try with_reducible rfl
            simp only [Act.put, List.setIfInBounds_toArray, List.set_cons_zero, List.set_cons_succ]
            refine hs_call (i := 16) (d := some 52) rfl (by kernel_rfl) (by rfl) (by go_simp; first | done | exact ⟨rfl, rfl⟩ | with_reducible rfl) rfl ?_
            refine (lives22_any u1).mono ?_
            rintro _ u2 ⟨rfl, hu2⟩
            have hS : (Below v8.heap.size v8) u2 := hS.trans (hu2.mono hS.size)
            refine ⟨_, rfl, hS, ?_⟩
            simp only [Act.put, List.setIfInBounds_toArray, List.set_cons_zero, List.set_cons_succ]
            refine hs_take (i := 17) (d := some 53) (v := ?_) rfl (by kernel_rfl) (by kernel_rfl) (by kernel_rfl) (by rfl) ?_ hS rfl ?_
            rotate_left
            · intro w' hw
              go_simp
              try with_reducible rfl
            simp only [Act.put, List.setIfInBounds_toArray, List.set_cons_zero, List.set_cons_succ]
            refine hs_take (i := 18) (d := some 6) (v := ?_) rfl (by kernel_rfl) (by kernel_rfl) (by kernel_rfl) (by rfl) ?_ hS rfl ?_
            rotate_left
            · intro w' hw
              go_simp
              try with_reducible rfl
            simp only [Act.put, List.setIfInBounds_toArray, List.set_cons_zero, List.set_cons_succ]
            refine hs_done (by kernel_rfl) ?_
            have HB := hide (BV.trans (hS.mono BV.size))
            go_wp2_with fail
            go_ret
            exact ⟨rfl, HB.out⟩
          · have hfo : o.sp.fit := HFO.out hgo.out
            have hbs := HBs.out HZ.out.1 hfo
            by_cases he : x.sp = o.sp
            · have hBo : x.B o = true := Stt.B_sp.2 he
              have hee : b1 = b0 := by rw [← hb0.out, ← hb1'.out, Stt.bytes_sp, Stt.bytes_sp, he]
              subst hee
              simp only [hBo] at cSo
              clear he hbs hfo hBo HBs HFO
              refine hs_take (i := 3) (d := some 39) (v := .bool false) rfl (by kernel_rfl) (by kernel_rfl) (by kernel_rfl) (by rfl) (fun w' hw => by go_simp) hS rfl ?_
              simp only [Act.put, List.setIfInBounds_toArray, List.set_cons_zero, List.set_cons_succ]
              refine hs_take (i := 4) (d := some 40) (v := ?_) rfl (by kernel_rfl) (by kernel_rfl) (by kernel_rfl) (by rfl) ?_ hS rfl ?_
              rotate_left
              · intro w' hw
                go_simp
                try with_reducible rfl
              simp only [Act.put, List.setIfInBounds_toArray, List.set_cons_zero, List.set_cons_succ]
              refine hs_take (i := 5) (d := some 41) (v := .agg qx.toArray) rfl (by kernel_rfl) (by kernel_rfl) (by kernel_rfl) (by rfl) (fun w' hw => ex_mid rfl rfl (range_below vx hw vsx) Try.underlying30 rfl hix) hS rfl ?_
              simp only [Act.put, List.setIfInBounds_toArray, List.set_cons_zero, List.set_cons_succ]
              refine hs_take (i := 7) (d := some 43) (v := .agg qo.toArray) rfl (by kernel_rfl) (by kernel_rfl) (by kernel_rfl) (by rfl) (fun w' hw => ex_mid rfl rfl (range_below vo hw vso) Try.underlying30 rfl hio) hS rfl ?_
              simp only [Act.put, List.setIfInBounds_toArray, List.set_cons_zero, List.set_cons_succ]
              refine hs_take (i := 10) (d := some 46) (v := .agg qx.toArray) rfl (by kernel_rfl) (by kernel_rfl) (by kernel_rfl) (by rfl) (fun w' hw => ex_mid rfl rfl (range_below vx hw vsx) Try.underlying30 rfl hix) hS rfl ?_
              simp only [Act.put, List.setIfInBounds_toArray, List.set_cons_zero, List.set_cons_succ]
              refine hs_take (i := 11) (d := some 47) (v := .agg qo.toArray) rfl (by kernel_rfl) (by kernel_rfl) (by kernel_rfl) (by rfl) (fun w' hw => ex_mid rfl rfl (range_below vo hw vso) Try.underlying30 rfl hio) hS rfl ?_
              simp only [Act.put, List.setIfInBounds_toArray, List.set_cons_zero, List.set_cons_succ]
              refine hs_call (i := 6) (d := some 42) rfl (by kernel_rfl) (by rfl) (by go_simp; first | done | exact ⟨rfl, rfl⟩ | with_reducible rfl) rfl ?_
              refine (cBs u1 hS).mono ?_
              rintro _ u2 ⟨rfl, hu2⟩
              have hS : (Below v8.heap.size v8) u2 := hS.trans (hu2.mono hS.size)
              refine ⟨_, rfl, hS, ?_⟩
              simp only [Act.put, List.setIfInBounds_toArray, List.set_cons_zero, List.set_cons_succ]
              refine hs_call (i := 8) (d := some 44) rfl (by kernel_rfl) (by rfl) (by go_simp; first | done | exact ⟨rfl, rfl⟩ | with_reducible rfl) rfl ?_
              refine (cBo u2 hS).mono ?_
              rintro _ u3 ⟨rfl, hu3⟩
              have hS : (Below v8.heap.size v8) u3 := hS.trans (hu3.mono hS.size)
              refine ⟨_, rfl, hS, ?_⟩
              simp only [Act.put, List.setIfInBounds_toArray, List.set_cons_zero, List.set_cons_succ]
              refine hs_take (i := 9) (d := some 45) (v := .bool true) rfl (by kernel_rfl) (by kernel_rfl) (by kernel_rfl) (by rfl) (fun w' hw => by go_simp <;> (try simp [*])) hS rfl ?_
              simp only [Act.put, List.setIfInBounds_toArray, List.set_cons_zero, List.set_cons_succ]
              refine hs_call (i := 12) (d := some 48) rfl (by kernel_rfl) (by rfl) (by go_simp; first | done | exact ⟨rfl, rfl⟩ | with_reducible rfl) rfl ?_
              refine (cSo u3 hS).mono ?_
              rintro _ u4 ⟨rfl, hu4⟩
              have hS : (Below v8.heap.size v8) u4 := hS.trans (hu4.mono hS.size)
              refine ⟨_, rfl, hS, ?_⟩
              simp only [Act.put, List.setIfInBounds_toArray, List.set_cons_zero, List.set_cons_succ]
              refine hs_take (i := 13) (d := some 49) (v := .bool true) rfl (by kernel_rfl) (by kernel_rfl) (by kernel_rfl) (by rfl) (fun w' hw => by go_simp) hS rfl ?_
              simp only [Act.put, List.setIfInBounds_toArray, List.set_cons_zero, List.set_cons_succ]
              refine hs_take (i := 14) (d := some 50) (v := ?_) rfl (by kernel_rfl) (by kernel_rfl) (by kernel_rfl) (by rfl) ?_ hS rfl ?_
              rotate_left
              · intro w' hw
                go_simp
                try with_reducible rfl
              simp only [Act.put, List.setIfInBounds_toArray, List.set_cons_zero, List.set_cons_succ]
              refine hs_take (i := 15) (d := some 51) (v := ?_) rfl (by kernel_rfl) (by kernel_rfl) (by kernel_rfl) (by rfl) ?_ hS rfl ?_
              rotate_left
              · intro w' hw
                go_simp
                try with_reducible rfl
              simp only [Act.put, List.setIfInBounds_toArray, List.set_cons_zero, List.set_cons_succ]
              refine hs_call (i := 16) (d := some 52) rfl (by kernel_rfl) (by rfl) (by go_simp; first | done | exact ⟨rfl, rfl⟩ | with_reducible rfl) rfl ?_
              refine (lives22_any u4).mono ?_
              rintro _ u5 ⟨rfl, hu5⟩
              have hS : (Below v8.heap.size v8) u5 := hS.trans (hu5.mono hS.size)
              refine ⟨_, rfl, hS, ?_⟩
              simp only [Act.put, List.setIfInBounds_toArray, List.set_cons_zero, List.set_cons_succ]
              refine hs_take (i := 17) (d := some 53) (v := ?_) rfl (by kernel_rfl) (by kernel_rfl) (by kernel_rfl) (by rfl) ?_ hS rfl ?_
              rotate_left
              · intro w' hw
                go_simp
                try with_reducible rfl
              simp only [Act.put, List.setIfInBounds_toArray, List.set_cons_zero, List.set_cons_succ]
              refine hs_take (i := 18) (d := some 6) (v := ?_) rfl (by kernel_rfl) (by kernel_rfl) (by kernel_rfl) (by rfl) ?_ hS rfl ?_
              rotate_left
              · intro w' hw
                go_simp
                try with_reducible rfl
              simp only [Act.put, List.setIfInBounds_toArray, List.set_cons_zero, List.set_cons_succ]
              refine hs_done (by kernel_rfl) ?_
              have HB := hide (BV.trans (hS.mono BV.size))
              go_wp2_with fail
              go_ret
              exact ⟨rfl, HB.out⟩
            · have hBo : x.B o = false := by
                cases q : x.B o
                · rfl
                · exact absurd (Stt.B_sp.1 q) he
              have hne : ¬ b0.toList = b1.toList := fun q => he (hbs.1 (by
                rw [← hb0.out, ← hb1'.out] at q
                rw [← Stt.bytes_sp, ← Stt.bytes_sp]
                exact strOf_inj HZ.out.2.1 HZ.out.2.2 q))
              simp only [hBo] at cSo
              clear he hbs hfo hBo HBs HFO
              refine hs_take (i := 3) (d := some 39) (v := .bool false) rfl (by kernel_rfl) (by kernel_rfl) (by kernel_rfl) (by rfl) (fun w' hw => by go_simp) hS rfl ?_
              simp only [Act.put, List.setIfInBounds_toArray, List.set_cons_zero, List.set_cons_succ]
              refine hs_take (i := 4) (d := some 40) (v := ?_) rfl (by kernel_rfl) (by kernel_rfl) (by kernel_rfl) (by rfl) ?_ hS rfl ?_
              rotate_left
              · intro w' hw
                go_simp
                try with_reducible rfl
              simp only [Act.put, List.setIfInBounds_toArray, List.set_cons_zero, List.set_cons_succ]
              refine hs_take (i := 5) (d := some 41) (v := .agg qx.toArray) rfl (by kernel_rfl) (by kernel_rfl) (by kernel_rfl) (by rfl) (fun w' hw => ex_mid rfl rfl (range_below vx hw vsx) Try.underlying30 rfl hix) hS rfl ?_
              simp only [Act.put, List.setIfInBounds_toArray, List.set_cons_zero, List.set_cons_succ]
              refine hs_take (i := 7) (d := some 43) (v := .agg qo.toArray) rfl (by kernel_rfl) (by kernel_rfl) (by kernel_rfl) (by rfl) (fun w' hw => ex_mid rfl rfl (range_below vo hw vso) Try.underlying30 rfl hio) hS rfl ?_
              simp only [Act.put, List.setIfInBounds_toArray, List.set_cons_zero, List.set_cons_succ]
              refine hs_take (i := 10) (d := some 46) (v := .agg qx.toArray) rfl (by kernel_rfl) (by kernel_rfl) (by kernel_rfl) (by rfl) (fun w' hw => ex_mid rfl rfl (range_below vx hw vsx) Try.underlying30 rfl hix) hS rfl ?_
              simp only [Act.put, List.setIfInBounds_toArray, List.set_cons_zero, List.set_cons_succ]
              refine hs_take (i := 11) (d := some 47) (v := .agg qo.toArray) rfl (by kernel_rfl) (by kernel_rfl) (by kernel_rfl) (by rfl) (fun w' hw => ex_mid rfl rfl (range_below vo hw vso) Try.underlying30 rfl hio) hS rfl ?_
              simp only [Act.put, List.setIfInBounds_toArray, List.set_cons_zero, List.set_cons_succ]
              refine hs_call (i := 6) (d := some 42) rfl (by kernel_rfl) (by rfl) (by go_simp; first | done | exact ⟨rfl, rfl⟩ | with_reducible rfl) rfl ?_
              refine (cBs u1 hS).mono ?_
              rintro _ u2 ⟨rfl, hu2⟩
              have hS : (Below v8.heap.size v8) u2 := hS.trans (hu2.mono hS.size)
              refine ⟨_, rfl, hS, ?_⟩
              simp only [Act.put, List.setIfInBounds_toArray, List.set_cons_zero, List.set_cons_succ]
              refine hs_call (i := 8) (d := some 44) rfl (by kernel_rfl) (by rfl) (by go_simp; first | done | exact ⟨rfl, rfl⟩ | with_reducible rfl) rfl ?_
              refine (cBo u2 hS).mono ?_
              rintro _ u3 ⟨rfl, hu3⟩
              have hS : (Below v8.heap.size v8) u3 := hS.trans (hu3.mono hS.size)
              refine ⟨_, rfl, hS, ?_⟩
              simp only [Act.put, List.setIfInBounds_toArray, List.set_cons_zero, List.set_cons_succ]
              refine hs_take (i := 9) (d := some 45) (v := .bool false) rfl (by kernel_rfl) (by kernel_rfl) (by kernel_rfl) (by rfl) (fun w' hw => by go_simp <;> (try simp [*])) hS rfl ?_
              simp only [Act.put, List.setIfInBounds_toArray, List.set_cons_zero, List.set_cons_succ]
              refine hs_call (i := 12) (d := some 48) rfl (by kernel_rfl) (by rfl) (by go_simp; first | done | exact ⟨rfl, rfl⟩ | with_reducible rfl) rfl ?_
              refine (cSo u3 hS).mono ?_
              rintro _ u4 ⟨rfl, hu4⟩
              have hS : (Below v8.heap.size v8) u4 := hS.trans (hu4.mono hS.size)
              refine ⟨_, rfl, hS, ?_⟩
              simp only [Act.put, List.setIfInBounds_toArray, List.set_cons_zero, List.set_cons_succ]
              refine hs_take (i := 13) (d := some 49) (v := .bool true) rfl (by kernel_rfl) (by kernel_rfl) (by kernel_rfl) (by rfl) (fun w' hw => by go_simp) hS rfl ?_
              simp only [Act.put, List.setIfInBounds_toArray, List.set_cons_zero, List.set_cons_succ]
              refine hs_take (i := 14) (d := some 50) (v := ?_) rfl (by kernel_rfl) (by kernel_rfl) (by kernel_rfl) (by rfl) ?_ hS rfl ?_
              rotate_left
              · intro w' hw
                go_simp
                try with_reducible rfl
              simp only [Act.put, List.setIfInBounds_toArray, List.set_cons_zero, List.set_cons_succ]
              refine hs_take (i := 15) (d := some 51) (v := ?_) rfl (by kernel_rfl) (by kernel_rfl) (by kernel_rfl) (by rfl) ?_ hS rfl ?_
              rotate_left
              · intro w' hw
                go_simp
                try with_reducible rfl
              simp only [Act.put, List.setIfInBounds_toArray, List.set_cons_zero, List.set_cons_succ]
              refine hs_call (i := 16) (d := some 52) rfl (by kernel_rfl) (by rfl) (by go_simp; first | done | exact ⟨rfl, rfl⟩ | with_reducible rfl) rfl ?_
              refine (lives22_any u4).mono ?_
              rintro _ u5 ⟨rfl, hu5⟩
              have hS : (Below v8.heap.size v8) u5 := hS.trans (hu5.mono hS.size)
              refine ⟨_, rfl, hS, ?_⟩
              simp only [Act.put, List.setIfInBounds_toArray, List.set_cons_zero, List.set_cons_succ]
              refine hs_take (i := 17) (d := some 53) (v := ?_) rfl (by kernel_rfl) (by kernel_rfl) (by kernel_rfl) (by rfl) ?_ hS rfl ?_
              rotate_left
              · intro w' hw
                go_simp
                try with_reducible rfl
              simp only [Act.put, List.setIfInBounds_toArray, List.set_cons_zero, List.set_cons_succ]
              refine hs_take (i := 18) (d := some 6) (v := ?_) rfl (by kernel_rfl) (by kernel_rfl) (by kernel_rfl) (by rfl) ?_ hS rfl ?_
              rotate_left
              · intro w' hw
                go_simp
                try with_reducible rfl
              simp only [Act.put, List.setIfInBounds_toArray, List.set_cons_zero, List.set_cons_succ]
              refine hs_done (by kernel_rfl) ?_
              have HB := hide (BV.trans (hS.mono BV.size))
              go_wp2_with fail
              go_ret
              exact ⟨rfl, HB.out⟩
        · obtain ⟨X, HX⟩ : ∃ x, Hid (wa.heap.size = x) := ⟨_, hide rfl⟩
          have hXw : w8.heap.size ≤ X := by have := hS.size; have := HX.out; omega
          have hb_wb : Below wa.heap.size wa (wa.alloc (.cells zc.toArray 30)) := (Below.refl _ _).alloc (Nat.le_refl _) _
          have tn : (wa.alloc (.cells zc.toArray 30)).there X 0 37 := by rw [← HX.out]; exact there_newN wa zc.toArray 30 (n := 37) (by simp [hzl])
          have ln : X < (wa.alloc (.cells zc.toArray 30)).heap.size := by rw [← HX.out]; exact (boxed_new wa zc 30).2.2
          have hS' : (Below w8.heap.size w8) (wa.alloc (.cells zc.toArray 30)) := hS.trans (hb_wb.mono hS.size)
          refine st_run (i := 7) (d := some 7) (v := .pointer (some ⟨X, 0, none⟩)) (w' := wa.alloc (.cells zc.toArray 30)) rfl (by rfl) (by rw [← HX.out]; exact ex_alloc rfl (hzr _)) rfl hS' ?_
          simp only [Act.put, List.setIfInBounds_toArray, List.set_cons_zero, List.set_cons_succ]
          obtain ⟨wb, h_wb⟩ : ∃ W, wa.alloc (.cells zc.toArray 30) = W := ⟨_, rfl⟩
          rw [h_wb] at hb_wb tn ln hS' ⊢
          clear h_wb
          have hS : (Below w8.heap.size w8) wb := hS'
          clear hS'
          have ln0 := ln
          refine hs_call (i := 3) (d := some 25) rfl (by kernel_rfl) (by rfl) (by go_simp; first | done | exact ⟨rfl, rfl⟩ | with_reducible rfl) rfl ?_
          refine (cP wb).mono ?_
          rintro _ wc ⟨y, rfl, ys, yo, ya, yl, hb_wc⟩
          have hS : (Below w8.heap.size w8) wc := hS.trans (hb_wc.mono hS.size)
          refine ⟨_, rfl, hS, ?_⟩
          simp only [Act.put, List.setIfInBounds_toArray, List.set_cons_zero, List.set_cons_succ]
          have tn := there_below tn hb_wc ln
          have ln := Nat.lt_of_lt_of_le ln hb_wc.size
          refine hs_take (i := 4) (d := some 21) (v := ?_) rfl (by kernel_rfl) (by kernel_rfl) (by kernel_rfl) (by rfl) ?_ hS rfl ?_
          rotate_left
          · intro w' hw
            go_simp
            try with_reducible rfl
          simp only [Act.put, List.setIfInBounds_toArray, List.set_cons_zero, List.set_cons_succ]
          refine hs_take (i := 5) (d := some 26) (v := ?_) rfl (by kernel_rfl) (by kernel_rfl) (by kernel_rfl) (by rfl) ?_ hS rfl ?_
          rotate_left
          · intro w' hw
            go_simp
            try with_reducible rfl
          simp only [Act.put, List.setIfInBounds_toArray, List.set_cons_zero, List.set_cons_succ]
          refine hs_take (i := 6) (d := some 27) (v := ?_) rfl (by kernel_rfl) (by kernel_rfl) (by kernel_rfl) (by rfl) ?_ hS rfl ?_
          rotate_left
          · intro w' hw
            go_simp
            try with_reducible rfl
          simp only [Act.put, List.setIfInBounds_toArray, List.set_cons_zero, List.set_cons_succ]
          have yaF : ∀ q, y.At (wc.setCells X 0 q) := fun q => ya.put yl ln0
          have hyl : y.cells.length = 37 := Stt.len yo
          have hy1 := Stt.one y
          have hiy : (Try.prog.info? 30).map (·.size) = some y.cells.length := by rw [hyl]; exact iszSt
          obtain ⟨qy, hqy⟩ : ∃ q, Hid (y.cells = q) := ⟨_, hide rfl⟩
          rw [hqy.out] at hyl hy1 hiy
          simp only [hqy.out]
          have hS2 : (Below w8.heap.size w8) (wc.setCells X 0 qy) := below_sets hXw qy 0 _ hS
          have ryX : (wc.setCells X 0 qy).rangeAt X 0 qy := World.rangeAt_setCells_same wc X 0 qy (by rw [hyl]; exact tn)
          have yaF := yaF qy
          refine hs_store (i := 8) (w' := wc.setCells X 0 qy) rfl (by kernel_rfl) (by rfl) (ex_put (cs := qy.toArray) rfl rfl rfl (by simpa [hyl] using tn) (by simpa using hiy) (all_one hy1)) rfl hS2 ?_
          obtain ⟨w9, hw9⟩ : ∃ W, wc.setCells X 0 qy = W := ⟨_, rfl⟩
          have sX9 : X < w9.heap.size := by rw [← hw9, size_sets]; exact ln
          rw [hw9] at hS2 ryX yaF ⊢
          have hS : (Below w8.heap.size w8) w9 := hS2
          refine hs_take (i := 9) (d := some 8) (v := ?_) rfl (by kernel_rfl) (by kernel_rfl) (by kernel_rfl) (by rfl) ?_ hS rfl ?_
          rotate_left
          · intro w' hw
            go_simp
            try with_reducible rfl
          simp only [Act.put, List.setIfInBounds_toArray, List.set_cons_zero, List.set_cons_succ]
          refine hs_done (by kernel_rfl) ?_
          have xa9 := xa8.below hS
          have rc9 := range_below r8c hS s8c
          have rx9 := range_below r8x hS s8x
          have B9 := B8.trans (hS.mono B8.size)
          have s9c := Nat.lt_of_lt_of_le s8c hS.size
          have s9x := Nat.lt_of_lt_of_le s8x hS.size
          have oa9 := oa8.below hS
          have ro9 := range_below r8o hS s8o
          have s9o := Nat.lt_of_lt_of_le s8o hS.size
          have cSy := fun w0 h1 h2 => cSy0 y w0 yo h1 h2
          simp only [hqy.out, show y.B x = true from Stt.B_sp.2 ys] at cSy
          clear cSy0 hS2 hS hXw tn ln r8c r8x r8o xa8 oa8 B8 s8c s8x s8o yl ya cB cP hw9
          go_upto_region 4 with fail
          try simp only [Act.put]
          refine pl_begin ?_
          refine pl_take (d := some 28) (v := ?_) (by rfl) ?_ rfl ?_
          rotate_left
          · go_simp
            try with_reducible rfl
          simp only [Act.put, List.setIfInBounds_toArray, List.set_cons_zero, List.set_cons_succ]
          refine pl_take (d := some 29) (v := .bool false) (by rfl) (by go_simp) rfl ?_
          simp only [Act.put, List.setIfInBounds_toArray, List.set_cons_zero, List.set_cons_succ]
          refine pl_take (d := some 30) (v := ?_) (by rfl) ?_ rfl ?_
          rotate_left
          · go_simp
            try with_reducible rfl
          simp only [Act.put, List.setIfInBounds_toArray, List.set_cons_zero, List.set_cons_succ]
          refine pl_take (d := some 31) (v := .agg qy.toArray) (by rfl) (ex_mid rfl rfl ryX Try.underlying30 rfl hiy) rfl ?_
          simp only [Act.put, List.setIfInBounds_toArray, List.set_cons_zero, List.set_cons_succ]
          refine pl_take (d := some 32) (v := .agg qx.toArray) (by rfl) (ex_mid rfl rfl rx9 Try.underlying30 rfl hix) rfl ?_
          simp only [Act.put, List.setIfInBounds_toArray, List.set_cons_zero, List.set_cons_succ]
          refine pl_call (d := some 33) (by rfl) (by go_simp; first | done | exact ⟨rfl, rfl⟩ | with_reducible rfl) rfl ?_
          refine (cSy w9 yaF xa9).mono ?_
          rintro _ v1 ⟨rfl, hb1⟩
          refine ⟨_, rfl, ?_⟩
          simp only [Act.put, List.setIfInBounds_toArray, List.set_cons_zero, List.set_cons_succ]
          refine pl_take (d := some 34) (v := .bool false) (by rfl) (by go_simp) rfl ?_
          simp only [Act.put, List.setIfInBounds_toArray, List.set_cons_zero, List.set_cons_succ]
          refine pl_take (d := some 35) (v := ?_) (by rfl) ?_ rfl ?_
          rotate_left
          · go_simp
            try with_reducible rfl
          simp only [Act.put, List.setIfInBounds_toArray, List.set_cons_zero, List.set_cons_succ]
          refine pl_nil ?_
          have BU := B9.trans (hb1.mono B9.size)
          have uc := range_below rc9 hb1 s9c
          have ux := range_below rx9 hb1 s9x
          have uo := range_below ro9 hb1 s9o
          have uax := xa9.below hb1
          have uao := oa9.below hb1
          have usc := Nat.lt_of_lt_of_le s9c hb1.size
          have usx := Nat.lt_of_lt_of_le s9x hb1.size
          have uso := Nat.lt_of_lt_of_le s9o hb1.size
          clear B9 rc9 rx9 ro9 xa9 oa9 s9c s9x s9o hb1 ryX yaF sX9 cSy
          go_upto_region 6 with fail
          have vc : v1.drew.rangeAt C 0 u := (World.rangeAt_drew _ _ _ _).2 uc
          have vx : v1.drew.rangeAt D 0 qx := (World.rangeAt_drew _ _ _ _).2 ux
          have vo : v1.drew.rangeAt E 0 qo := (World.rangeAt_drew _ _ _ _).2 uo
          have vax : x.At v1.drew := uax.below ((Below.refl _ _).drew)
          have vao : o.At v1.drew := uao.below ((Below.refl _ _).drew)
          have BV : Below w.heap.size w v1.drew := BU.drew
          have vsc : C < v1.drew.heap.size := usc
          have vsx : D < v1.drew.heap.size := usx
          have vso : E < v1.drew.heap.size := uso
          refine hs_begin (S := (Below v1.drew.heap.size v1.drew)) 19 rfl (by kernel_rfl) ?_
          obtain ⟨v8, hv8⟩ : ∃ W, v1.drew = W := ⟨_, rfl⟩
          rw [hv8] at vc vx vo vax vao BV vsc vsx vso ⊢
          clear hv8 uc ux uo uax uao BU usc usx uso
          have hS : (Below v8.heap.size v8) v8 := Below.refl _ _
          have cGo := fun w0 (hb : Below v8.heap.size v8 w0) => cGo0 w0 (vao.below hb)
          have cBs := fun w0 (hb : Below v8.heap.size v8 w0) => cB2 w0 (vax.below hb)
          have cBo := fun w0 (hb : Below v8.heap.size v8 w0) => cBo1 w0 (vao.below hb)
          have cSo := fun w0 (hb : Below v8.heap.size v8 w0) => cSo0 w0 (vax.below hb) (vao.below hb)
          clear cGo0 cB2 cBo1 cSo0
          refine hs_take (i := 0) (d := some 36) (v := .agg u.toArray) rfl (by kernel_rfl) (by kernel_rfl) (by kernel_rfl) (by rfl) (fun w' hw => ex_mid rfl rfl (range_below vc hw vsc) Try.underlying23 rfl iu) hS rfl ?_
          simp only [Act.put, List.setIfInBounds_toArray, List.set_cons_zero, List.set_cons_succ]
          refine hs_take (i := 1) (d := some 37) (v := .agg qo.toArray) rfl (by kernel_rfl) (by kernel_rfl) (by kernel_rfl) (by rfl) (fun w' hw => ex_mid rfl rfl (range_below vo hw vso) Try.underlying30 rfl hio) hS rfl ?_
          simp only [Act.put, List.setIfInBounds_toArray, List.set_cons_zero, List.set_cons_succ]
          refine hs_call (i := 2) (d := some 38) rfl (by kernel_rfl) (by rfl) (by go_simp; first | done | exact ⟨rfl, rfl⟩ | with_reducible rfl) rfl ?_
          refine (cGo v8 hS).mono ?_
          rintro _ u1 ⟨rfl, hu1⟩
          have hS : (Below v8.heap.size v8) u1 := hS.trans (hu1.mono hS.size)
          refine ⟨_, rfl, hS, ?_⟩
          simp only [Act.put, List.setIfInBounds_toArray, List.set_cons_zero, List.set_cons_succ]
          cases go
          · refine hs_take (i := 3) (d := some 39) (v := .bool true) rfl (by kernel_rfl) (by kernel_rfl) (by kernel_rfl) (by rfl) (fun w' hw => by go_simp) hS rfl ?_
            simp only [Act.put, List.setIfInBounds_toArray, List.set_cons_zero, List.set_cons_succ]
            refine hs_take (i := 4) (d := some 40) (v := ?_) rfl (by kernel_rfl) (by kernel_rfl) (by kernel_rfl) (by rfl) ?_ hS rfl ?_
            rotate_left
            · intro w' hw
              go_simp
              try with_reducible rfl
            simp only [Act.put, List.setIfInBounds_toArray, List.set_cons_zero, List.set_cons_succ]
            refine hs_skip (i := 5) (d := some 41) rfl (by kernel_rfl) (by kernel_rfl) (by kernel_rfl) (by rfl) hS rfl ?_
            simp only [Act.put, List.setIfInBounds_toArray, List.set_cons_zero, List.set_cons_succ]
            refine hs_skip (i := 6) (d := some 42) rfl (by kernel_rfl) (by kernel_rfl) (by kernel_rfl) (by rfl) hS rfl ?_
            simp only [Act.put, List.setIfInBounds_toArray, List.set_cons_zero, List.set_cons_succ]
            refine hs_skip (i := 7) (d := some 43) rfl (by kernel_rfl) (by kernel_rfl) (by kernel_rfl) (by rfl) hS rfl ?_
            simp only [Act.put, List.setIfInBounds_toArray, List.set_cons_zero, List.set_cons_succ]
            refine hs_skip (i := 8) (d := some 44) rfl (by kernel_rfl) (by kernel_rfl) (by kernel_rfl) (by rfl) hS rfl ?_
            simp only [Act.put, List.setIfInBounds_toArray, List.set_cons_zero, List.set_cons_succ]
            refine hs_skip (i := 9) (d := some 45) rfl (by kernel_rfl) (by kernel_rfl) (by kernel_rfl) (by rfl) hS rfl ?_
            simp only [Act.put, List.setIfInBounds_toArray, List.set_cons_zero, List.set_cons_succ]
            refine hs_skip (i := 10) (d := some 46) rfl (by kernel_rfl) (by kernel_rfl) (by kernel_rfl) (by rfl) hS rfl ?_
            simp only [Act.put, List.setIfInBounds_toArray, List.set_cons_zero, List.set_cons_succ]
            refine hs_skip (i := 11) (d := some 47) rfl (by kernel_rfl) (by kernel_rfl) (by kernel_rfl) (by rfl) hS rfl ?_
            simp only [Act.put, List.setIfInBounds_toArray, List.set_cons_zero, List.set_cons_succ]
            refine hs_skip (i := 12) (d := some 48) rfl (by kernel_rfl) (by kernel_rfl) (by kernel_rfl) (by rfl) hS rfl ?_
            simp only [Act.put, List.setIfInBounds_toArray, List.set_cons_zero, List.set_cons_succ]
            refine hs_skip (i := 13) (d := some 49) rfl (by kernel_rfl) (by kernel_rfl) (by kernel_rfl) (by rfl) hS rfl ?_
            simp only [Act.put, List.setIfInBounds_toArray, List.set_cons_zero, List.set_cons_succ]
            refine hs_take (i := 14) (d := some 50) (v := ?_) rfl (by kernel_rfl) (by kernel_rfl) (by kernel_rfl) (by rfl) ?_ hS rfl ?_
            rotate_left
            · intro w' hw
              go_simp
              try with_reducible rfl
            simp only [Act.put, List.setIfInBounds_toArray, List.set_cons_zero, List.set_cons_succ]
            refine hs_take (i := 15) (d := some 51) (v := ?_) rfl (by kernel_rfl) (by kernel_rfl) (by kernel_rfl) (by rfl) ?_ hS rfl ?_
            rotate_left
            · intro w' hw
              go_simp
              try with_reducible rfl
            simp only [Act.put, List.setIfInBounds_toArray, List.set_cons_zero, List.set_cons_succ]
            refine hs_call (i := 16) (d := some 52) rfl (by kernel_rfl) (by rfl) (by go_simp; first | done | exact ⟨rfl, rfl⟩ | with_reducible rfl) rfl ?_
            refine (lives22_any u1).mono ?_
            rintro _ u2 ⟨rfl, hu2⟩
            have hS : (Below v8.heap.size v8) u2 := hS.trans (hu2.mono hS.size)
            refine ⟨_, rfl, hS, ?_⟩
            simp only [Act.put, List.setIfInBounds_toArray, List.set_cons_zero, List.set_cons_succ]
            refine hs_take (i := 17) (d := some 53) (v := ?_) rfl (by kernel_rfl) (by kernel_rfl) (by kernel_rfl) (by rfl) ?_ hS rfl ?_
            rotate_left
            · intro w' hw
              go_simp
              try with_reducible rfl
            simp only [Act.put, List.setIfInBounds_toArray, List.set_cons_zero, List.set_cons_succ]
            refine hs_take (i := 18) (d := some 6) (v := ?_) rfl (by kernel_rfl) (by kernel_rfl) (by kernel_rfl) (by rfl) ?_ hS rfl ?_
            rotate_left
            · intro w' hw
              go_simp
              try with_reducible rfl
            simp only [Act.put, List.setIfInBounds_toArray, List.set_cons_zero, List.set_cons_succ]
            refine hs_done (by kernel_rfl) ?_
            have HB := hide (BV.trans (hS.mono BV.size))
            go_wp2_with fail
            go_ret
            exact ⟨rfl, HB.out⟩
          · have hfo : o.sp.fit := HFO.out hgo.out
            have hbs := HBs.out HZ.out.1 hfo
            by_cases he : x.sp = o.sp
            · have hBo : x.B o = true := Stt.B_sp.2 he
              have hee : b1 = b0 := by rw [← hb0.out, ← hb1'.out, Stt.bytes_sp, Stt.bytes_sp, he]
              subst hee
              simp only [hBo] at cSo
              clear he hbs hfo hBo HBs HFO
              refine hs_take (i := 3) (d := some 39) (v := .bool false) rfl (by kernel_rfl) (by kernel_rfl) (by kernel_rfl) (by rfl) (fun w' hw => by go_simp) hS rfl ?_
              simp only [Act.put, List.setIfInBounds_toArray, List.set_cons_zero, List.set_cons_succ]
              refine hs_take (i := 4) (d := some 40) (v := ?_) rfl (by kernel_rfl) (by kernel_rfl) (by kernel_rfl) (by rfl) ?_ hS rfl ?_
              rotate_left
              · intro w' hw
                go_simp
                try with_reducible rfl
              simp only [Act.put, List.setIfInBounds_toArray, List.set_cons_zero, List.set_cons_succ]
              refine hs_take (i := 5) (d := some 41) (v := .agg qx.toArray) rfl (by kernel_rfl) (by kernel_rfl) (by kernel_rfl) (by rfl) (fun w' hw => ex_mid rfl rfl (range_below vx hw vsx) Try.underlying30 rfl hix) hS rfl ?_
              simp only [Act.put, List.setIfInBounds_toArray, List.set_cons_zero, List.set_cons_succ]
              refine hs_take (i := 7) (d := some 43) (v := .agg qo.toArray) rfl (by kernel_rfl) (by kernel_rfl) (by kernel_rfl) (by rfl) (fun w' hw => ex_mid rfl rfl (range_below vo hw vso) Try.underlying30 rfl hio) hS rfl ?_
              simp only [Act.put, List.setIfInBounds_toArray, List.set_cons_zero, List.set_cons_succ]
              refine hs_take (i := 10) (d := some 46) (v := .agg qx.toArray) rfl (by kernel_rfl) (by kernel_rfl) (by kernel_rfl) (by rfl) (fun w' hw => ex_mid rfl rfl (range_below vx hw vsx) Try.underlying30 rfl hix) hS rfl ?_
              simp only [Act.put, List.setIfInBounds_toArray, List.set_cons_zero, List.set_cons_succ]
              refine hs_take (i := 11) (d := some 47) (v := .agg qo.toArray) rfl (by kernel_rfl) (by kernel_rfl) (by kernel_rfl) (by rfl) (fun w' hw => ex_mid rfl rfl (range_below vo hw vso) Try.underlying30 rfl hio) hS rfl ?_
              simp only [Act.put, List.setIfInBounds_toArray, List.set_cons_zero, List.set_cons_succ]
              refine hs_call (i := 6) (d := some 42) rfl (by kernel_rfl) (by rfl) (by go_simp; first | done | exact ⟨rfl, rfl⟩ | with_reducible rfl) rfl ?_
              refine (cBs u1 hS).mono ?_
              rintro _ u2 ⟨rfl, hu2⟩
              have hS : (Below v8.heap.size v8) u2 := hS.trans (hu2.mono hS.size)
              refine ⟨_, rfl, hS, ?_⟩
              simp only [Act.put, List.setIfInBounds_toArray, List.set_cons_zero, List.set_cons_succ]
              refine hs_call (i := 8) (d := some 44) rfl (by kernel_rfl) (by rfl) (by go_simp; first | done | exact ⟨rfl, rfl⟩ | with_reducible rfl) rfl ?_
              refine (cBo u2 hS).mono ?_
              rintro _ u3 ⟨rfl, hu3⟩
              have hS : (Below v8.heap.size v8) u3 := hS.trans (hu3.mono hS.size)
              refine ⟨_, rfl, hS, ?_⟩
              simp only [Act.put, List.setIfInBounds_toArray, List.set_cons_zero, List.set_cons_succ]
              refine hs_take (i := 9) (d := some 45) (v := .bool true) rfl (by kernel_rfl) (by kernel_rfl) (by kernel_rfl) (by rfl) (fun w' hw => by go_simp <;> (try simp [*])) hS rfl ?_
              simp only [Act.put, List.setIfInBounds_toArray, List.set_cons_zero, List.set_cons_succ]
              refine hs_call (i := 12) (d := some 48) rfl (by kernel_rfl) (by rfl) (by go_simp; first | done | exact ⟨rfl, rfl⟩ | with_reducible rfl) rfl ?_
              refine (cSo u3 hS).mono ?_
              rintro _ u4 ⟨rfl, hu4⟩
              have hS : (Below v8.heap.size v8) u4 := hS.trans (hu4.mono hS.size)
              refine ⟨_, rfl, hS, ?_⟩
              simp only [Act.put, List.setIfInBounds_toArray, List.set_cons_zero, List.set_cons_succ]
              refine hs_take (i := 13) (d := some 49) (v := .bool true) rfl (by kernel_rfl) (by kernel_rfl) (by kernel_rfl) (by rfl) (fun w' hw => by go_simp) hS rfl ?_
              simp only [Act.put, List.setIfInBounds_toArray, List.set_cons_zero, List.set_cons_succ]
              refine hs_take (i := 14) (d := some 50) (v := ?_) rfl (by kernel_rfl) (by kernel_rfl) (by kernel_rfl) (by rfl) ?_ hS rfl ?_
              rotate_left
              · intro w' hw
                go_simp
                try with_reducible rfl
              simp only [Act.put, List.setIfInBounds_toArray, List.set_cons_zero, List.set_cons_succ]
              refine hs_take (i := 15) (d := some 51) (v := ?_) rfl (by kernel_rfl) (by kernel_rfl) (by kernel_rfl) (by rfl) ?_ hS rfl ?_
              rotate_left
              · intro w' hw
                go_simp
                try with_reducible rfl
              simp only [Act.put, List.setIfInBounds_toArray, List.set_cons_zero, List.set_cons_succ]
              refine hs_call (i := 16) (d := some 52) rfl (by kernel_rfl) (by rfl) (by go_simp; first | done | exact ⟨rfl, rfl⟩ | with_reducible rfl) rfl ?_
              refine (lives22_any u4).mono ?_
              rintro _ u5 ⟨rfl, hu5⟩
              have hS : (Below v8.heap.size v8) u5 := hS.trans (hu5.mono hS.size)
              refine ⟨_, rfl, hS, ?_⟩
              simp only [Act.put, List.setIfInBounds_toArray, List.set_cons_zero, List.set_cons_succ]
              refine hs_take (i := 17) (d := some 53) (v := ?_) rfl (by kernel_rfl) (by kernel_rfl) (by kernel_rfl) (by rfl) ?_ hS rfl ?_
              rotate_left
              · intro w' hw
                go_simp
                try with_reducible rfl
              simp only [Act.put, List.setIfInBounds_toArray, List.set_cons_zero, List.set_cons_succ]
              refine hs_take (i := 18) (d := some 6) (v := ?_) rfl (by kernel_rfl) (by kernel_rfl) (by kernel_rfl) (by rfl) ?_ hS rfl ?_
              rotate_left
              · intro w' hw
                go_simp
                try with_reducible rfl
              simp only [Act.put, List.setIfInBounds_toArray, List.set_cons_zero, List.set_cons_succ]
              refine hs_done (by kernel_rfl) ?_
              have HB := hide (BV.trans (hS.mono BV.size))
              go_wp2_with fail
              go_ret
              exact ⟨rfl, HB.out⟩
            · have hBo : x.B o = false := by
                cases q : x.B o
                · rfl
                · exact absurd (Stt.B_sp.1 q) he
              have hne : ¬ b0.toList = b1.toList := fun q => he (hbs.1 (by
                rw [← hb0.out, ← hb1'.out] at q
                rw [← Stt.bytes_sp, ← Stt.bytes_sp]
                exact strOf_inj HZ.out.2.1 HZ.out.2.2 q))
              simp only [hBo] at cSo
              clear he hbs hfo hBo HBs HFO
              refine hs_take (i := 3) (d := some 39) (v := .bool false) rfl (by kernel_rfl) (by kernel_rfl) (by kernel_rfl) (by rfl) (fun w' hw => by go_simp) hS rfl ?_
              simp only [Act.put, List.setIfInBounds_toArray, List.set_cons_zero, List.set_cons_succ]
              refine hs_take (i := 4) (d := some 40) (v := ?_) rfl (by kernel_rfl) (by kernel_rfl) (by kernel_rfl) (by rfl) ?_ hS rfl ?_
              rotate_left
              · intro w' hw
                go_simp
                try with_reducible rfl
              simp only [Act.put, List.setIfInBounds_toArray, List.set_cons_zero, List.set_cons_succ]
              refine hs_take (i := 5) (d := some 41) (v := .agg qx.toArray) rfl (by kernel_rfl) (by kernel_rfl) (by kernel_rfl) (by rfl) (fun w' hw => ex_mid rfl rfl (range_below vx hw vsx) Try.underlying30 rfl hix) hS rfl ?_
              simp only [Act.put, List.setIfInBounds_toArray, List.set_cons_zero, List.set_cons_succ]
              refine hs_take (i := 7) (d := some 43) (v := .agg qo.toArray) rfl (by kernel_rfl) (by kernel_rfl) (by kernel_rfl) (by rfl) (fun w' hw => ex_mid rfl rfl (range_below vo hw vso) Try.underlying30 rfl hio) hS rfl ?_
              simp only [Act.put, List.setIfInBounds_toArray, List.set_cons_zero, List.set_cons_succ]
              refine hs_take (i := 10) (d := some 46) (v := .agg qx.toArray) rfl (by kernel_rfl) (by kernel_rfl) (by kernel_rfl) (by rfl) (fun w' hw => ex_mid rfl rfl (range_below vx hw vsx) Try.underlying30 rfl hix) hS rfl ?_
              simp only [Act.put, List.setIfInBounds_toArray, List.set_cons_zero, List.set_cons_succ]
              refine hs_take (i := 11) (d := some 47) (v := .agg qo.toArray) rfl (by kernel_rfl) (by kernel_rfl) (by kernel_rfl) (by rfl) (fun w' hw => ex_mid rfl rfl (range_below vo hw vso) Try.underlying30 rfl hio) hS rfl ?_
              simp only [Act.put, List.setIfInBounds_toArray, List.set_cons_zero, List.set_cons_succ]
              refine hs_call (i := 6) (d := some 42) rfl (by kernel_rfl) (by rfl) (by go_simp; first | done | exact ⟨rfl, rfl⟩ | with_reducible rfl) rfl ?_
              refine (cBs u1 hS).mono ?_
              rintro _ u2 ⟨rfl, hu2⟩
              have hS : (Below v8.heap.size v8) u2 := hS.trans (hu2.mono hS.size)
              refine ⟨_, rfl, hS, ?_⟩
              simp only [Act.put, List.setIfInBounds_toArray, List.set_cons_zero, List.set_cons_succ]
              refine hs_call (i := 8) (d := some 44) rfl (by kernel_rfl) (by rfl) (by go_simp; first | done | exact ⟨rfl, rfl⟩ | with_reducible rfl) rfl ?_
              refine (cBo u2 hS).mono ?_
              rintro _ u3 ⟨rfl, hu3⟩
              have hS : (Below v8.heap.size v8) u3 := hS.trans (hu3.mono hS.size)
              refine ⟨_, rfl, hS, ?_⟩
              simp only [Act.put, List.setIfInBounds_toArray, List.set_cons_zero, List.set_cons_succ]
              refine hs_take (i := 9) (d := some 45) (v := .bool false) rfl (by kernel_rfl) (by kernel_rfl) (by kernel_rfl) (by rfl) (fun w' hw => by go_simp <;> (try simp [*])) hS rfl ?_
              simp only [Act.put, List.setIfInBounds_toArray, List.set_cons_zero, List.set_cons_succ]
              refine hs_call (i := 12) (d := some 48) rfl (by kernel_rfl) (by rfl) (by go_simp; first | done | exact ⟨rfl, rfl⟩ | with_reducible rfl) rfl ?_
              refine (cSo u3 hS).mono ?_
              rintro _ u4 ⟨rfl, hu4⟩
              have hS : (Below v8.heap.size v8) u4 := hS.trans (hu4.mono hS.size)
              refine ⟨_, rfl, hS, ?_⟩
              simp only [Act.put, List.setIfInBounds_toArray, List.set_cons_zero, List.set_cons_succ]
              refine hs_take (i := 13) (d := some 49) (v := .bool true) rfl (by kernel_rfl) (by kernel_rfl) (by kernel_rfl) (by rfl) (fun w' hw => by go_simp) hS rfl ?_
              simp only [Act.put, List.setIfInBounds_toArray, List.set_cons_zero, List.set_cons_succ]
              refine hs_take (i := 14) (d := some 50) (v := ?_) rfl (by kernel_rfl) (by kernel_rfl) (by kernel_rfl) (by rfl) ?_ hS rfl ?_
              rotate_left
              · intro w' hw
                go_simp
                try with_reducible rfl
              simp only [Act.put, List.setIfInBounds_toArray, List.set_cons_zero, List.set_cons_succ]
              refine hs_take (i := 15) (d := some 51) (v := ?_) rfl (by kernel_rfl) (by kernel_rfl) (by kernel_rfl) (by rfl) ?_ hS rfl ?_
              rotate_left
              · intro w' hw
                go_simp
                try with_reducible rfl
              simp only [Act.put, List.setIfInBounds_toArray, List.set_cons_zero, List.set_cons_succ]
              refine hs_call (i := 16) (d := some 52) rfl (by kernel_rfl) (by rfl) (by go_simp; first | done | exact ⟨rfl, rfl⟩ | with_reducible rfl) rfl ?_
              refine (lives22_any u4).mono ?_
              rintro _ u5 ⟨rfl, hu5⟩
              have hS : (Below v8.heap.size v8) u5 := hS.trans (hu5.mono hS.size)
              refine ⟨_, rfl, hS, ?_⟩
              simp only [Act.put, List.setIfInBounds_toArray, List.set_cons_zero, List.set_cons_succ]
              refine hs_take (i := 17) (d := some 53) (v := ?_) rfl (by kernel_rfl) (by kernel_rfl) (by kernel_rfl) (by rfl) ?_ hS rfl ?_
              rotate_left
              · intro w' hw
                go_simp
                try with_reducible rfl
              simp only [Act.put, List.setIfInBounds_toArray, List.set_cons_zero, List.set_cons_succ]
              refine hs_take (i := 18) (d := some 6) (v := ?_) rfl (by kernel_rfl) (by kernel_rfl) (by kernel_rfl) (by rfl) ?_ hS rfl ?_
              rotate_left
              · intro w' hw
                go_simp
                try with_reducible rfl
              simp only [Act.put, List.setIfInBounds_toArray, List.set_cons_zero, List.set_cons_succ]
              refine hs_done (by kernel_rfl) ?_
              have HB := hide (BV.trans (hS.mono BV.size))
              go_wp2_with fail
              go_ret
              exact ⟨rfl, HB.out⟩
      · obtain ⟨X, HX⟩ : ∃ x, Hid (w8.heap.size = x) := ⟨_, hide rfl⟩
        have hXw : w8.heap.size ≤ X := by have := hS.size; have := HX.out; omega
        have hb_wa : Below w8.heap.size w8 (w8.alloc (.cells zc.toArray 30)) := (Below.refl _ _).alloc (Nat.le_refl _) _
        have tn : (w8.alloc (.cells zc.toArray 30)).there X 0 37 := by rw [← HX.out]; exact there_newN w8 zc.toArray 30 (n := 37) (by simp [hzl])
        have ln : X < (w8.alloc (.cells zc.toArray 30)).heap.size := by rw [← HX.out]; exact (boxed_new w8 zc 30).2.2
        have hS' : (Below w8.heap.size w8) (w8.alloc (.cells zc.toArray 30)) := hS.trans (hb_wa.mono hS.size)
        refine st_run (i := 7) (d := some 7) (v := .pointer (some ⟨X, 0, none⟩)) (w' := w8.alloc (.cells zc.toArray 30)) rfl (by rfl) (by rw [← HX.out]; exact ex_alloc rfl (hzr _)) rfl hS' ?_
        simp only [Act.put, List.setIfInBounds_toArray, List.set_cons_zero, List.set_cons_succ]
        obtain ⟨wa, h_wa⟩ : ∃ W, w8.alloc (.cells zc.toArray 30) = W := ⟨_, rfl⟩
        rw [h_wa] at hb_wa tn ln hS' ⊢
        clear h_wa
        have hS : (Below w8.heap.size w8) wa := hS'
        clear hS'
        refine hs_call (i := 2) (d := some 24) rfl (by kernel_rfl) (by rfl) (by go_simp; first | done | exact ⟨rfl, rfl⟩ | with_reducible rfl) rfl ?_
        refine (cB wa hS).mono ?_
        rintro _ wb ⟨rfl, hb_wb⟩
        have hS : (Below w8.heap.size w8) wb := hS.trans (hb_wb.mono hS.size)
        refine ⟨_, rfl, hS, ?_⟩
        simp only [Act.put, List.setIfInBounds_toArray, List.set_cons_zero, List.set_cons_succ]
        have tn := there_below tn hb_wb ln
        have ln := Nat.lt_of_lt_of_le ln hb_wb.size
        have ln0 := ln
        refine hs_call (i := 3) (d := some 25) rfl (by kernel_rfl) (by rfl) (by go_simp; first | done | exact ⟨rfl, rfl⟩ | with_reducible rfl) rfl ?_
        refine (cP wb).mono ?_
        rintro _ wc ⟨y, rfl, ys, yo, ya, yl, hb_wc⟩
        have hS : (Below w8.heap.size w8) wc := hS.trans (hb_wc.mono hS.size)
        refine ⟨_, rfl, hS, ?_⟩
        simp only [Act.put, List.setIfInBounds_toArray, List.set_cons_zero, List.set_cons_succ]
        have tn := there_below tn hb_wc ln
        have ln := Nat.lt_of_lt_of_le ln hb_wc.size
        refine hs_take (i := 4) (d := some 21) (v := ?_) rfl (by kernel_rfl) (by kernel_rfl) (by kernel_rfl) (by rfl) ?_ hS rfl ?_
        rotate_left
        · intro w' hw
          go_simp
          try with_reducible rfl
        simp only [Act.put, List.setIfInBounds_toArray, List.set_cons_zero, List.set_cons_succ]
        refine hs_take (i := 5) (d := some 26) (v := ?_) rfl (by kernel_rfl) (by kernel_rfl) (by kernel_rfl) (by rfl) ?_ hS rfl ?_
        rotate_left
        · intro w' hw
          go_simp
          try with_reducible rfl
        simp only [Act.put, List.setIfInBounds_toArray, List.set_cons_zero, List.set_cons_succ]
        refine hs_take (i := 6) (d := some 27) (v := ?_) rfl (by kernel_rfl) (by kernel_rfl) (by kernel_rfl) (by rfl) ?_ hS rfl ?_
        rotate_left
        · intro w' hw
          go_simp
          try with_reducible rfl
        simp only [Act.put, List.setIfInBounds_toArray, List.set_cons_zero, List.set_cons_succ]
        have yaF : ∀ q, y.At (wc.setCells X 0 q) := fun q => ya.put yl ln0
        have hyl : y.cells.length = 37 := Stt.len yo
        have hy1 := Stt.one y
        have hiy : (Try.prog.info? 30).map (·.size) = some y.cells.length := by rw [hyl]; exact iszSt
        obtain ⟨qy, hqy⟩ : ∃ q, Hid (y.cells = q) := ⟨_, hide rfl⟩
        rw [hqy.out] at hyl hy1 hiy
        simp only [hqy.out]
        have hS2 : (Below w8.heap.size w8) (wc.setCells X 0 qy) := below_sets hXw qy 0 _ hS
        have ryX : (wc.setCells X 0 qy).rangeAt X 0 qy := World.rangeAt_setCells_same wc X 0 qy (by rw [hyl]; exact tn)
        have yaF := yaF qy
        refine hs_store (i := 8) (w' := wc.setCells X 0 qy) rfl (by kernel_rfl) (by rfl) (ex_put (cs := qy.toArray) rfl rfl rfl (by simpa [hyl] using tn) (by simpa using hiy) (all_one hy1)) rfl hS2 ?_
        obtain ⟨w9, hw9⟩ : ∃ W, wc.setCells X 0 qy = W := ⟨_, rfl⟩
        have sX9 : X < w9.heap.size := by rw [← hw9, size_sets]; exact ln
        rw [hw9] at hS2 ryX yaF ⊢
        have hS : (Below w8.heap.size w8) w9 := hS2
        refine hs_take (i := 9) (d := some 8) (v := ?_) rfl (by kernel_rfl) (by kernel_rfl) (by kernel_rfl) (by rfl) ?_ hS rfl ?_
        rotate_left
        · intro w' hw
          go_simp
          try with_reducible rfl
        simp only [Act.put, List.setIfInBounds_toArray, List.set_cons_zero, List.set_cons_succ]
        refine hs_done (by kernel_rfl) ?_
        have xa9 := xa8.below hS
        have rc9 := range_below r8c hS s8c
        have rx9 := range_below r8x hS s8x
        have B9 := B8.trans (hS.mono B8.size)
        have s9c := Nat.lt_of_lt_of_le s8c hS.size
        have s9x := Nat.lt_of_lt_of_le s8x hS.size
        have oa9 := oa8.below hS
        have ro9 := range_below r8o hS s8o
        have s9o := Nat.lt_of_lt_of_le s8o hS.size
        have cSy := fun w0 h1 h2 => cSy0 y w0 yo h1 h2
        simp only [hqy.out, show y.B x = true from Stt.B_sp.2 ys] at cSy
        clear cSy0 hS2 hS hXw tn ln r8c r8x r8o xa8 oa8 B8 s8c s8x s8o yl ya cB cP hw9
        go_upto_region 4 with fail
        try simp only [Act.put]
        refine pl_begin ?_
        refine pl_take (d := some 28) (v := ?_) (by rfl) ?_ rfl ?_
        rotate_left
        · go_simp
          try with_reducible rfl
        simp only [Act.put, List.setIfInBounds_toArray, List.set_cons_zero, List.set_cons_succ]
        refine pl_take (d := some 29) (v := .bool false) (by rfl) (by go_simp) rfl ?_
        simp only [Act.put, List.setIfInBounds_toArray, List.set_cons_zero, List.set_cons_succ]
        refine pl_take (d := some 30) (v := ?_) (by rfl) ?_ rfl ?_
        rotate_left
        · go_simp
          try with_reducible rfl
        simp only [Act.put, List.setIfInBounds_toArray, List.set_cons_zero, List.set_cons_succ]
        refine pl_take (d := some 31) (v := .agg qy.toArray) (by rfl) (ex_mid rfl rfl ryX Try.underlying30 rfl hiy) rfl ?_
        simp only [Act.put, List.setIfInBounds_toArray, List.set_cons_zero, List.set_cons_succ]
        refine pl_take (d := some 32) (v := .agg qx.toArray) (by rfl) (ex_mid rfl rfl rx9 Try.underlying30 rfl hix) rfl ?_
        simp only [Act.put, List.setIfInBounds_toArray, List.set_cons_zero, List.set_cons_succ]
        refine pl_call (d := some 33) (by rfl) (by go_simp; first | done | exact ⟨rfl, rfl⟩ | with_reducible rfl) rfl ?_
        refine (cSy w9 yaF xa9).mono ?_
        rintro _ v1 ⟨rfl, hb1⟩
        refine ⟨_, rfl, ?_⟩
        simp only [Act.put, List.setIfInBounds_toArray, List.set_cons_zero, List.set_cons_succ]
        refine pl_take (d := some 34) (v := .bool false) (by rfl) (by go_simp) rfl ?_
        simp only [Act.put, List.setIfInBounds_toArray, List.set_cons_zero, List.set_cons_succ]
        refine pl_take (d := some 35) (v := ?_) (by rfl) ?_ rfl ?_
        rotate_left
        · go_simp
          try with_reducible rfl
        simp only [Act.put, List.setIfInBounds_toArray, List.set_cons_zero, List.set_cons_succ]
        refine pl_nil ?_
        have BU := B9.trans (hb1.mono B9.size)
        have uc := range_below rc9 hb1 s9c
        have ux := range_below rx9 hb1 s9x
        have uo := range_below ro9 hb1 s9o
        have uax := xa9.below hb1
        have uao := oa9.below hb1
        have usc := Nat.lt_of_lt_of_le s9c hb1.size
        have usx := Nat.lt_of_lt_of_le s9x hb1.size
        have uso := Nat.lt_of_lt_of_le s9o hb1.size
        clear B9 rc9 rx9 ro9 xa9 oa9 s9c s9x s9o hb1 ryX yaF sX9 cSy
        go_upto_region 6 with fail
        have vc : v1.drew.rangeAt C 0 u := (World.rangeAt_drew _ _ _ _).2 uc
        have vx : v1.drew.rangeAt D 0 qx := (World.rangeAt_drew _ _ _ _).2 ux
        have vo : v1.drew.rangeAt E 0 qo := (World.rangeAt_drew _ _ _ _).2 uo
        have vax : x.At v1.drew := uax.below ((Below.refl _ _).drew)
        have vao : o.At v1.drew := uao.below ((Below.refl _ _).drew)
        have BV : Below w.heap.size w v1.drew := BU.drew
        have vsc : C < v1.drew.heap.size := usc
        have vsx : D < v1.drew.heap.size := usx
        have vso : E < v1.drew.heap.size := uso
        refine hs_begin (S := (Below v1.drew.heap.size v1.drew)) 19 rfl (by kernel_rfl) ?_
        obtain ⟨v8, hv8⟩ : ∃ W, v1.drew = W := ⟨_, rfl⟩
        rw [hv8] at vc vx vo vax vao BV vsc vsx vso ⊢
        clear hv8 uc ux uo uax uao BU usc usx uso
        have hS : (Below v8.heap.size v8) v8 := Below.refl _ _
        have cGo := fun w0 (hb : Below v8.heap.size v8 w0) => cGo0 w0 (vao.below hb)
        have cBs := fun w0 (hb : Below v8.heap.size v8 w0) => cB2 w0 (vax.below hb)
        have cBo := fun w0 (hb : Below v8.heap.size v8 w0) => cBo1 w0 (vao.below hb)
        have cSo := fun w0 (hb : Below v8.heap.size v8 w0) => cSo0 w0 (vax.below hb) (vao.below hb)
        clear cGo0 cB2 cBo1 cSo0
        refine hs_take (i := 0) (d := some 36) (v := .agg u.toArray) rfl (by kernel_rfl) (by kernel_rfl) (by kernel_rfl) (by rfl) (fun w' hw => ex_mid rfl rfl (range_below vc hw vsc) Try.underlying23 rfl iu) hS rfl ?_
        simp only [Act.put, List.setIfInBounds_toArray, List.set_cons_zero, List.set_cons_succ]
        refine hs_take (i := 1) (d := some 37) (v := .agg qo.toArray) rfl (by kernel_rfl) (by kernel_rfl) (by kernel_rfl) (by rfl) (fun w' hw => ex_mid rfl rfl (range_below vo hw vso) Try.underlying30 rfl hio) hS rfl ?_
        simp only [Act.put, List.setIfInBounds_toArray, List.set_cons_zero, List.set_cons_succ]
        refine hs_call (i := 2) (d := some 38) rfl (by kernel_rfl) (by rfl) (by go_simp; first | done | exact ⟨rfl, rfl⟩ | with_reducible rfl) rfl ?_
        refine (cGo v8 hS).mono ?_
        rintro _ u1 ⟨rfl, hu1⟩
        have hS : (Below v8.heap.size v8) u1 := hS.trans (hu1.mono hS.size)
        refine ⟨_, rfl, hS, ?_⟩
        simp only [Act.put, List.setIfInBounds_toArray, List.set_cons_zero, List.set_cons_succ]
        cases go
        · refine hs_take (i := 3) (d := some 39) (v := .bool true) rfl (by kernel_rfl) (by kernel_rfl) (by kernel_rfl) (by rfl) (fun w' hw => by go_simp) hS rfl ?_
          simp only [Act.put, List.setIfInBounds_toArray, List.set_cons_zero, List.set_cons_succ]
          refine hs_take (i := 4) (d := some 40) (v := ?_) rfl (by kernel_rfl) (by kernel_rfl) (by kernel_rfl) (by rfl) ?_ hS rfl ?_
          rotate_left
          · intro w' hw
            go_simp
            try with_reducible rfl
          simp only [Act.put, List.setIfInBounds_toArray, List.set_cons_zero, List.set_cons_succ]
          refine hs_skip (i := 5) (d := some 41) rfl (by kernel_rfl) (by kernel_rfl) (by kernel_rfl) (by rfl) hS rfl ?_
          simp only [Act.put, List.setIfInBounds_toArray, List.set_cons_zero, List.set_cons_succ]
          refine hs_skip (i := 6) (d := some 42) rfl (by kernel_rfl) (by kernel_rfl) (by kernel_rfl) (by rfl) hS rfl ?_
          simp only [Act.put, List.setIfInBounds_toArray, List.set_cons_zero, List.set_cons_succ]
          refine hs_skip (i := 7) (d := some 43) rfl (by kernel_rfl) (by kernel_rfl) (by kernel_rfl) (by rfl) hS rfl ?_
          simp only [Act.put, List.setIfInBounds_toArray, List.set_cons_zero, List.set_cons_succ]
          refine hs_skip (i := 8) (d := some 44) rfl (by kernel_rfl) (by kernel_rfl) (by kernel_rfl) (by rfl) hS rfl ?_
          simp only [Act.put, List.setIfInBounds_toArray, List.set_cons_zero, List.set_cons_succ]
          refine hs_skip (i := 9) (d := some 45) rfl (by kernel_rfl) (by kernel_rfl) (by kernel_rfl) (by rfl) hS rfl ?_
          simp only [Act.put, List.setIfInBounds_toArray, List.set_cons_zero, List.set_cons_succ]
          refine hs_skip (i := 10) (d := some 46) rfl (by kernel_rfl) (by kernel_rfl) (by kernel_rfl) (by rfl) hS rfl ?_
          simp only [Act.put, List.setIfInBounds_toArray, List.set_cons_zero, List.set_cons_succ]
          refine hs_skip (i := 11) (d := some 47) rfl (by kernel_rfl) (by kernel_rfl) (by kernel_rfl) (by rfl) hS rfl ?_
          simp only [Act.put, List.setIfInBounds_toArray, List.set_cons_zero, List.set_cons_succ]
          refine hs_skip (i := 12) (d := some 48) rfl (by kernel_rfl) (by kernel_rfl) (by kernel_rfl) (by rfl) hS rfl ?_
          simp only [Act.put, List.setIfInBounds_toArray, List.set_cons_zero, List.set_cons_succ]
          refine hs_skip (i := 13) (d := some 49) rfl (by kernel_rfl) (by kernel_rfl) (by kernel_rfl) (by rfl) hS rfl ?_
          simp only [Act.put, List.setIfInBounds_toArray, List.set_cons_zero, List.set_cons_succ]
          refine hs_take (i := 14) (d := some 50) (v := ?_) rfl (by kernel_rfl) (by kernel_rfl) (by kernel_rfl) (by rfl) ?_ hS rfl ?_
          rotate_left
          · intro w' hw
            go_simp
            try with_reducible rfl
          simp only [Act.put, List.setIfInBounds_toArray, List.set_cons_zero, List.set_cons_succ]
          refine hs_take (i := 15) (d := some 51) (v := ?_) rfl (by kernel_rfl) (by kernel_rfl) (by kernel_rfl) (by rfl) ?_ hS rfl ?_
          rotate_left
          · intro w' hw
            go_simp
            try with_reducible rfl
          simp only [Act.put, List.setIfInBounds_toArray, List.set_cons_zero, List.set_cons_succ]
          refine hs_call (i := 16) (d := some 52) rfl (by kernel_rfl) (by rfl) (by go_simp; first | done | exact ⟨rfl, rfl⟩ | with_reducible rfl) rfl ?_
          refine (lives22_any u1).mono ?_
          rintro _ u2 ⟨rfl, hu2⟩
          have hS : (Below v8.heap.size v8) u2 := hS.trans (hu2.mono hS.size)
          refine ⟨_, rfl, hS, ?_⟩
          simp only [Act.put, List.setIfInBounds_toArray, List.set_cons_zero, List.set_cons_succ]
          refine hs_take (i := 17) (d := some 53) (v := ?_) rfl (by kernel_rfl) (by kernel_rfl) (by kernel_rfl) (by rfl) ?_ hS rfl ?_
          rotate_left
          · intro w' hw
            go_simp
            try with_reducible rfl
          simp only [Act.put, List.setIfInBounds_toArray, List.set_cons_zero, List.set_cons_succ]
          refine hs_take (i := 18) (d := some 6) (v := ?_) rfl (by kernel_rfl) (by kernel_rfl) (by kernel_rfl) (by rfl) ?_ hS rfl ?_
          rotate_left
          · intro w' hw
            go_simp
            try with_reducible rfl
          simp only [Act.put, List.setIfInBounds_toArray, List.set_cons_zero, List.set_cons_succ]
          refine hs_done (by kernel_rfl) ?_
          have HB := hide (BV.trans (hS.mono BV.size))
          go_wp2_with fail
          go_ret
          exact ⟨rfl, HB.out⟩
        · have hfo : o.sp.fit := HFO.out hgo.out
          have hbs := HBs.out HZ.out.1 hfo
          by_cases he : x.sp = o.sp
          · have hBo : x.B o = true := Stt.B_sp.2 he
            have hee : b1 = b0 := by rw [← hb0.out, ← hb1'.out, Stt.bytes_sp, Stt.bytes_sp, he]
            subst hee
            simp only [hBo] at cSo
            clear he hbs hfo hBo HBs HFO
            refine hs_take (i := 3) (d := some 39) (v := .bool false) rfl (by kernel_rfl) (by kernel_rfl) (by kernel_rfl) (by rfl) (fun w' hw => by go_simp) hS rfl ?_
            simp only [Act.put, List.setIfInBounds_toArray, List.set_cons_zero, List.set_cons_succ]
            refine hs_take (i := 4) (d := some 40) (v := ?_) rfl (by kernel_rfl) (by kernel_rfl) (by kernel_rfl) (by rfl) ?_ hS rfl ?_
            rotate_left
            · intro w' hw
              go_simp
              try with_reducible rfl
            simp only [Act.put, List.setIfInBounds_toArray, List.set_cons_zero, List.set_cons_succ]
            refine hs_take (i := 5) (d := some 41) (v := .agg qx.toArray) rfl (by kernel_rfl) (by kernel_rfl) (by kernel_rfl) (by rfl) (fun w' hw => ex_mid rfl rfl (range_below vx hw vsx) Try.underlying30 rfl hix) hS rfl ?_
            simp only [Act.put, List.setIfInBounds_toArray, List.set_cons_zero, List.set_cons_succ]
            refine hs_take (i := 7) (d := some 43) (v := .agg qo.toArray) rfl (by kernel_rfl) (by kernel_rfl) (by kernel_rfl) (by rfl) (fun w' hw => ex_mid rfl rfl (range_below vo hw vso) Try.underlying30 rfl hio) hS rfl ?_
            simp only [Act.put, List.setIfInBounds_toArray, List.set_cons_zero, List.set_cons_succ]
            refine hs_take (i := 10) (d := some 46) (v := .agg qx.toArray) rfl (by kernel_rfl) (by kernel_rfl) (by kernel_rfl) (by rfl) (fun w' hw => ex_mid rfl rfl (range_below vx hw vsx) Try.underlying30 rfl hix) hS rfl ?_
            simp only [Act.put, List.setIfInBounds_toArray, List.set_cons_zero, List.set_cons_succ]
            refine hs_take (i := 11) (d := some 47) (v := .agg qo.toArray) rfl (by kernel_rfl) (by kernel_rfl) (by kernel_rfl) (by rfl) (fun w' hw => ex_mid rfl rfl (range_below vo hw vso) Try.underlying30 rfl hio) hS rfl ?_
            simp only [Act.put, List.setIfInBounds_toArray, List.set_cons_zero, List.set_cons_succ]
            refine hs_call (i := 6) (d := some 42) rfl (by kernel_rfl) (by rfl) (by go_simp; first | done | exact ⟨rfl, rfl⟩ | with_reducible rfl) rfl ?_
            refine (cBs u1 hS).mono ?_
            rintro _ u2 ⟨rfl, hu2⟩
            have hS : (Below v8.heap.size v8) u2 := hS.trans (hu2.mono hS.size)
            refine ⟨_, rfl, hS, ?_⟩
            simp only [Act.put, List.setIfInBounds_toArray, List.set_cons_zero, List.set_cons_succ]
            refine hs_call (i := 8) (d := some 44) rfl (by kernel_rfl) (by rfl) (by go_simp; first | done | exact ⟨rfl, rfl⟩ | with_reducible rfl) rfl ?_
            refine (cBo u2 hS).mono ?_
            rintro _ u3 ⟨rfl, hu3⟩
            have hS : (Below v8.heap.size v8) u3 := hS.trans (hu3.mono hS.size)
            refine ⟨_, rfl, hS, ?_⟩
            simp only [Act.put, List.setIfInBounds_toArray, List.set_cons_zero, List.set_cons_succ]
            refine hs_take (i := 9) (d := some 45) (v := .bool true) rfl (by kernel_rfl) (by kernel_rfl) (by kernel_rfl) (by rfl) (fun w' hw => by go_simp <;> (try simp [*])) hS rfl ?_
            simp only [Act.put, List.setIfInBounds_toArray, List.set_cons_zero, List.set_cons_succ]
            refine hs_call (i := 12) (d := some 48) rfl (by kernel_rfl) (by rfl) (by go_simp; first | done | exact ⟨rfl, rfl⟩ | with_reducible rfl) rfl ?_
            refine (cSo u3 hS).mono ?_
            rintro _ u4 ⟨rfl, hu4⟩
            have hS : (Below v8.heap.size v8) u4 := hS.trans (hu4.mono hS.size)
            refine ⟨_, rfl, hS, ?_⟩
            simp only [Act.put, List.setIfInBounds_toArray, List.set_cons_zero, List.set_cons_succ]
            refine hs_take (i := 13) (d := some 49) (v := .bool true) rfl (by kernel_rfl) (by kernel_rfl) (by kernel_rfl) (by rfl) (fun w' hw => by go_simp) hS rfl ?_
            simp only [Act.put, List.setIfInBounds_toArray, List.set_cons_zero, List.set_cons_succ]
            refine hs_take (i := 14) (d := some 50) (v := ?_) rfl (by kernel_rfl) (by kernel_rfl) (by kernel_rfl) (by rfl) ?_ hS rfl ?_
            rotate_left
            · intro w' hw
              go_simp
              try with_reducible rfl
            simp only [Act.put, List.setIfInBounds_toArray, List.set_cons_zero, List.set_cons_succ]
            refine hs_take (i := 15) (d := some 51) (v := ?_) rfl (by kernel_rfl) (by kernel_rfl) (by kernel_rfl) (by rfl) ?_ hS rfl ?_
            rotate_left
            · intro w' hw
              go_simp
              try with_reducible rfl
            simp only [Act.put, List.setIfInBounds_toArray, List.set_cons_zero, List.set_cons_succ]
            refine hs_call (i := 16) (d := some 52) rfl (by kernel_rfl) (by rfl) (by go_simp; first | done | exact ⟨rfl, rfl⟩ | with_reducible rfl) rfl ?_
            refine (lives22_any u4).mono ?_
            rintro _ u5 ⟨rfl, hu5⟩
            have hS : (Below v8.heap.size v8) u5 := hS.trans (hu5.mono hS.size)
            refine ⟨_, rfl, hS, ?_⟩
            simp only [Act.put, List.setIfInBounds_toArray, List.set_cons_zero, List.set_cons_succ]
            refine hs_take (i := 17) (d := some 53) (v := ?_) rfl (by kernel_rfl) (by kernel_rfl) (by kernel_rfl) (by rfl) ?_ hS rfl ?_
            rotate_left
            · intro w' hw
              go_simp
              try with_reducible rfl
            simp only [Act.put, List.setIfInBounds_toArray, List.set_cons_zero, List.set_cons_succ]
            refine hs_take (i := 18) (d := some 6) (v := ?_) rfl (by kernel_rfl) (by kernel_rfl) (by kernel_rfl) (by rfl) ?_ hS rfl ?_
            rotate_left
            · intro w' hw
              go_simp
              try with_reducible rfl
            simp only [Act.put, List.setIfInBounds_toArray, List.set_cons_zero, List.set_cons_succ]
            refine hs_done (by kernel_rfl) ?_
            have HB := hide (BV.trans (hS.mono BV.size))
            go_wp2_with fail
            go_ret
            exact ⟨rfl, HB.out⟩
          · have hBo : x.B o = false := by
              cases q : x.B o
              · rfl
              · exact absurd (Stt.B_sp.1 q) he
            have hne : ¬ b0.toList = b1.toList := fun q => he (hbs.1 (by
              rw [← hb0.out, ← hb1'.out] at q
              rw [← Stt.bytes_sp, ← Stt.bytes_sp]
              exact strOf_inj HZ.out.2.1 HZ.out.2.2 q))
            simp only [hBo] at cSo
            clear he hbs hfo hBo HBs HFO
            refine hs_take (i := 3) (d := some 39) (v := .bool false) rfl (by kernel_rfl) (by kernel_rfl) (by kernel_rfl) (by rfl) (fun w' hw => by go_simp) hS rfl ?_
            simp only [Act.put, List.setIfInBounds_toArray, List.set_cons_zero, List.set_cons_succ]
            refine hs_take (i := 4) (d := some 40) (v := ?_) rfl (by kernel_rfl) (by kernel_rfl) (by kernel_rfl) (by rfl) ?_ hS rfl ?_
            rotate_left
            · intro w' hw
              go_simp
              try with_reducible rfl
            simp only [Act.put, List.setIfInBounds_toArray, List.set_cons_zero, List.set_cons_succ]
            refine hs_take (i := 5) (d := some 41) (v := .agg qx.toArray) rfl (by kernel_rfl) (by kernel_rfl) (by kernel_rfl) (by rfl) (fun w' hw => ex_mid rfl rfl (range_below vx hw vsx) Try.underlying30 rfl hix) hS rfl ?_
            simp only [Act.put, List.setIfInBounds_toArray, List.set_cons_zero, List.set_cons_succ]
            refine hs_take (i := 7) (d := some 43) (v := .agg qo.toArray) rfl (by kernel_rfl) (by kernel_rfl) (by kernel_rfl) (by rfl) (fun w' hw => ex_mid rfl rfl (range_below vo hw vso) Try.underlying30 rfl hio) hS rfl ?_
            simp only [Act.put, List.setIfInBounds_toArray, List.set_cons_zero, List.set_cons_succ]
            refine hs_take (i := 10) (d := some 46) (v := .agg qx.toArray) rfl (by kernel_rfl) (by kernel_rfl) (by kernel_rfl) (by rfl) (fun w' hw => ex_mid rfl rfl (range_below vx hw vsx) Try.underlying30 rfl hix) hS rfl ?_
            simp only [Act.put, List.setIfInBounds_toArray, List.set_cons_zero, List.set_cons_succ]
            refine hs_take (i := 11) (d := some 47) (v := .agg qo.toArray) rfl (by kernel_rfl) (by kernel_rfl) (by kernel_rfl) (by rfl) (fun w' hw => ex_mid rfl rfl (range_below vo hw vso) Try.underlying30 rfl hio) hS rfl ?_
            simp only [Act.put, List.setIfInBounds_toArray, List.set_cons_zero, List.set_cons_succ]
            refine hs_call (i := 6) (d := some 42) rfl (by kernel_rfl) (by rfl) (by go_simp; first | done | exact ⟨rfl, rfl⟩ | with_reducible rfl) rfl ?_
            refine (cBs u1 hS).mono ?_
            rintro _ u2 ⟨rfl, hu2⟩
            have hS : (Below v8.heap.size v8) u2 := hS.trans (hu2.mono hS.size)
            refine ⟨_, rfl, hS, ?_⟩
            simp only [Act.put, List.setIfInBounds_toArray, List.set_cons_zero, List.set_cons_succ]
            refine hs_call (i := 8) (d := some 44) rfl (by kernel_rfl) (by rfl) (by go_simp; first | done | exact ⟨rfl, rfl⟩ | with_reducible rfl) rfl ?_
            refine (cBo u2 hS).mono ?_
            rintro _ u3 ⟨rfl, hu3⟩
            have hS : (Below v8.heap.size v8) u3 := hS.trans (hu3.mono hS.size)
            refine ⟨_, rfl, hS, ?_⟩
            simp only [Act.put, List.setIfInBounds_toArray, List.set_cons_zero, List.set_cons_succ]
            refine hs_take (i := 9) (d := some 45) (v := .bool false) rfl (by kernel_rfl) (by kernel_rfl) (by kernel_rfl) (by rfl) (fun w' hw => by go_simp <;> (try simp [*])) hS rfl ?_
            simp only [Act.put, List.setIfInBounds_toArray, List.set_cons_zero, List.set_cons_succ]
            refine hs_call (i := 12) (d := some 48) rfl (by kernel_rfl) (by rfl) (by go_simp; first | done | exact ⟨rfl, rfl⟩ | with_reducible rfl) rfl ?_
            refine (cSo u3 hS).mono ?_
            rintro _ u4 ⟨rfl, hu4⟩
            have hS : (Below v8.heap.size v8) u4 := hS.trans (hu4.mono hS.size)
            refine ⟨_, rfl, hS, ?_⟩
            simp only [Act.put, List.setIfInBounds_toArray, List.set_cons_zero, List.set_cons_succ]
            refine hs_take (i := 13) (d := some 49) (v := .bool true) rfl (by kernel_rfl) (by kernel_rfl) (by kernel_rfl) (by rfl) (fun w' hw => by go_simp) hS rfl ?_
            simp only [Act.put, List.setIfInBounds_toArray, List.set_cons_zero, List.set_cons_succ]
            refine hs_take (i := 14) (d := some 50) (v := ?_) rfl (by kernel_rfl) (by kernel_rfl) (by kernel_rfl) (by rfl) ?_ hS rfl ?_
            rotate_left
            · intro w' hw
              go_simp
              try with_reducible rfl
            simp only [Act.put, List.setIfInBounds_toArray, List.set_cons_zero, List.set_cons_succ]
            refine hs_take (i := 15) (d := some 51) (v := ?_) rfl (by kernel_rfl) (by kernel_rfl) (by kernel_rfl) (by rfl) ?_ hS rfl ?_
            rotate_left
            · intro w' hw
              go_simp
              try with_reducible rfl
            simp only [Act.put, List.setIfInBounds_toArray, List.set_cons_zero, List.set_cons_succ]
            refine hs_call (i := 16) (d := some 52) rfl (by kernel_rfl) (by rfl) (by go_simp; first | done | exact ⟨rfl, rfl⟩ | with_reducible rfl) rfl ?_
            refine (lives22_any u4).mono ?_
            rintro _ u5 ⟨rfl, hu5⟩
            have hS : (Below v8.heap.size v8) u5 := hS.trans (hu5.mono hS.size)
            refine ⟨_, rfl, hS, ?_⟩
            simp only [Act.put, List.setIfInBounds_toArray, List.set_cons_zero, List.set_cons_succ]
            refine hs_take (i := 17) (d := some 53) (v := ?_) rfl (by kernel_rfl) (by kernel_rfl) (by kernel_rfl) (by rfl) ?_ hS rfl ?_
            rotate_left
            · intro w' hw
              go_simp
              try with_reducible rfl
            simp only [Act.put, List.setIfInBounds_toArray, List.set_cons_zero, List.set_cons_succ]
            refine hs_take (i := 18) (d := some 6) (v := ?_) rfl (by kernel_rfl) (by kernel_rfl) (by kernel_rfl) (by rfl) ?_ hS rfl ?_
            rotate_left
            · intro w' hw
              go_simp
              try with_reducible rfl
            simp only [Act.put, List.setIfInBounds_toArray, List.set_cons_zero, List.set_cons_succ]
            refine hs_done (by kernel_rfl) ?_
            have HB := hide (BV.trans (hS.mono BV.size))
            go_wp2_with fail
            go_ret
            exact ⟨rfl, HB.out⟩
end Go.Proofs.Ytaaifcpanflejaa
