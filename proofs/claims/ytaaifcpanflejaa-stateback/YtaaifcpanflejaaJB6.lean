/- the example -/
import Derived.Test.YtaaifcpanflejaaJB5
namespace Go.Proofs.Ytaaifcpanflejaa
open Go.RowKit
open Sha Tal
set_option linter.unusedVariables false
set_option linter.unusedSimpArgs false
theorem strL_strOf {zs : List Int} (h : ∀ z ∈ zs, 0 ≤ z ∧ z < 256) : strL (strOf zs) = zs := strOf_inj (strL_byte _) h (by rw [strOf_strL])
theorem flat_byte {α : Type} {f : α → List Int} {xs : List α} (h : ∀ x ∈ xs, ∀ z ∈ f x, 0 ≤ z ∧ z < 256) : ∀ z ∈ xs.flatMap f, 0 ≤ z ∧ z < 256 := fun z hz => by
  obtain ⟨x, hx, hz⟩ := List.mem_flatMap.1 hz
  exact h x hx z hz
theorem wd_byte {x : Wd} (h : x.ok) : ∀ z ∈ x.bytes, 0 ≤ z ∧ z < 256 := fun z hz => by
  unfold Wd.bytes Wn.winL at hz
  have hm := h.ml
  have hh := h.hi
  rcases List.mem_append.1 hz with hz | hz
  · rcases List.mem_append.1 hz with hz | hz
    · exact putL_byte _ (by omega) z hz
    · exact putL_byte _ (by omega) z hz
  · exact putL_byte _ (by omega) z hz
theorem Stt.byte {s : Stt} (h : s.ok) (hw : ∀ y ∈ s.ws.xs, y.ok) (hp : ∀ z ∈ s.ps.xs, PnOk z) (l1 : s.ws.xs.length ≤ 100) (l2 : s.ps.xs.length ≤ 200) : ∀ z ∈ s.bytes, 0 ≤ z ∧ z < 256 := fun z hz => by
  rw [Stt.bytes_sp] at hz
  unfold Sp.bytes Stt.sp at hz
  simp only [List.mem_append] at hz
  have h1 := h.e1
  have h2 := h.n1
  have h3 := h.c1
  rcases hz with hz | hz | hz | hz | hz | hz | hz | hz
  · exact putL_byte _ (by omega) z hz
  · exact putL_byte _ (by omega) z hz
  · exact putL_byte _ (by omega) z hz
  · exact h.db z hz
  · exact putL_byte _ (by omega) z hz
  · exact flat_byte (fun y hy => wd_byte (hw y hy)) z hz
  · exact putL_byte _ (by omega) z hz
  · exact flat_byte (fun y hy z hz => putL_byte _ (by have := (hp y hy).hi; omega) z hz) z hz
theorem parse_back {c : Ld.Cfg} {p : Sp} (h : p.fit) (hg : p.good c = true) : parseS c p.bytes = (p, 0) := by
  unfold parseS
  rw [read_back p h]
  simp only
  rw [if_neg (by unfold doneE; decide), if_pos hg]
theorem sp0_fit : sp0.fit := ⟨by decide, by decide, by decide, by decide, by decide, by decide, Stt.zero_ok.dl, by decide, by decide, fun x hx => by
  simp only [sp0, List.mem_cons, List.not_mem_nil, or_false, or_self] at hx
  subst hx
  exact ⟨⟨by simp, by simp, by simp⟩, by decide⟩, fun z hz => by
  simp only [sp0, List.mem_cons, List.not_mem_nil, or_false, or_self] at hz
  omega⟩
theorem sp0_good : sp0.good cfg0 = true := by decide
def b0S : ByteArray := strOf sp0.bytes
theorem b0_size : b0S.size ≤ 40000 := by decide +kernel
theorem b0_back : parseS cfg0 (strL b0S) = (sp0, 0) := by
  unfold b0S
  rw [strL_strOf (by decide +kernel)]
  exact parse_back sp0_fit sp0_good
theorem ex_strsl {o : Oper} {a : Act} {w : World} {x : Operand} (ho : o.op = .slice 9 x none (some (.const (.int .i64 5))) none) (hx : a.eval x = .string b0S) : (execOp a.eval o).run Try.prog w = .ok (.value (.string ⟨#[1, 1, 1, 1, 0]⟩)) w := by
  unfold execOp
  simp only [ho, hx]
  kernel_rfl
set_option maxRecDepth 100000 in
set_option maxHeartbeats 4000000 in
theorem lives22_any (w : World) : Calls Try.prog 5 #[] w fun e w' => e = .returned (.bool true) ∧ Below w.heap.size w w' := by
  obtain ⟨zc, hzl, hzr⟩ : ∃ z : List Value, z.length = 37 ∧ (∀ w : World, (zeroValue 30).run Try.prog w = .ok (.agg z.toArray) w) := ⟨_, Stt.len Stt.zero_ok, zeroS0⟩
  have hsl := fun {o : Oper} {a : Act} {x : Operand} (w0 : World) (ho : o.op = .slice 9 x none (some (.const (.int .i64 5))) none) (hx : a.eval x = .string b0S) => ex_strsl (w := w0) ho hx
  have iu := iszCf cfg0
  have cp := fun w0 => plain_val w0
  have cf := fun w0 => first_val w0
  have cP := fun w0 => sparse_any cfg0 b0S w0 b0_size
  unfold ParsA at cP
  rw [b0_back] at cP
  simp only at cP
  have cg0 : ∀ (x : Stt) w0 (h0 : x.ok) (h1 : x.At w0), Calls Try.prog 10 #[.agg (cfgL cfg0).toArray, .agg x.cells.toArray] w0 fun e w' => e = .returned (.bool (x.good cfg0)) ∧ Below w0.heap.size w0 w' := fun x w0 h0 h1 => sgood_any cfg0 x w0 h0 h1
  have hlu : (cfgL cfg0).length = 10 := rfl
  have hu1 : ∀ v ∈ cfgL cfg0, v.oneCell' = true := by decide
  obtain ⟨zu, hzul, hzur⟩ : ∃ z : List Value, z.length = 10 ∧ (∀ w : World, (zeroValue 23).run Try.prog w = .ok (.agg z.toArray) w) := ⟨_, rfl, zeroCf⟩
  generalize cfgL cfg0 = u at *
  go_enter Try.func5, Try.ntmps5
  go_upto_region 1 with fail
  try simp only [Act.put]
  refine pl_begin ?_
  refine pl_call (d := some 5) (by rfl) (by go_simp; first | done | exact ⟨rfl, rfl⟩ | with_reducible rfl) rfl ?_
  refine (cp w).mono ?_
  rintro _ w1 ⟨rfl, hb1⟩
  refine ⟨_, rfl, ?_⟩
  simp only [Act.put, List.setIfInBounds_toArray, List.set_cons_zero, List.set_cons_succ]
  refine pl_run (d := some 1) (v := .pointer (some ⟨w1.heap.size, 0, none⟩)) (w' := w1.alloc (.cells zu.toArray 23)) (by rfl) (ex_alloc rfl (hzur _)) rfl ?_
  simp only [Act.put, List.setIfInBounds_toArray, List.set_cons_zero, List.set_cons_succ]
  refine pl_store (w' := (w1.alloc (.cells zu.toArray 23)).setCells w1.heap.size 0 u) (by rfl) (ex_put (cs := u.toArray) rfl rfl rfl (there_newN _ _ _ (by simp [hzul, hlu])) (by simpa using iu) (all_one hu1)) rfl ?_
  refine pl_nil ?_
  obtain ⟨r2, hF2, hF3, -⟩ := fresh_store w1 zu.toArray 23 u (by simp [hzul, hlu])
  have B2 := hb1.trans (hF2.mono hb1.size)
  obtain ⟨C, hC⟩ : ∃ X, w1.heap.size = X := ⟨_, rfl⟩
  rw [hC] at r2 hF3
  simp only [hC]
  obtain ⟨w2, hw2⟩ : ∃ W, (w1.alloc (.cells zu.toArray 23)).setCells C 0 u = W := ⟨_, rfl⟩
  simp only [hC, hw2] at r2 hF3 B2 ⊢
  have s2 : C < w2.heap.size := by omega
  clear hF2 hb1 hzur hzul hw2 hC hF3 cp
  go_upto_region 2 with fail
  try simp only [Act.put]
  refine pl_begin ?_
  refine pl_take (d := some 6) (v := .agg u.toArray) (by rfl) (ex_mid rfl rfl r2 Try.underlying23 rfl iu) rfl ?_
  simp only [Act.put, List.setIfInBounds_toArray, List.set_cons_zero, List.set_cons_succ]
  refine pl_call (d := some 7) (by rfl) (by go_simp; first | done | exact ⟨rfl, rfl⟩ | with_reducible rfl) rfl ?_
  refine (cf w2).mono ?_
  rintro _ w3 ⟨x, rfl, xs, xo, xa, hb3⟩
  refine ⟨_, rfl, ?_⟩
  simp only [Act.put, List.setIfInBounds_toArray, List.set_cons_zero, List.set_cons_succ]
  have hxl : x.cells.length = 37 := Stt.len xo
  have hx1 := Stt.one x
  have hix : (Try.prog.info? 30).map (·.size) = some x.cells.length := by rw [hxl]; exact iszSt
  have kx1 : x.cells[1]? = some (.int .i64 1) := by
    have e : x.n = 1 := congrArg Sp.n xs
    rw [← e]
    rfl
  have cG : ∀ w0 (h1 : x.At w0), Calls Try.prog 10 #[.agg u.toArray, .agg x.cells.toArray] w0 fun e w' => e = .returned (.bool true) ∧ Below w0.heap.size w0 w' := fun w0 h1 => by
    have := cg0 x w0 xo h1
    rwa [Stt.good_sp, xs, sp0_good] at this
  have xll : x.ws.xs.length ≤ 100 ∧ x.ps.xs.length ≤ 200 := by
    have e1 : x.ws.xs = sp0.ws := congrArg Sp.ws xs
    have e2 : x.ps.xs = sp0.ps := congrArg Sp.ps xs
    rw [e1, e2]
    decide
  have cB2 : ∀ w0 (h1 : x.At w0), Calls Try.prog 11 #[.agg x.cells.toArray] w0 fun e w' => e = .returned (.string b0S) ∧ Below w0.heap.size w0 w' := fun w0 h1 => by
    have := sbytes_any x w0 xo h1 xll.1 xll.2
    rwa [Stt.bytes_sp, xs] at this
  have cS0 : ∀ (y : Stt) w0 (h0 : y.ok) (hy : y.sp = sp0) (h1 : x.At w0) (h2 : y.At w0), Calls Try.prog 14 #[.agg x.cells.toArray, .agg y.cells.toArray] w0 fun e w' => e = .returned (.bool true) ∧ Below w0.heap.size w0 w' := fun y w0 h0 hy h1 h2 => by
    have := ssame_any x y w0 xo h0 h1 h2
    rwa [show x.B y = true from Stt.B_sp.2 (by rw [xs, hy])] at this
  refine pl_run (d := some 2) (v := .pointer (some ⟨w3.heap.size, 0, none⟩)) (w' := w3.alloc (.cells zc.toArray 30)) (by rfl) (ex_alloc rfl (hzr _)) rfl ?_
  simp only [Act.put, List.setIfInBounds_toArray, List.set_cons_zero, List.set_cons_succ]
  refine pl_store (w' := (w3.alloc (.cells zc.toArray 30)).setCells w3.heap.size 0 x.cells) (by rfl) (ex_put (cs := x.cells.toArray) rfl rfl rfl (there_newN _ _ _ (by simp [hzl, hxl])) (by simpa using hix) (all_one hx1)) rfl ?_
  refine pl_nil ?_
  obtain ⟨r4, hF2, hF3, -⟩ := fresh_store w3 zc.toArray 30 x.cells (by simp [hzl, hxl])
  have B4 := (B2.trans (hb3.mono B2.size)).trans (hF2.mono (Nat.le_trans B2.size hb3.size))
  have rc4 := range_below (range_below r2 hb3 s2) hF2 (Nat.lt_of_lt_of_le s2 hb3.size)
  have xa4 := xa.below hF2
  have s4 := Nat.lt_of_lt_of_le s2 (Nat.le_trans hb3.size hF2.size)
  obtain ⟨D, hD⟩ : ∃ X, w3.heap.size = X := ⟨_, rfl⟩
  obtain ⟨qx, hqx⟩ : ∃ q, Hid (x.cells = q) := ⟨_, hide rfl⟩
  simp only [hqx.out] at *
  simp only [hD] at r4 hF3 xa4 rc4 B4 s4 ⊢
  obtain ⟨w4, hw4⟩ : ∃ W, (w3.alloc (.cells zc.toArray 30)).setCells D 0 qx = W := ⟨_, rfl⟩
  simp only [hw4] at r4 hF3 xa4 rc4 B4 s4 ⊢
  have s4x : D < w4.heap.size := by omega
  clear hF2 hF3 hw4 hD hb3 r2 B2 s2 xa cg0 cf
  go_upto_region 3 with fail
  have r8c : w4.drew.rangeAt C 0 u := (World.rangeAt_drew _ _ _ _).2 rc4
  have r8x : w4.drew.rangeAt D 0 qx := (World.rangeAt_drew _ _ _ _).2 r4
  have xa8 : x.At w4.drew := xa4.below ((Below.refl _ _).drew)
  have B8 : Below w.heap.size w w4.drew := B4.drew
  have s8c : C < w4.drew.heap.size := s4
  have s8x : D < w4.drew.heap.size := s4x
  refine hs_begin (S := (Below w4.drew.heap.size w4.drew)) 10 rfl (by kernel_rfl) ?_
  obtain ⟨w8, hw8⟩ : ∃ W, w4.drew = W := ⟨_, rfl⟩
  rw [hw8] at r8c r8x xa8 B8 s8c s8x ⊢
  clear hw8 rc4 r4 xa4 B4 s4 s4x
  have hS : (Below w8.heap.size w8) w8 := Below.refl _ _
  have cB : ∀ w0, Below w8.heap.size w8 w0 → Calls Try.prog 11 #[.agg qx.toArray] w0 fun e w' => e = .returned (.string b0S) ∧ Below w0.heap.size w0 w' := fun w0 hb => cB2 w0 (xa8.below hb)
  refine hs_take (i := 0) (d := some 9) (v := .agg u.toArray) rfl (by kernel_rfl) (by kernel_rfl) (by kernel_rfl) (by rfl) (fun w' hw => ex_mid rfl rfl (range_below r8c hw s8c) Try.underlying23 rfl iu) hS rfl ?_
  simp only [Act.put, List.setIfInBounds_toArray, List.set_cons_zero, List.set_cons_succ]
  refine hs_take (i := 1) (d := some 10) (v := .agg qx.toArray) rfl (by kernel_rfl) (by kernel_rfl) (by kernel_rfl) (by rfl) (fun w' hw => ex_mid rfl rfl (range_below r8x hw s8x) Try.underlying30 rfl hix) hS rfl ?_
  simp only [Act.put, List.setIfInBounds_toArray, List.set_cons_zero, List.set_cons_succ]
  refine hs_forkL (l := [2, 7]) (by kernel_rfl) (by simp) ?_
  intro ii hii
  simp only [List.mem_cons, List.not_mem_nil, or_false] at hii
  rcases hii with rfl | rfl
  · refine st_call (i := 2) (d := some 11) rfl (by rfl) (by go_simp; first | done | exact ⟨rfl, rfl⟩ | with_reducible rfl) rfl ?_
    refine (cB w8 hS).mono ?_
    rintro _ wa ⟨rfl, hb_wa⟩
    have hS : (Below w8.heap.size w8) wa := hS.trans (hb_wa.mono hS.size)
    refine ⟨_, rfl, hS, ?_⟩
    simp only [Act.put, List.setIfInBounds_toArray, List.set_cons_zero, List.set_cons_succ]
    refine hs_forkL (l := [3, 7]) (by kernel_rfl) (by simp) ?_
    intro ii hii
    simp only [List.mem_cons, List.not_mem_nil, or_false] at hii
    rcases hii with rfl | rfl
    · refine st_call (i := 3) (d := some 12) rfl (by rfl) (by go_simp; first | done | exact ⟨rfl, rfl⟩ | with_reducible rfl) rfl ?_
      refine (cP wa).mono ?_
      rintro _ wb ⟨y, rfl, ys, yo, ya, yl, hb_wb⟩
      have hS : (Below w8.heap.size w8) wb := hS.trans (hb_wb.mono hS.size)
      refine ⟨_, rfl, hS, ?_⟩
      simp only [Act.put, List.setIfInBounds_toArray, List.set_cons_zero, List.set_cons_succ]
      refine hs_take (i := 4) (d := some 8) (v := ?_) rfl (by kernel_rfl) (by kernel_rfl) (by kernel_rfl) (by rfl) ?_ hS rfl ?_
      rotate_left
      · intro w' hw
        go_simp
        try with_reducible rfl
      simp only [Act.put, List.setIfInBounds_toArray, List.set_cons_zero, List.set_cons_succ]
      refine hs_take (i := 5) (d := some 13) (v := ?_) rfl (by kernel_rfl) (by kernel_rfl) (by kernel_rfl) (by rfl) ?_ hS rfl ?_
      rotate_left
      · intro w' hw
        go_simp
        try with_reducible rfl
      simp only [Act.put, List.setIfInBounds_toArray, List.set_cons_zero, List.set_cons_succ]
      refine hs_take (i := 6) (d := some 14) (v := ?_) rfl (by kernel_rfl) (by kernel_rfl) (by kernel_rfl) (by rfl) ?_ hS rfl ?_
      rotate_left
      · intro w' hw
        go_simp
        try with_reducible rfl
      simp only [Act.put, List.setIfInBounds_toArray, List.set_cons_zero, List.set_cons_succ]
      obtain ⟨X, HX⟩ : ∃ x, Hid (wb.heap.size = x) := ⟨_, hide rfl⟩
      have hXw : w8.heap.size ≤ X := by have := hS.size; have := HX.out; omega
      have hb_wc : Below wb.heap.size wb (wb.alloc (.cells zc.toArray 30)) := (Below.refl _ _).alloc (Nat.le_refl _) _
      have tn : (wb.alloc (.cells zc.toArray 30)).there X 0 37 := by rw [← HX.out]; exact there_newN wb zc.toArray 30 (n := 37) (by simp [hzl])
      have ln : X < (wb.alloc (.cells zc.toArray 30)).heap.size := by rw [← HX.out]; exact (boxed_new wb zc 30).2.2
      have hS' : (Below w8.heap.size w8) (wb.alloc (.cells zc.toArray 30)) := hS.trans (hb_wc.mono hS.size)
      refine hs_run (i := 7) (d := some 3) (v := .pointer (some ⟨X, 0, none⟩)) (w' := wb.alloc (.cells zc.toArray 30)) rfl (by kernel_rfl) (by rfl) (by rw [← HX.out]; exact ex_alloc rfl (hzr _)) rfl hS' ?_
      simp only [Act.put, List.setIfInBounds_toArray, List.set_cons_zero, List.set_cons_succ]
      obtain ⟨wc, h_wc⟩ : ∃ W, wb.alloc (.cells zc.toArray 30) = W := ⟨_, rfl⟩
      rw [h_wc] at hb_wc tn ln hS' ⊢
      clear h_wc
      have hS : (Below w8.heap.size w8) wc := hS'
      clear hS'
      have yaF : ∀ q, y.At (wc.setCells X 0 q) := fun q => ya.below (below_sets (by have := HX.out; omega) q 0 _ hb_wc)
      have hyl : y.cells.length = 37 := Stt.len yo
      have hy1 := Stt.one y
      have hiy : (Try.prog.info? 30).map (·.size) = some y.cells.length := by rw [hyl]; exact iszSt
      obtain ⟨qy, hqy⟩ : ∃ q, Hid (y.cells = q) := ⟨_, hide rfl⟩
      rw [hqy.out] at hyl hy1 hiy
      simp only [hqy.out]
      have hS2 : (Below w8.heap.size w8) (wc.setCells X 0 qy) := below_sets hXw qy 0 _ hS
      have ryX : (wc.setCells X 0 qy).rangeAt X 0 qy := World.rangeAt_setCells_same wc X 0 qy (by rw [hyl]; exact tn)
      have yaF := yaF qy
      refine hs_store (i := 8) (w' := wc.setCells X 0 qy) rfl (by kernel_rfl) (by rfl) (ex_put (cs := qy.toArray) rfl rfl rfl (by simpa [hyl] using tn) (by simpa using hiy) (all_one hy1)) rfl hS2 ?_
      obtain ⟨w9, hw9⟩ : ∃ W, wc.setCells X 0 qy = W := ⟨_, rfl⟩
      have sX9 : X < w9.heap.size := by rw [← hw9, size_sets]; exact ln
      rw [hw9] at hS2 ryX yaF ⊢
      have hS : (Below w8.heap.size w8) w9 := hS2
      refine hs_take (i := 9) (d := some 4) (v := ?_) rfl (by kernel_rfl) (by kernel_rfl) (by kernel_rfl) (by rfl) ?_ hS rfl ?_
      rotate_left
      · intro w' hw
        go_simp
        try with_reducible rfl
      simp only [Act.put, List.setIfInBounds_toArray, List.set_cons_zero, List.set_cons_succ]
      refine hs_done (by kernel_rfl) ?_
      have xa9 := xa8.below hS
      have rc9 := range_below r8c hS s8c
      have rx9 := range_below r8x hS s8x
      have B9 := B8.trans (hS.mono B8.size)
      have s9c := Nat.lt_of_lt_of_le s8c hS.size
      have s9x := Nat.lt_of_lt_of_le s8x hS.size
      have cS := fun w0 h1 h2 => cS0 y w0 yo ys h1 h2
      simp only [hqy.out] at cS
      clear cS0
      clear hS2 hS hXw tn ln r8c r8x xa8 B8 s8c s8x yl ya cB cP hw9
      go_upto_region 4 with fail
      try simp only [Act.put]
      refine pl_begin ?_
      refine pl_take (d := some 15) (v := .agg u.toArray) (by rfl) (ex_mid rfl rfl rc9 Try.underlying23 rfl iu) rfl ?_
      simp only [Act.put, List.setIfInBounds_toArray, List.set_cons_zero, List.set_cons_succ]
      refine pl_take (d := some 16) (v := .agg qx.toArray) (by rfl) (ex_mid rfl rfl rx9 Try.underlying30 rfl hix) rfl ?_
      simp only [Act.put, List.setIfInBounds_toArray, List.set_cons_zero, List.set_cons_succ]
      refine pl_call (d := some 17) (by rfl) (by go_simp; first | done | exact ⟨rfl, rfl⟩ | with_reducible rfl) rfl ?_
      refine (cG w9 xa9).mono ?_
      rintro _ v1 ⟨rfl, hb1⟩
      refine ⟨_, rfl, ?_⟩
      simp only [Act.put, List.setIfInBounds_toArray, List.set_cons_zero, List.set_cons_succ]
      have kx := (range_below rx9 hb1 s9x) 1 _ kx1
      have xa1 := xa9.below hb1
      have ya1 := yaF.below hb1
      have rx1 := range_below rx9 hb1 s9x
      have ry1 := range_below ryX hb1 sX9
      have s1x := Nat.lt_of_lt_of_le s9x hb1.size
      have B1 := B9.trans (hb1.mono B9.size)
      refine pl_take (d := some 18) (v := ?_) (by rfl) ?_ rfl ?_
      rotate_left
      · go_simp
        try with_reducible rfl
      simp only [Act.put, List.setIfInBounds_toArray, List.set_cons_zero, List.set_cons_succ]
      refine pl_take (d := some 19) (v := ?_) (by rfl) ?_ rfl ?_
      rotate_left
      · go_simp
        try with_reducible rfl
      simp only [Act.put, List.setIfInBounds_toArray, List.set_cons_zero, List.set_cons_succ]
      refine pl_take (d := some 20) (v := .int .i64 1) (by rfl) (pl_one rfl rfl kx Try.underlying3 rfl) rfl ?_
      simp only [Act.put, List.setIfInBounds_toArray, List.set_cons_zero, List.set_cons_succ]
      refine pl_take (d := some 21) (v := .bool true) (by rfl) (by go_simp) rfl ?_
      simp only [Act.put, List.setIfInBounds_toArray, List.set_cons_zero, List.set_cons_succ]
      refine pl_take (d := some 22) (v := ?_) (by rfl) ?_ rfl ?_
      rotate_left
      · go_simp
        try with_reducible rfl
      simp only [Act.put, List.setIfInBounds_toArray, List.set_cons_zero, List.set_cons_succ]
      refine pl_take (d := some 23) (v := ?_) (by rfl) ?_ rfl ?_
      rotate_left
      · go_simp
        try with_reducible rfl
      simp only [Act.put, List.setIfInBounds_toArray, List.set_cons_zero, List.set_cons_succ]
      refine pl_take (d := some 24) (v := ?_) (by rfl) ?_ rfl ?_
      rotate_left
      · go_simp
        try with_reducible rfl
      simp only [Act.put, List.setIfInBounds_toArray, List.set_cons_zero, List.set_cons_succ]
      refine pl_take (d := some 25) (v := .bool true) (by rfl) (by go_simp) rfl ?_
      simp only [Act.put, List.setIfInBounds_toArray, List.set_cons_zero, List.set_cons_succ]
      refine pl_take (d := some 26) (v := ?_) (by rfl) ?_ rfl ?_
      rotate_left
      · go_simp
        try with_reducible rfl
      simp only [Act.put, List.setIfInBounds_toArray, List.set_cons_zero, List.set_cons_succ]
      refine pl_take (d := some 27) (v := ?_) (by rfl) ?_ rfl ?_
      rotate_left
      · go_simp
        try with_reducible rfl
      simp only [Act.put, List.setIfInBounds_toArray, List.set_cons_zero, List.set_cons_succ]
      refine pl_take (d := some 28) (v := .agg qx.toArray) (by rfl) (ex_mid rfl rfl rx1 Try.underlying30 rfl hix) rfl ?_
      simp only [Act.put, List.setIfInBounds_toArray, List.set_cons_zero, List.set_cons_succ]
      refine pl_take (d := some 29) (v := .agg qy.toArray) (by rfl) (ex_mid rfl rfl ry1 Try.underlying30 rfl hiy) rfl ?_
      simp only [Act.put, List.setIfInBounds_toArray, List.set_cons_zero, List.set_cons_succ]
      refine pl_call (d := some 30) (by rfl) (by go_simp; first | done | exact ⟨rfl, rfl⟩ | with_reducible rfl) rfl ?_
      refine (cS v1 xa1 ya1).mono ?_
      rintro _ v2 ⟨rfl, hb2⟩
      refine ⟨_, rfl, ?_⟩
      simp only [Act.put, List.setIfInBounds_toArray, List.set_cons_zero, List.set_cons_succ]
      have xa2 := xa1.below hb2
      have rx2 := range_below rx1 hb2 s1x
      have B2 := B1.trans (hb2.mono B1.size)
      refine pl_take (d := some 31) (v := ?_) (by rfl) ?_ rfl ?_
      rotate_left
      · go_simp
        try with_reducible rfl
      simp only [Act.put, List.setIfInBounds_toArray, List.set_cons_zero, List.set_cons_succ]
      refine pl_take (d := some 32) (v := ?_) (by rfl) ?_ rfl ?_
      rotate_left
      · go_simp
        try with_reducible rfl
      simp only [Act.put, List.setIfInBounds_toArray, List.set_cons_zero, List.set_cons_succ]
      refine pl_take (d := some 33) (v := .agg qx.toArray) (by rfl) (ex_mid rfl rfl rx2 Try.underlying30 rfl hix) rfl ?_
      simp only [Act.put, List.setIfInBounds_toArray, List.set_cons_zero, List.set_cons_succ]
      refine pl_call (d := some 34) (by rfl) (by go_simp; first | done | exact ⟨rfl, rfl⟩ | with_reducible rfl) rfl ?_
      refine (cB2 v2 xa2).mono ?_
      rintro _ v3 ⟨rfl, hb3⟩
      refine ⟨_, rfl, ?_⟩
      simp only [Act.put, List.setIfInBounds_toArray, List.set_cons_zero, List.set_cons_succ]
      have HB3 := hide (B2.trans (hb3.mono B2.size))
      refine pl_take (d := some 35) (v := .string ⟨#[1, 1, 1, 1, 0]⟩) (by rfl) (hsl _ rfl rfl) rfl ?_
      simp only [Act.put, List.setIfInBounds_toArray, List.set_cons_zero, List.set_cons_succ]
      refine pl_take (d := some 36) (v := .bool true) (by rfl) (by go_simp) rfl ?_
      simp only [Act.put, List.setIfInBounds_toArray, List.set_cons_zero, List.set_cons_succ]
      refine pl_take (d := some 37) (v := ?_) (by rfl) ?_ rfl ?_
      rotate_left
      · go_simp
        try with_reducible rfl
      simp only [Act.put, List.setIfInBounds_toArray, List.set_cons_zero, List.set_cons_succ]
      refine pl_take (d := some 0) (v := ?_) (by rfl) ?_ rfl ?_
      rotate_left
      · go_simp
        try with_reducible rfl
      simp only [Act.put, List.setIfInBounds_toArray, List.set_cons_zero, List.set_cons_succ]
      refine pl_nil ?_
      clear B2 rx2 xa2 hb2 hb3 xa1 ya1 rx1 ry1 s1x B1 kx hb1 cG cS cB2 xa9 rc9 rx9 B9 s9c s9x ryX yaF
      go_wp2_with fail
      go_ret
      exact ⟨rfl, HB3.out⟩
    · obtain ⟨X, HX⟩ : ∃ x, Hid (wa.heap.size = x) := ⟨_, hide rfl⟩
      have hXw : w8.heap.size ≤ X := by have := hS.size; have := HX.out; omega
      have hb_wb : Below wa.heap.size wa (wa.alloc (.cells zc.toArray 30)) := (Below.refl _ _).alloc (Nat.le_refl _) _
      have tn : (wa.alloc (.cells zc.toArray 30)).there X 0 37 := by rw [← HX.out]; exact there_newN wa zc.toArray 30 (n := 37) (by simp [hzl])
      have ln : X < (wa.alloc (.cells zc.toArray 30)).heap.size := by rw [← HX.out]; exact (boxed_new wa zc 30).2.2
      have hS' : (Below w8.heap.size w8) (wa.alloc (.cells zc.toArray 30)) := hS.trans (hb_wb.mono hS.size)
      refine st_run (i := 7) (d := some 3) (v := .pointer (some ⟨X, 0, none⟩)) (w' := wa.alloc (.cells zc.toArray 30)) rfl (by rfl) (by rw [← HX.out]; exact ex_alloc rfl (hzr _)) rfl hS' ?_
      simp only [Act.put, List.setIfInBounds_toArray, List.set_cons_zero, List.set_cons_succ]
      obtain ⟨wb, h_wb⟩ : ∃ W, wa.alloc (.cells zc.toArray 30) = W := ⟨_, rfl⟩
      rw [h_wb] at hb_wb tn ln hS' ⊢
      clear h_wb
      have hS : (Below w8.heap.size w8) wb := hS'
      clear hS'
      have ln0 := ln
      refine hs_call (i := 3) (d := some 12) rfl (by kernel_rfl) (by rfl) (by go_simp; first | done | exact ⟨rfl, rfl⟩ | with_reducible rfl) rfl ?_
      refine (cP wb).mono ?_
      rintro _ wc ⟨y, rfl, ys, yo, ya, yl, hb_wc⟩
      have hS : (Below w8.heap.size w8) wc := hS.trans (hb_wc.mono hS.size)
      refine ⟨_, rfl, hS, ?_⟩
      simp only [Act.put, List.setIfInBounds_toArray, List.set_cons_zero, List.set_cons_succ]
      have tn := there_below tn hb_wc ln
      have ln := Nat.lt_of_lt_of_le ln hb_wc.size
      refine hs_take (i := 4) (d := some 8) (v := ?_) rfl (by kernel_rfl) (by kernel_rfl) (by kernel_rfl) (by rfl) ?_ hS rfl ?_
      rotate_left
      · intro w' hw
        go_simp
        try with_reducible rfl
      simp only [Act.put, List.setIfInBounds_toArray, List.set_cons_zero, List.set_cons_succ]
      refine hs_take (i := 5) (d := some 13) (v := ?_) rfl (by kernel_rfl) (by kernel_rfl) (by kernel_rfl) (by rfl) ?_ hS rfl ?_
      rotate_left
      · intro w' hw
        go_simp
        try with_reducible rfl
      simp only [Act.put, List.setIfInBounds_toArray, List.set_cons_zero, List.set_cons_succ]
      refine hs_take (i := 6) (d := some 14) (v := ?_) rfl (by kernel_rfl) (by kernel_rfl) (by kernel_rfl) (by rfl) ?_ hS rfl ?_
      rotate_left
      · intro w' hw
        go_simp
        try with_reducible rfl
      simp only [Act.put, List.setIfInBounds_toArray, List.set_cons_zero, List.set_cons_succ]
      have yaF : ∀ q, y.At (wc.setCells X 0 q) := fun q => ya.put yl ln0
      have hyl : y.cells.length = 37 := Stt.len yo
      have hy1 := Stt.one y
      have hiy : (Try.prog.info? 30).map (·.size) = some y.cells.length := by rw [hyl]; exact iszSt
      obtain ⟨qy, hqy⟩ : ∃ q, Hid (y.cells = q) := ⟨_, hide rfl⟩
      rw [hqy.out] at hyl hy1 hiy
      simp only [hqy.out]
      have hS2 : (Below w8.heap.size w8) (wc.setCells X 0 qy) := below_sets hXw qy 0 _ hS
      have ryX : (wc.setCells X 0 qy).rangeAt X 0 qy := World.rangeAt_setCells_same wc X 0 qy (by rw [hyl]; exact tn)
      have yaF := yaF qy
      refine hs_store (i := 8) (w' := wc.setCells X 0 qy) rfl (by kernel_rfl) (by rfl) (ex_put (cs := qy.toArray) rfl rfl rfl (by simpa [hyl] using tn) (by simpa using hiy) (all_one hy1)) rfl hS2 ?_
      obtain ⟨w9, hw9⟩ : ∃ W, wc.setCells X 0 qy = W := ⟨_, rfl⟩
      have sX9 : X < w9.heap.size := by rw [← hw9, size_sets]; exact ln
      rw [hw9] at hS2 ryX yaF ⊢
      have hS : (Below w8.heap.size w8) w9 := hS2
      refine hs_take (i := 9) (d := some 4) (v := ?_) rfl (by kernel_rfl) (by kernel_rfl) (by kernel_rfl) (by rfl) ?_ hS rfl ?_
      rotate_left
      · intro w' hw
        go_simp
        try with_reducible rfl
      simp only [Act.put, List.setIfInBounds_toArray, List.set_cons_zero, List.set_cons_succ]
      refine hs_done (by kernel_rfl) ?_
      have xa9 := xa8.below hS
      have rc9 := range_below r8c hS s8c
      have rx9 := range_below r8x hS s8x
      have B9 := B8.trans (hS.mono B8.size)
      have s9c := Nat.lt_of_lt_of_le s8c hS.size
      have s9x := Nat.lt_of_lt_of_le s8x hS.size
      have cS := fun w0 h1 h2 => cS0 y w0 yo ys h1 h2
      simp only [hqy.out] at cS
      clear cS0
      clear hS2 hS hXw tn ln r8c r8x xa8 B8 s8c s8x yl ya cB cP hw9
      go_upto_region 4 with fail
      try simp only [Act.put]
      refine pl_begin ?_
      refine pl_take (d := some 15) (v := .agg u.toArray) (by rfl) (ex_mid rfl rfl rc9 Try.underlying23 rfl iu) rfl ?_
      simp only [Act.put, List.setIfInBounds_toArray, List.set_cons_zero, List.set_cons_succ]
      refine pl_take (d := some 16) (v := .agg qx.toArray) (by rfl) (ex_mid rfl rfl rx9 Try.underlying30 rfl hix) rfl ?_
      simp only [Act.put, List.setIfInBounds_toArray, List.set_cons_zero, List.set_cons_succ]
      refine pl_call (d := some 17) (by rfl) (by go_simp; first | done | exact ⟨rfl, rfl⟩ | with_reducible rfl) rfl ?_
      refine (cG w9 xa9).mono ?_
      rintro _ v1 ⟨rfl, hb1⟩
      refine ⟨_, rfl, ?_⟩
      simp only [Act.put, List.setIfInBounds_toArray, List.set_cons_zero, List.set_cons_succ]
      have kx := (range_below rx9 hb1 s9x) 1 _ kx1
      have xa1 := xa9.below hb1
      have ya1 := yaF.below hb1
      have rx1 := range_below rx9 hb1 s9x
      have ry1 := range_below ryX hb1 sX9
      have s1x := Nat.lt_of_lt_of_le s9x hb1.size
      have B1 := B9.trans (hb1.mono B9.size)
      refine pl_take (d := some 18) (v := ?_) (by rfl) ?_ rfl ?_
      rotate_left
      · go_simp
        try with_reducible rfl
      simp only [Act.put, List.setIfInBounds_toArray, List.set_cons_zero, List.set_cons_succ]
      refine pl_take (d := some 19) (v := ?_) (by rfl) ?_ rfl ?_
      rotate_left
      · go_simp
        try with_reducible rfl
      simp only [Act.put, List.setIfInBounds_toArray, List.set_cons_zero, List.set_cons_succ]
      refine pl_take (d := some 20) (v := .int .i64 1) (by rfl) (pl_one rfl rfl kx Try.underlying3 rfl) rfl ?_
      simp only [Act.put, List.setIfInBounds_toArray, List.set_cons_zero, List.set_cons_succ]
      refine pl_take (d := some 21) (v := .bool true) (by rfl) (by go_simp) rfl ?_
      simp only [Act.put, List.setIfInBounds_toArray, List.set_cons_zero, List.set_cons_succ]
      refine pl_take (d := some 22) (v := ?_) (by rfl) ?_ rfl ?_
      rotate_left
      · go_simp
        try with_reducible rfl
      simp only [Act.put, List.setIfInBounds_toArray, List.set_cons_zero, List.set_cons_succ]
      refine pl_take (d := some 23) (v := ?_) (by rfl) ?_ rfl ?_
      rotate_left
      · go_simp
        try with_reducible rfl
      simp only [Act.put, List.setIfInBounds_toArray, List.set_cons_zero, List.set_cons_succ]
      refine pl_take (d := some 24) (v := ?_) (by rfl) ?_ rfl ?_
      rotate_left
      · go_simp
        try with_reducible rfl
      simp only [Act.put, List.setIfInBounds_toArray, List.set_cons_zero, List.set_cons_succ]
      refine pl_take (d := some 25) (v := .bool true) (by rfl) (by go_simp) rfl ?_
      simp only [Act.put, List.setIfInBounds_toArray, List.set_cons_zero, List.set_cons_succ]
      refine pl_take (d := some 26) (v := ?_) (by rfl) ?_ rfl ?_
      rotate_left
      · go_simp
        try with_reducible rfl
      simp only [Act.put, List.setIfInBounds_toArray, List.set_cons_zero, List.set_cons_succ]
      refine pl_take (d := some 27) (v := ?_) (by rfl) ?_ rfl ?_
      rotate_left
      · go_simp
        try with_reducible rfl
      simp only [Act.put, List.setIfInBounds_toArray, List.set_cons_zero, List.set_cons_succ]
      refine pl_take (d := some 28) (v := .agg qx.toArray) (by rfl) (ex_mid rfl rfl rx1 Try.underlying30 rfl hix) rfl ?_
      simp only [Act.put, List.setIfInBounds_toArray, List.set_cons_zero, List.set_cons_succ]
      refine pl_take (d := some 29) (v := .agg qy.toArray) (by rfl) (ex_mid rfl rfl ry1 Try.underlying30 rfl hiy) rfl ?_
      simp only [Act.put, List.setIfInBounds_toArray, List.set_cons_zero, List.set_cons_succ]
      refine pl_call (d := some 30) (by rfl) (by go_simp; first | done | exact ⟨rfl, rfl⟩ | with_reducible rfl) rfl ?_
      refine (cS v1 xa1 ya1).mono ?_
      rintro _ v2 ⟨rfl, hb2⟩
      refine ⟨_, rfl, ?_⟩
      simp only [Act.put, List.setIfInBounds_toArray, List.set_cons_zero, List.set_cons_succ]
      have xa2 := xa1.below hb2
      have rx2 := range_below rx1 hb2 s1x
      have B2 := B1.trans (hb2.mono B1.size)
      refine pl_take (d := some 31) (v := ?_) (by rfl) ?_ rfl ?_
      rotate_left
      · go_simp
        try with_reducible rfl
      simp only [Act.put, List.setIfInBounds_toArray, List.set_cons_zero, List.set_cons_succ]
      refine pl_take (d := some 32) (v := ?_) (by rfl) ?_ rfl ?_
      rotate_left
      · go_simp
        try with_reducible rfl
      simp only [Act.put, List.setIfInBounds_toArray, List.set_cons_zero, List.set_cons_succ]
      refine pl_take (d := some 33) (v := .agg qx.toArray) (by rfl) (ex_mid rfl rfl rx2 Try.underlying30 rfl hix) rfl ?_
      simp only [Act.put, List.setIfInBounds_toArray, List.set_cons_zero, List.set_cons_succ]
      refine pl_call (d := some 34) (by rfl) (by go_simp; first | done | exact ⟨rfl, rfl⟩ | with_reducible rfl) rfl ?_
      refine (cB2 v2 xa2).mono ?_
      rintro _ v3 ⟨rfl, hb3⟩
      refine ⟨_, rfl, ?_⟩
      simp only [Act.put, List.setIfInBounds_toArray, List.set_cons_zero, List.set_cons_succ]
      have HB3 := hide (B2.trans (hb3.mono B2.size))
      refine pl_take (d := some 35) (v := .string ⟨#[1, 1, 1, 1, 0]⟩) (by rfl) (hsl _ rfl rfl) rfl ?_
      simp only [Act.put, List.setIfInBounds_toArray, List.set_cons_zero, List.set_cons_succ]
      refine pl_take (d := some 36) (v := .bool true) (by rfl) (by go_simp) rfl ?_
      simp only [Act.put, List.setIfInBounds_toArray, List.set_cons_zero, List.set_cons_succ]
      refine pl_take (d := some 37) (v := ?_) (by rfl) ?_ rfl ?_
      rotate_left
      · go_simp
        try with_reducible rfl
      simp only [Act.put, List.setIfInBounds_toArray, List.set_cons_zero, List.set_cons_succ]
      refine pl_take (d := some 0) (v := ?_) (by rfl) ?_ rfl ?_
      rotate_left
      · go_simp
        try with_reducible rfl
      simp only [Act.put, List.setIfInBounds_toArray, List.set_cons_zero, List.set_cons_succ]
      refine pl_nil ?_
      clear B2 rx2 xa2 hb2 hb3 xa1 ya1 rx1 ry1 s1x B1 kx hb1 cG cS cB2 xa9 rc9 rx9 B9 s9c s9x ryX yaF
      go_wp2_with fail
      go_ret
      exact ⟨rfl, HB3.out⟩
  · obtain ⟨X, HX⟩ : ∃ x, Hid (w8.heap.size = x) := ⟨_, hide rfl⟩
    have hXw : w8.heap.size ≤ X := by have := hS.size; have := HX.out; omega
    have hb_wa : Below w8.heap.size w8 (w8.alloc (.cells zc.toArray 30)) := (Below.refl _ _).alloc (Nat.le_refl _) _
    have tn : (w8.alloc (.cells zc.toArray 30)).there X 0 37 := by rw [← HX.out]; exact there_newN w8 zc.toArray 30 (n := 37) (by simp [hzl])
    have ln : X < (w8.alloc (.cells zc.toArray 30)).heap.size := by rw [← HX.out]; exact (boxed_new w8 zc 30).2.2
    have hS' : (Below w8.heap.size w8) (w8.alloc (.cells zc.toArray 30)) := hS.trans (hb_wa.mono hS.size)
    refine st_run (i := 7) (d := some 3) (v := .pointer (some ⟨X, 0, none⟩)) (w' := w8.alloc (.cells zc.toArray 30)) rfl (by rfl) (by rw [← HX.out]; exact ex_alloc rfl (hzr _)) rfl hS' ?_
    simp only [Act.put, List.setIfInBounds_toArray, List.set_cons_zero, List.set_cons_succ]
    obtain ⟨wa, h_wa⟩ : ∃ W, w8.alloc (.cells zc.toArray 30) = W := ⟨_, rfl⟩
    rw [h_wa] at hb_wa tn ln hS' ⊢
    clear h_wa
    have hS : (Below w8.heap.size w8) wa := hS'
    clear hS'
    refine hs_call (i := 2) (d := some 11) rfl (by kernel_rfl) (by rfl) (by go_simp; first | done | exact ⟨rfl, rfl⟩ | with_reducible rfl) rfl ?_
    refine (cB wa hS).mono ?_
    rintro _ wb ⟨rfl, hb_wb⟩
    have hS : (Below w8.heap.size w8) wb := hS.trans (hb_wb.mono hS.size)
    refine ⟨_, rfl, hS, ?_⟩
    simp only [Act.put, List.setIfInBounds_toArray, List.set_cons_zero, List.set_cons_succ]
    have tn := there_below tn hb_wb ln
    have ln := Nat.lt_of_lt_of_le ln hb_wb.size
    have ln0 := ln
    refine hs_call (i := 3) (d := some 12) rfl (by kernel_rfl) (by rfl) (by go_simp; first | done | exact ⟨rfl, rfl⟩ | with_reducible rfl) rfl ?_
    refine (cP wb).mono ?_
    rintro _ wc ⟨y, rfl, ys, yo, ya, yl, hb_wc⟩
    have hS : (Below w8.heap.size w8) wc := hS.trans (hb_wc.mono hS.size)
    refine ⟨_, rfl, hS, ?_⟩
    simp only [Act.put, List.setIfInBounds_toArray, List.set_cons_zero, List.set_cons_succ]
    have tn := there_below tn hb_wc ln
    have ln := Nat.lt_of_lt_of_le ln hb_wc.size
    refine hs_take (i := 4) (d := some 8) (v := ?_) rfl (by kernel_rfl) (by kernel_rfl) (by kernel_rfl) (by rfl) ?_ hS rfl ?_
    rotate_left
    · intro w' hw
      go_simp
      try with_reducible rfl
    simp only [Act.put, List.setIfInBounds_toArray, List.set_cons_zero, List.set_cons_succ]
    refine hs_take (i := 5) (d := some 13) (v := ?_) rfl (by kernel_rfl) (by kernel_rfl) (by kernel_rfl) (by rfl) ?_ hS rfl ?_
    rotate_left
    · intro w' hw
      go_simp
      try with_reducible rfl
    simp only [Act.put, List.setIfInBounds_toArray, List.set_cons_zero, List.set_cons_succ]
    refine hs_take (i := 6) (d := some 14) (v := ?_) rfl (by kernel_rfl) (by kernel_rfl) (by kernel_rfl) (by rfl) ?_ hS rfl ?_
    rotate_left
    · intro w' hw
      go_simp
      try with_reducible rfl
    simp only [Act.put, List.setIfInBounds_toArray, List.set_cons_zero, List.set_cons_succ]
    have yaF : ∀ q, y.At (wc.setCells X 0 q) := fun q => ya.put yl ln0
    have hyl : y.cells.length = 37 := Stt.len yo
    have hy1 := Stt.one y
    have hiy : (Try.prog.info? 30).map (·.size) = some y.cells.length := by rw [hyl]; exact iszSt
    obtain ⟨qy, hqy⟩ : ∃ q, Hid (y.cells = q) := ⟨_, hide rfl⟩
    rw [hqy.out] at hyl hy1 hiy
    simp only [hqy.out]
    have hS2 : (Below w8.heap.size w8) (wc.setCells X 0 qy) := below_sets hXw qy 0 _ hS
    have ryX : (wc.setCells X 0 qy).rangeAt X 0 qy := World.rangeAt_setCells_same wc X 0 qy (by rw [hyl]; exact tn)
    have yaF := yaF qy
    refine hs_store (i := 8) (w' := wc.setCells X 0 qy) rfl (by kernel_rfl) (by rfl) (ex_put (cs := qy.toArray) rfl rfl rfl (by simpa [hyl] using tn) (by simpa using hiy) (all_one hy1)) rfl hS2 ?_
    obtain ⟨w9, hw9⟩ : ∃ W, wc.setCells X 0 qy = W := ⟨_, rfl⟩
    have sX9 : X < w9.heap.size := by rw [← hw9, size_sets]; exact ln
    rw [hw9] at hS2 ryX yaF ⊢
    have hS : (Below w8.heap.size w8) w9 := hS2
    refine hs_take (i := 9) (d := some 4) (v := ?_) rfl (by kernel_rfl) (by kernel_rfl) (by kernel_rfl) (by rfl) ?_ hS rfl ?_
    rotate_left
    · intro w' hw
      go_simp
      try with_reducible rfl
    simp only [Act.put, List.setIfInBounds_toArray, List.set_cons_zero, List.set_cons_succ]
    refine hs_done (by kernel_rfl) ?_
    have xa9 := xa8.below hS
    have rc9 := range_below r8c hS s8c
    have rx9 := range_below r8x hS s8x
    have B9 := B8.trans (hS.mono B8.size)
    have s9c := Nat.lt_of_lt_of_le s8c hS.size
    have s9x := Nat.lt_of_lt_of_le s8x hS.size
    have cS := fun w0 h1 h2 => cS0 y w0 yo ys h1 h2
    simp only [hqy.out] at cS
    clear cS0
    clear hS2 hS hXw tn ln r8c r8x xa8 B8 s8c s8x yl ya cB cP hw9
    go_upto_region 4 with fail
    try simp only [Act.put]
    refine pl_begin ?_
    refine pl_take (d := some 15) (v := .agg u.toArray) (by rfl) (ex_mid rfl rfl rc9 Try.underlying23 rfl iu) rfl ?_
    simp only [Act.put, List.setIfInBounds_toArray, List.set_cons_zero, List.set_cons_succ]
    refine pl_take (d := some 16) (v := .agg qx.toArray) (by rfl) (ex_mid rfl rfl rx9 Try.underlying30 rfl hix) rfl ?_
    simp only [Act.put, List.setIfInBounds_toArray, List.set_cons_zero, List.set_cons_succ]
    refine pl_call (d := some 17) (by rfl) (by go_simp; first | done | exact ⟨rfl, rfl⟩ | with_reducible rfl) rfl ?_
    refine (cG w9 xa9).mono ?_
    rintro _ v1 ⟨rfl, hb1⟩
    refine ⟨_, rfl, ?_⟩
    simp only [Act.put, List.setIfInBounds_toArray, List.set_cons_zero, List.set_cons_succ]
    have kx := (range_below rx9 hb1 s9x) 1 _ kx1
    have xa1 := xa9.below hb1
    have ya1 := yaF.below hb1
    have rx1 := range_below rx9 hb1 s9x
    have ry1 := range_below ryX hb1 sX9
    have s1x := Nat.lt_of_lt_of_le s9x hb1.size
    have B1 := B9.trans (hb1.mono B9.size)
    refine pl_take (d := some 18) (v := ?_) (by rfl) ?_ rfl ?_
    rotate_left
    · go_simp
      try with_reducible rfl
    simp only [Act.put, List.setIfInBounds_toArray, List.set_cons_zero, List.set_cons_succ]
    refine pl_take (d := some 19) (v := ?_) (by rfl) ?_ rfl ?_
    rotate_left
    · go_simp
      try with_reducible rfl
    simp only [Act.put, List.setIfInBounds_toArray, List.set_cons_zero, List.set_cons_succ]
    refine pl_take (d := some 20) (v := .int .i64 1) (by rfl) (pl_one rfl rfl kx Try.underlying3 rfl) rfl ?_
    simp only [Act.put, List.setIfInBounds_toArray, List.set_cons_zero, List.set_cons_succ]
    refine pl_take (d := some 21) (v := .bool true) (by rfl) (by go_simp) rfl ?_
    simp only [Act.put, List.setIfInBounds_toArray, List.set_cons_zero, List.set_cons_succ]
    refine pl_take (d := some 22) (v := ?_) (by rfl) ?_ rfl ?_
    rotate_left
    · go_simp
      try with_reducible rfl
    simp only [Act.put, List.setIfInBounds_toArray, List.set_cons_zero, List.set_cons_succ]
    refine pl_take (d := some 23) (v := ?_) (by rfl) ?_ rfl ?_
    rotate_left
    · go_simp
      try with_reducible rfl
    simp only [Act.put, List.setIfInBounds_toArray, List.set_cons_zero, List.set_cons_succ]
    refine pl_take (d := some 24) (v := ?_) (by rfl) ?_ rfl ?_
    rotate_left
    · go_simp
      try with_reducible rfl
    simp only [Act.put, List.setIfInBounds_toArray, List.set_cons_zero, List.set_cons_succ]
    refine pl_take (d := some 25) (v := .bool true) (by rfl) (by go_simp) rfl ?_
    simp only [Act.put, List.setIfInBounds_toArray, List.set_cons_zero, List.set_cons_succ]
    refine pl_take (d := some 26) (v := ?_) (by rfl) ?_ rfl ?_
    rotate_left
    · go_simp
      try with_reducible rfl
    simp only [Act.put, List.setIfInBounds_toArray, List.set_cons_zero, List.set_cons_succ]
    refine pl_take (d := some 27) (v := ?_) (by rfl) ?_ rfl ?_
    rotate_left
    · go_simp
      try with_reducible rfl
    simp only [Act.put, List.setIfInBounds_toArray, List.set_cons_zero, List.set_cons_succ]
    refine pl_take (d := some 28) (v := .agg qx.toArray) (by rfl) (ex_mid rfl rfl rx1 Try.underlying30 rfl hix) rfl ?_
    simp only [Act.put, List.setIfInBounds_toArray, List.set_cons_zero, List.set_cons_succ]
    refine pl_take (d := some 29) (v := .agg qy.toArray) (by rfl) (ex_mid rfl rfl ry1 Try.underlying30 rfl hiy) rfl ?_
    simp only [Act.put, List.setIfInBounds_toArray, List.set_cons_zero, List.set_cons_succ]
    refine pl_call (d := some 30) (by rfl) (by go_simp; first | done | exact ⟨rfl, rfl⟩ | with_reducible rfl) rfl ?_
    refine (cS v1 xa1 ya1).mono ?_
    rintro _ v2 ⟨rfl, hb2⟩
    refine ⟨_, rfl, ?_⟩
    simp only [Act.put, List.setIfInBounds_toArray, List.set_cons_zero, List.set_cons_succ]
    have xa2 := xa1.below hb2
    have rx2 := range_below rx1 hb2 s1x
    have B2 := B1.trans (hb2.mono B1.size)
    refine pl_take (d := some 31) (v := ?_) (by rfl) ?_ rfl ?_
    rotate_left
    · go_simp
      try with_reducible rfl
    simp only [Act.put, List.setIfInBounds_toArray, List.set_cons_zero, List.set_cons_succ]
    refine pl_take (d := some 32) (v := ?_) (by rfl) ?_ rfl ?_
    rotate_left
    · go_simp
      try with_reducible rfl
    simp only [Act.put, List.setIfInBounds_toArray, List.set_cons_zero, List.set_cons_succ]
    refine pl_take (d := some 33) (v := .agg qx.toArray) (by rfl) (ex_mid rfl rfl rx2 Try.underlying30 rfl hix) rfl ?_
    simp only [Act.put, List.setIfInBounds_toArray, List.set_cons_zero, List.set_cons_succ]
    refine pl_call (d := some 34) (by rfl) (by go_simp; first | done | exact ⟨rfl, rfl⟩ | with_reducible rfl) rfl ?_
    refine (cB2 v2 xa2).mono ?_
    rintro _ v3 ⟨rfl, hb3⟩
    refine ⟨_, rfl, ?_⟩
    simp only [Act.put, List.setIfInBounds_toArray, List.set_cons_zero, List.set_cons_succ]
    have HB3 := hide (B2.trans (hb3.mono B2.size))
    refine pl_take (d := some 35) (v := .string ⟨#[1, 1, 1, 1, 0]⟩) (by rfl) (hsl _ rfl rfl) rfl ?_
    simp only [Act.put, List.setIfInBounds_toArray, List.set_cons_zero, List.set_cons_succ]
    refine pl_take (d := some 36) (v := .bool true) (by rfl) (by go_simp) rfl ?_
    simp only [Act.put, List.setIfInBounds_toArray, List.set_cons_zero, List.set_cons_succ]
    refine pl_take (d := some 37) (v := ?_) (by rfl) ?_ rfl ?_
    rotate_left
    · go_simp
      try with_reducible rfl
    simp only [Act.put, List.setIfInBounds_toArray, List.set_cons_zero, List.set_cons_succ]
    refine pl_take (d := some 0) (v := ?_) (by rfl) ?_ rfl ?_
    rotate_left
    · go_simp
      try with_reducible rfl
    simp only [Act.put, List.setIfInBounds_toArray, List.set_cons_zero, List.set_cons_succ]
    refine pl_nil ?_
    clear B2 rx2 xa2 hb2 hb3 xa1 ya1 rx1 ry1 s1x B1 kx hb1 cG cS cB2 xa9 rc9 rx9 B9 s9c s9x ryX yaF
    go_wp2_with fail
    go_ret
    exact ⟨rfl, HB3.out⟩
end Go.Proofs.Ytaaifcpanflejaa
