/- the document's tape: Append -/
import Derived.Test.YtfkchnjbbbhmjaaR4
namespace Go.Proofs.Ytfkchnjbbbhmjaa
open Go.RowKit
set_option maxRecDepth 100000 in
set_option maxHeartbeats 8000000 in
theorem rAppend_0 (t : Rv) (M : Mt) (a : Option Addr) (cap : Nat) (zs : List Int) (w : World) (h : RefAt w t M) (hon : M.on = true) (hz : RowAt w a zs) (hne : zs = [] ∨ ∀ x, a = some x → ¬ (x.block = t.r)) :
    Calls Try.prog 34 #[rptr t, .int .i64 0, .slice a zs.length cap] w fun e w' => e = .returned (.int .i64 (M.append 0 zs).1) ∧ RTurned w w' t (M.append 0 zs).2 := by
  have hfa : M.fault 0 = 0 := fault_on hon (by omega)
  have c1 := rfault_any t M 0 w h
  rw [hfa] at c1
  have hl : zs.length ≤ 9223372036854775807 := by have := hz.1; unfold maxLen at this; omega
  have cU := fun w0 (hb : Below w.heap.size w w0) => rused_any t M w0 (h.below hb)
  have q0 := fun w0 (hb : Below w.heap.size w w0) => (h.below hb).cell 0 rfl
  have hrm := h.ok.rm
  have hrl := h.ok.rl
  have hd := does_may M 0 (Mt.put zs) hfa
  have hmo := may_or M
  have hms := fun q => may_same (M := M) q
  have c2 := fun w0 (hb : Below w.heap.size w w0) => rmay_any t M w0 (h.below hb)
  have ap : M.append 0 zs = if M.room - ((M.a.length : Int) + M.b.length) < zs.length then (151, M) else M.does 0 (Mt.put zs) := if_pos hfa
  rw [ap]
  have HS : Hid (∀ w', Below w.heap.size w w' → RTurned w w' t M) := hide (fun w' hb => RTurned.same h hb)
  have hroomC : ¬ M.room - ((M.a.length : Int) + M.b.length) < zs.length → ¬ M.count.room - ((M.count.a.length : Int) + M.count.b.length) < zs.length := fun q => q
  obtain ⟨us, hus⟩ : ∃ us, Hid (((M.a.length : Int) + M.b.length) = us) := ⟨_, hide rfl⟩
  have hu0 : 0 ≤ us := by rw [← hus.out]; omega
  rw [hus.out] at hrm hroomC ⊢
  simp only [hus.out] at cU
  obtain ⟨rm, hrmE⟩ : ∃ rm, Hid (M.room = rm) := ⟨_, hide rfl⟩
  rw [hrmE.out] at hrm hrl hroomC ⊢
  have q0 : ∀ w0, Below w.heap.size w w0 → w0.cell? ⟨t.r, 0, none⟩ = some (.int .i64 rm) := fun w0 hb => by rw [← hrmE.out]; exact q0 w0 hb
  have hwr : IntKind.i64.wrap (rm - us) = rm - us := by rw [IntKind.wrap_i64]; omega
  unfold rptr at *
  clear ap
  by_cases hroom : rm - us < zs.length
  · rw [if_pos hroom]
    have HR := hide hroom
    clear hroom hroomC hd hmo hms c2 h hz hne
    go_enter Try.func34, Try.ntmps34
    go_wp2_with fail
    refine c1.mono ?_
    rintro e w' ⟨rfl, hw⟩
    obtain rfl := hw.symm
    clear c1 hw
    go_wp2_with fail
    obtain ⟨w8, hw8⟩ : ∃ w8, w.drew = w8 := ⟨_, rfl⟩
    have B8 : Below w.heap.size w w8 := by rw [← hw8]; exact (Below.refl _ _).drew
    have r8 : ∀ w', Below w8.heap.size w8 w' → w'.cell? ⟨t.r, 0, none⟩ = some (.int .i64 rm) := fun w' hw' => q0 w' (B8.trans (hw'.mono B8.size))
    refine hs_begin (S := (Below w8.heap.size w8)) 10 rfl (by kernel_rfl) ?_
    rw [hw8]
    clear hw8
    have hS : (Below w8.heap.size w8) w8 := Below.refl _ _
    refine hs_take (i := 0) (d := some 14) (v := ?_) rfl (by kernel_rfl) (by kernel_rfl) (by kernel_rfl) (by rfl) ?_ hS rfl ?_
    rotate_left
    · intro w' hw
      go_simp
      try with_reducible rfl
    simp only [Act.put, List.setIfInBounds_toArray, List.set_cons_zero, List.set_cons_succ]
    refine hs_take (i := 1) (d := some 15) (v := ?_) rfl (by kernel_rfl) (by kernel_rfl) (by kernel_rfl) (by rfl) ?_ hS rfl ?_
    rotate_left
    · intro w' hw
      go_simp
      try with_reducible rfl
    simp only [Act.put, List.setIfInBounds_toArray, List.set_cons_zero, List.set_cons_succ]
    refine hs_take (i := 2) (d := some 16) (v := ?_) rfl (by kernel_rfl) (by kernel_rfl) (by kernel_rfl) (by rfl) ?_ hS rfl ?_
    rotate_left
    · intro w' hw
      go_simp
      try with_reducible rfl
    simp only [Act.put, List.setIfInBounds_toArray, List.set_cons_zero, List.set_cons_succ]
    refine hs_take (i := 3) (d := some 17) (v := ?_) rfl (by kernel_rfl) (by kernel_rfl) (by kernel_rfl) (by rfl) ?_ hS rfl ?_
    rotate_left
    · intro w' hw
      go_simp
      try with_reducible rfl
    simp only [Act.put, List.setIfInBounds_toArray, List.set_cons_zero, List.set_cons_succ]
    refine hs_take (i := 4) (d := some 18) (v := ?_) rfl (by kernel_rfl) (by kernel_rfl) (by kernel_rfl) (by rfl) ?_ hS rfl ?_
    rotate_left
    · intro w' hw
      go_simp
      try with_reducible rfl
    simp only [Act.put, List.setIfInBounds_toArray, List.set_cons_zero, List.set_cons_succ]
    refine hs_take (i := 5) (d := some 19) (v := ?_) rfl (by kernel_rfl) (by kernel_rfl) (by kernel_rfl) (by rfl) ?_ hS rfl ?_
    rotate_left
    · intro w' hw
      have hc := r8 w' hw
      go_simp
      try with_reducible rfl
    simp only [Act.put, List.setIfInBounds_toArray, List.set_cons_zero, List.set_cons_succ]
    refine hs_take (i := 6) (d := some 20) (v := ?_) rfl (by kernel_rfl) (by kernel_rfl) (by kernel_rfl) (by rfl) ?_ hS rfl ?_
    rotate_left
    · intro w' hw
      go_simp
      try with_reducible rfl
    simp only [Act.put, List.setIfInBounds_toArray, List.set_cons_zero, List.set_cons_succ]
    refine hs_call (i := 7) (d := some 21) rfl (by kernel_rfl) (by rfl) (by go_simp; first | done | exact ⟨rfl, rfl⟩ | with_reducible rfl) rfl ?_
    refine (cU w8 B8).mono ?_
    rintro e' w9 ⟨rfl, hb9, -⟩
    have hS : (Below w8.heap.size w8) w9 := hb9
    refine ⟨_, rfl, hS, ?_⟩
    simp only [Act.put, List.setIfInBounds_toArray, List.set_cons_zero, List.set_cons_succ]
    refine hs_take (i := 8) (d := some 22) (v := ?_) rfl (by kernel_rfl) (by kernel_rfl) (by kernel_rfl) (by rfl) ?_ hS rfl ?_
    rotate_left
    · intro w' hw
      go_simp
      try with_reducible rfl
    simp only [Act.put, List.setIfInBounds_toArray, List.set_cons_zero, List.set_cons_succ]
    have hroom := HR.out
    refine hs_take (i := 9) (d := some 23) (v := .bool true) rfl (by kernel_rfl) (by kernel_rfl) (by kernel_rfl) (by rfl) (fun w' hw => by go_simp) hS rfl ?_
    simp only [Act.put, List.setIfInBounds_toArray, List.set_cons_zero, List.set_cons_succ]
    refine hs_done (by kernel_rfl) ?_
    have B9 := B8.trans (hS.mono B8.size)
    clear hroom hwr cU q0 r8 hS
    go_wp2_with fail
    go_ret
    exact ⟨rfl, HS.out _ B9⟩
  · rw [if_neg hroom, hd, show decide ((0 : Int) = 1) = false from rfl]
    have hroomC := hroomC hroom
    have HR := hide hroom
    obtain ⟨me, hme⟩ : ∃ me, M.may = me := ⟨_, rfl⟩
    obtain ⟨mE, mM⟩ := me
    simp only [hme] at c2 hmo hms ⊢
    clear hroom hd HS
    rcases hmo with rfl | rfl
    · rw [if_pos rfl]
      obtain rfl := hms rfl
      have HC := hide hroomC
      clear hme hms hroomC
      go_enter Try.func34, Try.ntmps34
      go_wp2_with fail
      refine c1.mono ?_
      rintro e w' ⟨rfl, hw⟩
      obtain rfl := hw.symm
      clear c1 hw
      go_wp2_with fail
      obtain ⟨w8, hw8⟩ : ∃ w8, w.drew = w8 := ⟨_, rfl⟩
      have B8 : Below w.heap.size w w8 := by rw [← hw8]; exact (Below.refl _ _).drew
      have r8 : ∀ w', Below w8.heap.size w8 w' → w'.cell? ⟨t.r, 0, none⟩ = some (.int .i64 rm) := fun w' hw' => q0 w' (B8.trans (hw'.mono B8.size))
      refine hs_begin (S := (Below w8.heap.size w8)) 10 rfl (by kernel_rfl) ?_
      rw [hw8]
      clear hw8
      have hS : (Below w8.heap.size w8) w8 := Below.refl _ _
      refine hs_take (i := 0) (d := some 14) (v := ?_) rfl (by kernel_rfl) (by kernel_rfl) (by kernel_rfl) (by rfl) ?_ hS rfl ?_
      rotate_left
      · intro w' hw
        go_simp
        try with_reducible rfl
      simp only [Act.put, List.setIfInBounds_toArray, List.set_cons_zero, List.set_cons_succ]
      refine hs_take (i := 1) (d := some 15) (v := ?_) rfl (by kernel_rfl) (by kernel_rfl) (by kernel_rfl) (by rfl) ?_ hS rfl ?_
      rotate_left
      · intro w' hw
        go_simp
        try with_reducible rfl
      simp only [Act.put, List.setIfInBounds_toArray, List.set_cons_zero, List.set_cons_succ]
      refine hs_take (i := 2) (d := some 16) (v := ?_) rfl (by kernel_rfl) (by kernel_rfl) (by kernel_rfl) (by rfl) ?_ hS rfl ?_
      rotate_left
      · intro w' hw
        go_simp
        try with_reducible rfl
      simp only [Act.put, List.setIfInBounds_toArray, List.set_cons_zero, List.set_cons_succ]
      refine hs_take (i := 3) (d := some 17) (v := ?_) rfl (by kernel_rfl) (by kernel_rfl) (by kernel_rfl) (by rfl) ?_ hS rfl ?_
      rotate_left
      · intro w' hw
        go_simp
        try with_reducible rfl
      simp only [Act.put, List.setIfInBounds_toArray, List.set_cons_zero, List.set_cons_succ]
      refine hs_take (i := 4) (d := some 18) (v := ?_) rfl (by kernel_rfl) (by kernel_rfl) (by kernel_rfl) (by rfl) ?_ hS rfl ?_
      rotate_left
      · intro w' hw
        go_simp
        try with_reducible rfl
      simp only [Act.put, List.setIfInBounds_toArray, List.set_cons_zero, List.set_cons_succ]
      refine hs_take (i := 5) (d := some 19) (v := ?_) rfl (by kernel_rfl) (by kernel_rfl) (by kernel_rfl) (by rfl) ?_ hS rfl ?_
      rotate_left
      · intro w' hw
        have hc := r8 w' hw
        go_simp
        try with_reducible rfl
      simp only [Act.put, List.setIfInBounds_toArray, List.set_cons_zero, List.set_cons_succ]
      refine hs_take (i := 6) (d := some 20) (v := ?_) rfl (by kernel_rfl) (by kernel_rfl) (by kernel_rfl) (by rfl) ?_ hS rfl ?_
      rotate_left
      · intro w' hw
        go_simp
        try with_reducible rfl
      simp only [Act.put, List.setIfInBounds_toArray, List.set_cons_zero, List.set_cons_succ]
      refine hs_call (i := 7) (d := some 21) rfl (by kernel_rfl) (by rfl) (by go_simp; first | done | exact ⟨rfl, rfl⟩ | with_reducible rfl) rfl ?_
      refine (cU w8 B8).mono ?_
      rintro e' w9 ⟨rfl, hb9, -⟩
      have hS : (Below w8.heap.size w8) w9 := hb9
      refine ⟨_, rfl, hS, ?_⟩
      simp only [Act.put, List.setIfInBounds_toArray, List.set_cons_zero, List.set_cons_succ]
      refine hs_take (i := 8) (d := some 22) (v := ?_) rfl (by kernel_rfl) (by kernel_rfl) (by kernel_rfl) (by rfl) ?_ hS rfl ?_
      rotate_left
      · intro w' hw
        go_simp
        try with_reducible rfl
      simp only [Act.put, List.setIfInBounds_toArray, List.set_cons_zero, List.set_cons_succ]
      have hroom := HR.out
      refine hs_take (i := 9) (d := some 23) (v := .bool false) rfl (by kernel_rfl) (by kernel_rfl) (by kernel_rfl) (by rfl) (fun w' hw => by go_simp) hS rfl ?_
      simp only [Act.put, List.setIfInBounds_toArray, List.set_cons_zero, List.set_cons_succ]
      refine hs_done (by kernel_rfl) ?_
      have B9 := B8.trans (hS.mono B8.size)
      have c3 := c2 _ B9
      clear hroom hwr cU q0 r8 hS c2
      go_wp2_with fail
      refine c3.mono ?_
      rintro e w' ⟨rfl, ⟨r1, aa1, ca1, ab1, cb1, x1, y1⟩, p1, h1, o1, n1⟩
      obtain rfl : r1 = t.r := p1
      have hroomC := HC.out
      clear c3
      have hok2 := h1.ok.put zs hz.2.1 (by have := hroomC; omega) false
      have hzz : ∀ z ∈ M.count.a ++ zs, 0 ≤ z ∧ z < 256 := hok2.za
      have hlen : M.count.a.length + zs.length ≤ 1073741824 := by
        have e1 := hok2.rm
        have e2 := hok2.rl
        simp only [Mt.put, Mt.setA, Mt.get, List.length_append] at e1 e2
        omega
      have hmm : 0 + M.count.a.length ≤ 100000000000 := by omega
      have HX : Hid (∀ W1 na ncap, Below w'.heap.size w' W1 → RowN W1 t.r na ncap (M.count.a ++ zs) → (∀ x, na = some x → w'.heap.size ≤ x.block) → RTurned w (W1.setCell ⟨t.r, 1, none⟩ (.slice na (M.count.a.length + zs.length) ncap)) t (Mt.put zs false M.count)) := hide (fun W1 na ncap hb hr hn => by
        have e : rcells ⟨t.r, na, ncap, ab1, cb1, x1, y1⟩ (Mt.put zs false M.count) = (rcells ⟨t.r, aa1, ca1, ab1, cb1, x1, y1⟩ M.count).set 1 (.slice na (M.count.a.length + zs.length) ncap) := by
          rw [← List.length_append]; rfl
        refine RTurned.trans (t1 := t) rfl (Off.of_below B9) (fun _ q => .inl q) (RTurned.trans (t1 := ⟨t.r, aa1, ca1, ab1, cb1, x1, y1⟩) rfl o1 n1 (RTurned.of_cells (t := ⟨t.r, aa1, ca1, ab1, cb1, x1, y1⟩) (t' := ⟨t.r, na, ncap, ab1, cb1, x1, y1⟩) hb ?_ rfl hr (h1.below hb).rb (fun x hx => .inr (hn x hx)) (fun x hx => .inl (.inr (.inr ⟨x, hx, rfl⟩))) h1.px hok2))
        rw [e]
        exact (CellsR.start (h1.below hb)).set 1 _)
      go_wp2_with fail
      obtain ⟨wX, hwX⟩ : ∃ wX, w'.drew = wX := ⟨_, rfl⟩
      have hBX : Below w'.heap.size w' wX := by rw [← hwX]; exact (Below.refl _ _).drew
      have hX := h1.below hBX
      have hbA : Below wX.heap.size wX (wX.alloc (.cells #[] 5)) := (Below.refl _ _).alloc (Nat.le_refl _) _
      have kB : ∀ W, Below wX.heap.size wX W → W.cell? ⟨t.r, 1, none⟩ = some (.slice aa1 M.count.a.length ca1) := fun W hW => (hX.below hW).cell 1 rfl
      have hrow : RowAt (wX.alloc (.cells #[] 5)) aa1 M.count.a := (hX.below hbA).ra.row
      have hzX : RowAt wX a zs := ((hz.below B9).off o1 hne).below hBX
      refine hs_begin (S := (fun _ : World => True)) 16 rfl (by kernel_rfl) ?_
      rw [hwX]
      clear hwX
      have hS : (fun _ : World => True) wX := trivial
      refine hs_take (i := 0) (d := some 29) (v := ?_) rfl (by kernel_rfl) (by kernel_rfl) (by kernel_rfl) (by rfl) ?_ hS rfl ?_
      rotate_left
      · intro w' hw
        go_simp
        try with_reducible rfl
      simp only [Act.put, List.setIfInBounds_toArray, List.set_cons_zero, List.set_cons_succ]
      refine hs_take (i := 1) (d := some 30) (v := ?_) rfl (by kernel_rfl) (by kernel_rfl) (by kernel_rfl) (by rfl) ?_ hS rfl ?_
      rotate_left
      · intro w' hw
        go_simp
        try with_reducible rfl
      simp only [Act.put, List.setIfInBounds_toArray, List.set_cons_zero, List.set_cons_succ]
      refine hs_take (i := 3) (d := some 32) (v := ?_) rfl (by kernel_rfl) (by kernel_rfl) (by kernel_rfl) (by rfl) ?_ hS rfl ?_
      rotate_left
      · intro w' hw
        go_simp
        try with_reducible rfl
      simp only [Act.put, List.setIfInBounds_toArray, List.set_cons_zero, List.set_cons_succ]
      refine hs_take (i := 4) (d := some 33) (v := ?_) rfl (by kernel_rfl) (by kernel_rfl) (by kernel_rfl) (by rfl) ?_ hS rfl ?_
      rotate_left
      · intro w' hw
        go_simp
        try with_reducible rfl
      simp only [Act.put, List.setIfInBounds_toArray, List.set_cons_zero, List.set_cons_succ]
      refine hs_take (i := 5) (d := some 34) (v := ?_) rfl (by kernel_rfl) (by kernel_rfl) (by kernel_rfl) (by rfl) ?_ hS rfl ?_
      rotate_left
      · intro w' hw
        go_simp
        try with_reducible rfl
      simp only [Act.put, List.setIfInBounds_toArray, List.set_cons_zero, List.set_cons_succ]
      refine hs_take (i := 6) (d := some 35) (v := ?_) rfl (by kernel_rfl) (by kernel_rfl) (by kernel_rfl) (by rfl) ?_ hS rfl ?_
      rotate_left
      · intro w' hw
        go_simp
        try with_reducible rfl
      simp only [Act.put, List.setIfInBounds_toArray, List.set_cons_zero, List.set_cons_succ]
      refine hs_take (i := 7) (d := some 36) (v := ?_) rfl (by kernel_rfl) (by kernel_rfl) (by kernel_rfl) (by rfl) ?_ hS rfl ?_
      rotate_left
      · intro w' hw
        go_simp
        try with_reducible rfl
      simp only [Act.put, List.setIfInBounds_toArray, List.set_cons_zero, List.set_cons_succ]
      refine hs_take (i := 10) (d := some 39) (v := ?_) rfl (by kernel_rfl) (by kernel_rfl) (by kernel_rfl) (by rfl) ?_ hS rfl ?_
      rotate_left
      · intro w' hw
        go_simp
        try with_reducible rfl
      simp only [Act.put, List.setIfInBounds_toArray, List.set_cons_zero, List.set_cons_succ]
      refine hs_take (i := 12) (d := some 41) (v := ?_) rfl (by kernel_rfl) (by kernel_rfl) (by kernel_rfl) (by rfl) ?_ hS rfl ?_
      rotate_left
      · intro w' hw
        go_simp
        try with_reducible rfl
      simp only [Act.put, List.setIfInBounds_toArray, List.set_cons_zero, List.set_cons_succ]
      refine hs_take (i := 13) (d := some 42) (v := ?_) rfl (by kernel_rfl) (by kernel_rfl) (by kernel_rfl) (by rfl) ?_ hS rfl ?_
      rotate_left
      · intro w' hw
        go_simp
        try with_reducible rfl
      simp only [Act.put, List.setIfInBounds_toArray, List.set_cons_zero, List.set_cons_succ]
      refine hs_forkL (l := [2, 8]) (by kernel_rfl) (by simp) ?_
      intro ii hii
      simp only [List.mem_cons, List.not_mem_nil, or_false] at hii
      rcases hii with rfl | rfl
      · refine st_runX (i := 2) (d := some 31) rfl (by rfl) rfl (ex_bs0 rfl) ?_
        rintro vB W' ⟨rfl, rfl⟩
        refine ⟨trivial, ?_⟩
        simp only [Act.put, List.setIfInBounds_toArray, List.set_cons_zero, List.set_cons_succ]
        refine hs_runX (i := 8) (d := some 37) rfl (by kernel_rfl) (by rfl) rfl (ex_load rfl rfl (kB _ hbA)) ?_
        rintro vA W' ⟨rfl, hx⟩
        obtain rfl := hx.symm
        clear hx
        refine ⟨trivial, ?_⟩
        simp only [Act.put, List.setIfInBounds_toArray, List.set_cons_zero, List.set_cons_succ]
        refine hs_runX (i := 9) (d := some 38) rfl (by kernel_rfl) (by rfl) rfl (ex_append rfl rfl rfl (owns_new0 wX) (by simp) hrow hmm) ?_
        rintro vC W' ⟨hownC, hgrC⟩
        have hBC := below_gr hbA (by simp) (owns_new0 wX) hgrC
        refine ⟨trivial, ?_⟩
        simp only [Act.put, List.setIfInBounds_toArray, List.set_cons_zero, List.set_cons_succ]
        refine hs_runX (i := 11) (d := some 40) rfl (by kernel_rfl) (by rfl) rfl (ex_append rfl rfl rfl hownC hBC.size (hzX.below hBC) (by omega)) ?_
        rintro vD W' ⟨hownD, hgrD⟩
        have hBD := below_gr hBC hBC.size hownC hgrD
        have hownD2 : W'.ownsRow wX.heap.size 5 1 vD (M.count.a.length + zs.length) (v8 (M.count.a ++ zs)) := by
          rw [v8_append]
          simpa using hownD
        refine ⟨trivial, ?_⟩
        simp only [Act.put, List.setIfInBounds_toArray, List.set_cons_zero, List.set_cons_succ]
        obtain ⟨na, ncap, rfl, hRN, hNB⟩ := row_new hownD2 List.length_append (R := t.r) hX.lt hzz (by omega)
        refine hs_take (i := 14) (d := some 43) (v := ?_) rfl (by kernel_rfl) (by kernel_rfl) (by kernel_rfl) (by rfl) ?_ hS rfl ?_
        rotate_left
        · intro w' hw
          go_simp
          try with_reducible rfl
        simp only [Act.put, List.setIfInBounds_toArray, List.set_cons_zero, List.set_cons_succ]
        have hth : W'.there t.r 0 11 := (hX.below hBD).th
        have hst := run_store1 (P := Try.prog) W' t.r 1 29 (.slice na (M.count.a.length + zs.length) ncap) (by have := there_part hth 1 1 (by omega); rwa [Nat.zero_add] at this) iszBs rfl
        refine hs_store (i := 15) rfl (by kernel_rfl) (by rfl) (exec_storeP rfl rfl rfl hst) rfl trivial ?_
        refine hs_done (by kernel_rfl) ?_
        have HF := hide (HX.out W' na ncap (hBX.trans (hBD.mono hBX.size)) hRN (fun x hx => Nat.le_trans hBX.size (hNB x hx)))
        clear HX hS hst hownD hownD2 hgrD hBD hRN hNB hownC hgrC hBC
        go_wp2_with fail
        go_ret
        exact ⟨rfl, HF.out⟩
      · refine st_runX (i := 8) (d := some 37) rfl (by rfl) rfl (ex_load rfl rfl (kB _ (Below.refl _ _))) ?_
        rintro vA W' ⟨rfl, hx⟩
        obtain rfl := hx.symm
        clear hx
        refine ⟨trivial, ?_⟩
        simp only [Act.put, List.setIfInBounds_toArray, List.set_cons_zero, List.set_cons_succ]
        refine hs_runX (i := 2) (d := some 31) rfl (by kernel_rfl) (by rfl) rfl (ex_bs0 rfl) ?_
        rintro vB W' ⟨rfl, rfl⟩
        refine ⟨trivial, ?_⟩
        simp only [Act.put, List.setIfInBounds_toArray, List.set_cons_zero, List.set_cons_succ]
        refine hs_runX (i := 9) (d := some 38) rfl (by kernel_rfl) (by rfl) rfl (ex_append rfl rfl rfl (owns_new0 wX) (by simp) hrow hmm) ?_
        rintro vC W' ⟨hownC, hgrC⟩
        have hBC := below_gr hbA (by simp) (owns_new0 wX) hgrC
        refine ⟨trivial, ?_⟩
        simp only [Act.put, List.setIfInBounds_toArray, List.set_cons_zero, List.set_cons_succ]
        refine hs_runX (i := 11) (d := some 40) rfl (by kernel_rfl) (by rfl) rfl (ex_append rfl rfl rfl hownC hBC.size (hzX.below hBC) (by omega)) ?_
        rintro vD W' ⟨hownD, hgrD⟩
        have hBD := below_gr hBC hBC.size hownC hgrD
        have hownD2 : W'.ownsRow wX.heap.size 5 1 vD (M.count.a.length + zs.length) (v8 (M.count.a ++ zs)) := by
          rw [v8_append]
          simpa using hownD
        refine ⟨trivial, ?_⟩
        simp only [Act.put, List.setIfInBounds_toArray, List.set_cons_zero, List.set_cons_succ]
        obtain ⟨na, ncap, rfl, hRN, hNB⟩ := row_new hownD2 List.length_append (R := t.r) hX.lt hzz (by omega)
        refine hs_take (i := 14) (d := some 43) (v := ?_) rfl (by kernel_rfl) (by kernel_rfl) (by kernel_rfl) (by rfl) ?_ hS rfl ?_
        rotate_left
        · intro w' hw
          go_simp
          try with_reducible rfl
        simp only [Act.put, List.setIfInBounds_toArray, List.set_cons_zero, List.set_cons_succ]
        have hth : W'.there t.r 0 11 := (hX.below hBD).th
        have hst := run_store1 (P := Try.prog) W' t.r 1 29 (.slice na (M.count.a.length + zs.length) ncap) (by have := there_part hth 1 1 (by omega); rwa [Nat.zero_add] at this) iszBs rfl
        refine hs_store (i := 15) rfl (by kernel_rfl) (by rfl) (exec_storeP rfl rfl rfl hst) rfl trivial ?_
        refine hs_done (by kernel_rfl) ?_
        have HF := hide (HX.out W' na ncap (hBX.trans (hBD.mono hBX.size)) hRN (fun x hx => Nat.le_trans hBX.size (hNB x hx)))
        clear HX hS hst hownD hownD2 hgrD hBD hRN hNB hownC hgrC hBC
        go_wp2_with fail
        go_ret
        exact ⟨rfl, HF.out⟩
    · rw [if_neg (by omega)]
      clear hme hms hroomC hz hne
      go_enter Try.func34, Try.ntmps34
      go_wp2_with fail
      refine c1.mono ?_
      rintro e w' ⟨rfl, hw⟩
      obtain rfl := hw.symm
      clear c1 hw
      go_wp2_with fail
      obtain ⟨w8, hw8⟩ : ∃ w8, w.drew = w8 := ⟨_, rfl⟩
      have B8 : Below w.heap.size w w8 := by rw [← hw8]; exact (Below.refl _ _).drew
      have r8 : ∀ w', Below w8.heap.size w8 w' → w'.cell? ⟨t.r, 0, none⟩ = some (.int .i64 rm) := fun w' hw' => q0 w' (B8.trans (hw'.mono B8.size))
      refine hs_begin (S := (Below w8.heap.size w8)) 10 rfl (by kernel_rfl) ?_
      rw [hw8]
      clear hw8
      have hS : (Below w8.heap.size w8) w8 := Below.refl _ _
      refine hs_take (i := 0) (d := some 14) (v := ?_) rfl (by kernel_rfl) (by kernel_rfl) (by kernel_rfl) (by rfl) ?_ hS rfl ?_
      rotate_left
      · intro w' hw
        go_simp
        try with_reducible rfl
      simp only [Act.put, List.setIfInBounds_toArray, List.set_cons_zero, List.set_cons_succ]
      refine hs_take (i := 1) (d := some 15) (v := ?_) rfl (by kernel_rfl) (by kernel_rfl) (by kernel_rfl) (by rfl) ?_ hS rfl ?_
      rotate_left
      · intro w' hw
        go_simp
        try with_reducible rfl
      simp only [Act.put, List.setIfInBounds_toArray, List.set_cons_zero, List.set_cons_succ]
      refine hs_take (i := 2) (d := some 16) (v := ?_) rfl (by kernel_rfl) (by kernel_rfl) (by kernel_rfl) (by rfl) ?_ hS rfl ?_
      rotate_left
      · intro w' hw
        go_simp
        try with_reducible rfl
      simp only [Act.put, List.setIfInBounds_toArray, List.set_cons_zero, List.set_cons_succ]
      refine hs_take (i := 3) (d := some 17) (v := ?_) rfl (by kernel_rfl) (by kernel_rfl) (by kernel_rfl) (by rfl) ?_ hS rfl ?_
      rotate_left
      · intro w' hw
        go_simp
        try with_reducible rfl
      simp only [Act.put, List.setIfInBounds_toArray, List.set_cons_zero, List.set_cons_succ]
      refine hs_take (i := 4) (d := some 18) (v := ?_) rfl (by kernel_rfl) (by kernel_rfl) (by kernel_rfl) (by rfl) ?_ hS rfl ?_
      rotate_left
      · intro w' hw
        go_simp
        try with_reducible rfl
      simp only [Act.put, List.setIfInBounds_toArray, List.set_cons_zero, List.set_cons_succ]
      refine hs_take (i := 5) (d := some 19) (v := ?_) rfl (by kernel_rfl) (by kernel_rfl) (by kernel_rfl) (by rfl) ?_ hS rfl ?_
      rotate_left
      · intro w' hw
        have hc := r8 w' hw
        go_simp
        try with_reducible rfl
      simp only [Act.put, List.setIfInBounds_toArray, List.set_cons_zero, List.set_cons_succ]
      refine hs_take (i := 6) (d := some 20) (v := ?_) rfl (by kernel_rfl) (by kernel_rfl) (by kernel_rfl) (by rfl) ?_ hS rfl ?_
      rotate_left
      · intro w' hw
        go_simp
        try with_reducible rfl
      simp only [Act.put, List.setIfInBounds_toArray, List.set_cons_zero, List.set_cons_succ]
      refine hs_call (i := 7) (d := some 21) rfl (by kernel_rfl) (by rfl) (by go_simp; first | done | exact ⟨rfl, rfl⟩ | with_reducible rfl) rfl ?_
      refine (cU w8 B8).mono ?_
      rintro e' w9 ⟨rfl, hb9, -⟩
      have hS : (Below w8.heap.size w8) w9 := hb9
      refine ⟨_, rfl, hS, ?_⟩
      simp only [Act.put, List.setIfInBounds_toArray, List.set_cons_zero, List.set_cons_succ]
      refine hs_take (i := 8) (d := some 22) (v := ?_) rfl (by kernel_rfl) (by kernel_rfl) (by kernel_rfl) (by rfl) ?_ hS rfl ?_
      rotate_left
      · intro w' hw
        go_simp
        try with_reducible rfl
      simp only [Act.put, List.setIfInBounds_toArray, List.set_cons_zero, List.set_cons_succ]
      have hroom := HR.out
      refine hs_take (i := 9) (d := some 23) (v := .bool false) rfl (by kernel_rfl) (by kernel_rfl) (by kernel_rfl) (by rfl) (fun w' hw => by go_simp) hS rfl ?_
      simp only [Act.put, List.setIfInBounds_toArray, List.set_cons_zero, List.set_cons_succ]
      refine hs_done (by kernel_rfl) ?_
      have B9 := B8.trans (hS.mono B8.size)
      have c3 := c2 _ B9
      clear hroom hwr cU q0 r8 hS c2
      go_wp2_with fail
      refine c3.mono ?_
      rintro e w' ⟨rfl, hw⟩
      have HF := hide (RTurned.trans (t1 := t) rfl (Off.of_below B9) (fun _ q => .inl q) hw)
      clear c3 hw
      go_wp2_with fail
      go_ret
      exact ⟨rfl, HF.out⟩
set_option maxRecDepth 100000 in
set_option maxHeartbeats 8000000 in
theorem rAppend_1 (t : Rv) (M : Mt) (a : Option Addr) (cap : Nat) (zs : List Int) (w : World) (h : RefAt w t M) (hon : M.on = true) (hz : RowAt w a zs) (hne : zs = [] ∨ ∀ x, a = some x → ¬ (x.block = t.r)) :
    Calls Try.prog 34 #[rptr t, .int .i64 1, .slice a zs.length cap] w fun e w' => e = .returned (.int .i64 (M.append 1 zs).1) ∧ RTurned w w' t (M.append 1 zs).2 := by
  have hfa : M.fault 1 = 0 := fault_on hon (by omega)
  have c1 := rfault_any t M 1 w h
  rw [hfa] at c1
  have hl : zs.length ≤ 9223372036854775807 := by have := hz.1; unfold maxLen at this; omega
  have cU := fun w0 (hb : Below w.heap.size w w0) => rused_any t M w0 (h.below hb)
  have q0 := fun w0 (hb : Below w.heap.size w w0) => (h.below hb).cell 0 rfl
  have hrm := h.ok.rm
  have hrl := h.ok.rl
  have hd := does_may M 1 (Mt.put zs) hfa
  have hmo := may_or M
  have hms := fun q => may_same (M := M) q
  have c2 := fun w0 (hb : Below w.heap.size w w0) => rmay_any t M w0 (h.below hb)
  have ap : M.append 1 zs = if M.room - ((M.a.length : Int) + M.b.length) < zs.length then (151, M) else M.does 1 (Mt.put zs) := if_pos hfa
  rw [ap]
  have HS : Hid (∀ w', Below w.heap.size w w' → RTurned w w' t M) := hide (fun w' hb => RTurned.same h hb)
  have hroomC : ¬ M.room - ((M.a.length : Int) + M.b.length) < zs.length → ¬ M.count.room - ((M.count.a.length : Int) + M.count.b.length) < zs.length := fun q => q
  obtain ⟨us, hus⟩ : ∃ us, Hid (((M.a.length : Int) + M.b.length) = us) := ⟨_, hide rfl⟩
  have hu0 : 0 ≤ us := by rw [← hus.out]; omega
  rw [hus.out] at hrm hroomC ⊢
  simp only [hus.out] at cU
  obtain ⟨rm, hrmE⟩ : ∃ rm, Hid (M.room = rm) := ⟨_, hide rfl⟩
  rw [hrmE.out] at hrm hrl hroomC ⊢
  have q0 : ∀ w0, Below w.heap.size w w0 → w0.cell? ⟨t.r, 0, none⟩ = some (.int .i64 rm) := fun w0 hb => by rw [← hrmE.out]; exact q0 w0 hb
  have hwr : IntKind.i64.wrap (rm - us) = rm - us := by rw [IntKind.wrap_i64]; omega
  unfold rptr at *
  clear ap
  by_cases hroom : rm - us < zs.length
  · rw [if_pos hroom]
    have HR := hide hroom
    clear hroom hroomC hd hmo hms c2 h hz hne
    go_enter Try.func34, Try.ntmps34
    go_wp2_with fail
    refine c1.mono ?_
    rintro e w' ⟨rfl, hw⟩
    obtain rfl := hw.symm
    clear c1 hw
    go_wp2_with fail
    obtain ⟨w8, hw8⟩ : ∃ w8, w.drew = w8 := ⟨_, rfl⟩
    have B8 : Below w.heap.size w w8 := by rw [← hw8]; exact (Below.refl _ _).drew
    have r8 : ∀ w', Below w8.heap.size w8 w' → w'.cell? ⟨t.r, 0, none⟩ = some (.int .i64 rm) := fun w' hw' => q0 w' (B8.trans (hw'.mono B8.size))
    refine hs_begin (S := (Below w8.heap.size w8)) 10 rfl (by kernel_rfl) ?_
    rw [hw8]
    clear hw8
    have hS : (Below w8.heap.size w8) w8 := Below.refl _ _
    refine hs_take (i := 0) (d := some 14) (v := ?_) rfl (by kernel_rfl) (by kernel_rfl) (by kernel_rfl) (by rfl) ?_ hS rfl ?_
    rotate_left
    · intro w' hw
      go_simp
      try with_reducible rfl
    simp only [Act.put, List.setIfInBounds_toArray, List.set_cons_zero, List.set_cons_succ]
    refine hs_take (i := 1) (d := some 15) (v := ?_) rfl (by kernel_rfl) (by kernel_rfl) (by kernel_rfl) (by rfl) ?_ hS rfl ?_
    rotate_left
    · intro w' hw
      go_simp
      try with_reducible rfl
    simp only [Act.put, List.setIfInBounds_toArray, List.set_cons_zero, List.set_cons_succ]
    refine hs_take (i := 2) (d := some 16) (v := ?_) rfl (by kernel_rfl) (by kernel_rfl) (by kernel_rfl) (by rfl) ?_ hS rfl ?_
    rotate_left
    · intro w' hw
      go_simp
      try with_reducible rfl
    simp only [Act.put, List.setIfInBounds_toArray, List.set_cons_zero, List.set_cons_succ]
    refine hs_take (i := 3) (d := some 17) (v := ?_) rfl (by kernel_rfl) (by kernel_rfl) (by kernel_rfl) (by rfl) ?_ hS rfl ?_
    rotate_left
    · intro w' hw
      go_simp
      try with_reducible rfl
    simp only [Act.put, List.setIfInBounds_toArray, List.set_cons_zero, List.set_cons_succ]
    refine hs_take (i := 4) (d := some 18) (v := ?_) rfl (by kernel_rfl) (by kernel_rfl) (by kernel_rfl) (by rfl) ?_ hS rfl ?_
    rotate_left
    · intro w' hw
      go_simp
      try with_reducible rfl
    simp only [Act.put, List.setIfInBounds_toArray, List.set_cons_zero, List.set_cons_succ]
    refine hs_take (i := 5) (d := some 19) (v := ?_) rfl (by kernel_rfl) (by kernel_rfl) (by kernel_rfl) (by rfl) ?_ hS rfl ?_
    rotate_left
    · intro w' hw
      have hc := r8 w' hw
      go_simp
      try with_reducible rfl
    simp only [Act.put, List.setIfInBounds_toArray, List.set_cons_zero, List.set_cons_succ]
    refine hs_take (i := 6) (d := some 20) (v := ?_) rfl (by kernel_rfl) (by kernel_rfl) (by kernel_rfl) (by rfl) ?_ hS rfl ?_
    rotate_left
    · intro w' hw
      go_simp
      try with_reducible rfl
    simp only [Act.put, List.setIfInBounds_toArray, List.set_cons_zero, List.set_cons_succ]
    refine hs_call (i := 7) (d := some 21) rfl (by kernel_rfl) (by rfl) (by go_simp; first | done | exact ⟨rfl, rfl⟩ | with_reducible rfl) rfl ?_
    refine (cU w8 B8).mono ?_
    rintro e' w9 ⟨rfl, hb9, -⟩
    have hS : (Below w8.heap.size w8) w9 := hb9
    refine ⟨_, rfl, hS, ?_⟩
    simp only [Act.put, List.setIfInBounds_toArray, List.set_cons_zero, List.set_cons_succ]
    refine hs_take (i := 8) (d := some 22) (v := ?_) rfl (by kernel_rfl) (by kernel_rfl) (by kernel_rfl) (by rfl) ?_ hS rfl ?_
    rotate_left
    · intro w' hw
      go_simp
      try with_reducible rfl
    simp only [Act.put, List.setIfInBounds_toArray, List.set_cons_zero, List.set_cons_succ]
    have hroom := HR.out
    refine hs_take (i := 9) (d := some 23) (v := .bool true) rfl (by kernel_rfl) (by kernel_rfl) (by kernel_rfl) (by rfl) (fun w' hw => by go_simp) hS rfl ?_
    simp only [Act.put, List.setIfInBounds_toArray, List.set_cons_zero, List.set_cons_succ]
    refine hs_done (by kernel_rfl) ?_
    have B9 := B8.trans (hS.mono B8.size)
    clear hroom hwr cU q0 r8 hS
    go_wp2_with fail
    go_ret
    exact ⟨rfl, HS.out _ B9⟩
  · rw [if_neg hroom, hd, show decide ((1 : Int) = 1) = true from rfl]
    have hroomC := hroomC hroom
    have HR := hide hroom
    obtain ⟨me, hme⟩ : ∃ me, M.may = me := ⟨_, rfl⟩
    obtain ⟨mE, mM⟩ := me
    simp only [hme] at c2 hmo hms ⊢
    clear hroom hd HS
    rcases hmo with rfl | rfl
    · rw [if_pos rfl]
      obtain rfl := hms rfl
      have HC := hide hroomC
      clear hme hms hroomC
      go_enter Try.func34, Try.ntmps34
      go_wp2_with fail
      refine c1.mono ?_
      rintro e w' ⟨rfl, hw⟩
      obtain rfl := hw.symm
      clear c1 hw
      go_wp2_with fail
      obtain ⟨w8, hw8⟩ : ∃ w8, w.drew = w8 := ⟨_, rfl⟩
      have B8 : Below w.heap.size w w8 := by rw [← hw8]; exact (Below.refl _ _).drew
      have r8 : ∀ w', Below w8.heap.size w8 w' → w'.cell? ⟨t.r, 0, none⟩ = some (.int .i64 rm) := fun w' hw' => q0 w' (B8.trans (hw'.mono B8.size))
      refine hs_begin (S := (Below w8.heap.size w8)) 10 rfl (by kernel_rfl) ?_
      rw [hw8]
      clear hw8
      have hS : (Below w8.heap.size w8) w8 := Below.refl _ _
      refine hs_take (i := 0) (d := some 14) (v := ?_) rfl (by kernel_rfl) (by kernel_rfl) (by kernel_rfl) (by rfl) ?_ hS rfl ?_
      rotate_left
      · intro w' hw
        go_simp
        try with_reducible rfl
      simp only [Act.put, List.setIfInBounds_toArray, List.set_cons_zero, List.set_cons_succ]
      refine hs_take (i := 1) (d := some 15) (v := ?_) rfl (by kernel_rfl) (by kernel_rfl) (by kernel_rfl) (by rfl) ?_ hS rfl ?_
      rotate_left
      · intro w' hw
        go_simp
        try with_reducible rfl
      simp only [Act.put, List.setIfInBounds_toArray, List.set_cons_zero, List.set_cons_succ]
      refine hs_take (i := 2) (d := some 16) (v := ?_) rfl (by kernel_rfl) (by kernel_rfl) (by kernel_rfl) (by rfl) ?_ hS rfl ?_
      rotate_left
      · intro w' hw
        go_simp
        try with_reducible rfl
      simp only [Act.put, List.setIfInBounds_toArray, List.set_cons_zero, List.set_cons_succ]
      refine hs_take (i := 3) (d := some 17) (v := ?_) rfl (by kernel_rfl) (by kernel_rfl) (by kernel_rfl) (by rfl) ?_ hS rfl ?_
      rotate_left
      · intro w' hw
        go_simp
        try with_reducible rfl
      simp only [Act.put, List.setIfInBounds_toArray, List.set_cons_zero, List.set_cons_succ]
      refine hs_take (i := 4) (d := some 18) (v := ?_) rfl (by kernel_rfl) (by kernel_rfl) (by kernel_rfl) (by rfl) ?_ hS rfl ?_
      rotate_left
      · intro w' hw
        go_simp
        try with_reducible rfl
      simp only [Act.put, List.setIfInBounds_toArray, List.set_cons_zero, List.set_cons_succ]
      refine hs_take (i := 5) (d := some 19) (v := ?_) rfl (by kernel_rfl) (by kernel_rfl) (by kernel_rfl) (by rfl) ?_ hS rfl ?_
      rotate_left
      · intro w' hw
        have hc := r8 w' hw
        go_simp
        try with_reducible rfl
      simp only [Act.put, List.setIfInBounds_toArray, List.set_cons_zero, List.set_cons_succ]
      refine hs_take (i := 6) (d := some 20) (v := ?_) rfl (by kernel_rfl) (by kernel_rfl) (by kernel_rfl) (by rfl) ?_ hS rfl ?_
      rotate_left
      · intro w' hw
        go_simp
        try with_reducible rfl
      simp only [Act.put, List.setIfInBounds_toArray, List.set_cons_zero, List.set_cons_succ]
      refine hs_call (i := 7) (d := some 21) rfl (by kernel_rfl) (by rfl) (by go_simp; first | done | exact ⟨rfl, rfl⟩ | with_reducible rfl) rfl ?_
      refine (cU w8 B8).mono ?_
      rintro e' w9 ⟨rfl, hb9, -⟩
      have hS : (Below w8.heap.size w8) w9 := hb9
      refine ⟨_, rfl, hS, ?_⟩
      simp only [Act.put, List.setIfInBounds_toArray, List.set_cons_zero, List.set_cons_succ]
      refine hs_take (i := 8) (d := some 22) (v := ?_) rfl (by kernel_rfl) (by kernel_rfl) (by kernel_rfl) (by rfl) ?_ hS rfl ?_
      rotate_left
      · intro w' hw
        go_simp
        try with_reducible rfl
      simp only [Act.put, List.setIfInBounds_toArray, List.set_cons_zero, List.set_cons_succ]
      have hroom := HR.out
      refine hs_take (i := 9) (d := some 23) (v := .bool false) rfl (by kernel_rfl) (by kernel_rfl) (by kernel_rfl) (by rfl) (fun w' hw => by go_simp) hS rfl ?_
      simp only [Act.put, List.setIfInBounds_toArray, List.set_cons_zero, List.set_cons_succ]
      refine hs_done (by kernel_rfl) ?_
      have B9 := B8.trans (hS.mono B8.size)
      have c3 := c2 _ B9
      clear hroom hwr cU q0 r8 hS c2
      go_wp2_with fail
      refine c3.mono ?_
      rintro e w' ⟨rfl, ⟨r1, aa1, ca1, ab1, cb1, x1, y1⟩, p1, h1, o1, n1⟩
      obtain rfl : r1 = t.r := p1
      have hroomC := HC.out
      clear c3
      have hok2 := h1.ok.put zs hz.2.1 (by have := hroomC; omega) true
      have hzz : ∀ z ∈ M.count.b ++ zs, 0 ≤ z ∧ z < 256 := hok2.zb
      have hlen : M.count.b.length + zs.length ≤ 1073741824 := by
        have e1 := hok2.rm
        have e2 := hok2.rl
        simp only [Mt.put, Mt.setA, Mt.get, List.length_append] at e1 e2
        omega
      have hmm : 0 + M.count.b.length ≤ 100000000000 := by omega
      have HX : Hid (∀ W1 na ncap, Below w'.heap.size w' W1 → RowN W1 t.r na ncap (M.count.b ++ zs) → (∀ x, na = some x → w'.heap.size ≤ x.block) → RTurned w (W1.setCell ⟨t.r, 2, none⟩ (.slice na (M.count.b.length + zs.length) ncap)) t (Mt.put zs true M.count)) := hide (fun W1 na ncap hb hr hn => by
        have e : rcells ⟨t.r, aa1, ca1, na, ncap, x1, y1⟩ (Mt.put zs true M.count) = (rcells ⟨t.r, aa1, ca1, ab1, cb1, x1, y1⟩ M.count).set 2 (.slice na (M.count.b.length + zs.length) ncap) := by
          rw [← List.length_append]; rfl
        refine RTurned.trans (t1 := t) rfl (Off.of_below B9) (fun _ q => .inl q) (RTurned.trans (t1 := ⟨t.r, aa1, ca1, ab1, cb1, x1, y1⟩) rfl o1 n1 (RTurned.of_cells (t := ⟨t.r, aa1, ca1, ab1, cb1, x1, y1⟩) (t' := ⟨t.r, aa1, ca1, na, ncap, x1, y1⟩) hb ?_ rfl (h1.below hb).ra hr (fun x hx => .inl (.inr (.inl ⟨x, hx, rfl⟩))) (fun x hx => .inr (hn x hx)) h1.px hok2))
        rw [e]
        exact (CellsR.start (h1.below hb)).set 2 _)
      go_wp2_with fail
      obtain ⟨wX, hwX⟩ : ∃ wX, w'.drew = wX := ⟨_, rfl⟩
      have hBX : Below w'.heap.size w' wX := by rw [← hwX]; exact (Below.refl _ _).drew
      have hX := h1.below hBX
      have hbA : Below wX.heap.size wX (wX.alloc (.cells #[] 5)) := (Below.refl _ _).alloc (Nat.le_refl _) _
      have kB : ∀ W, Below wX.heap.size wX W → W.cell? ⟨t.r, 2, none⟩ = some (.slice ab1 M.count.b.length cb1) := fun W hW => (hX.below hW).cell 2 rfl
      have hrow : RowAt (wX.alloc (.cells #[] 5)) ab1 M.count.b := (hX.below hbA).rb.row
      have hzX : RowAt wX a zs := ((hz.below B9).off o1 hne).below hBX
      refine hs_begin (S := (fun _ : World => True)) 16 rfl (by kernel_rfl) ?_
      rw [hwX]
      clear hwX
      have hS : (fun _ : World => True) wX := trivial
      refine hs_take (i := 0) (d := some 29) (v := ?_) rfl (by kernel_rfl) (by kernel_rfl) (by kernel_rfl) (by rfl) ?_ hS rfl ?_
      rotate_left
      · intro w' hw
        go_simp
        try with_reducible rfl
      simp only [Act.put, List.setIfInBounds_toArray, List.set_cons_zero, List.set_cons_succ]
      refine hs_take (i := 1) (d := some 30) (v := ?_) rfl (by kernel_rfl) (by kernel_rfl) (by kernel_rfl) (by rfl) ?_ hS rfl ?_
      rotate_left
      · intro w' hw
        go_simp
        try with_reducible rfl
      simp only [Act.put, List.setIfInBounds_toArray, List.set_cons_zero, List.set_cons_succ]
      refine hs_take (i := 3) (d := some 32) (v := ?_) rfl (by kernel_rfl) (by kernel_rfl) (by kernel_rfl) (by rfl) ?_ hS rfl ?_
      rotate_left
      · intro w' hw
        go_simp
        try with_reducible rfl
      simp only [Act.put, List.setIfInBounds_toArray, List.set_cons_zero, List.set_cons_succ]
      refine hs_take (i := 4) (d := some 33) (v := ?_) rfl (by kernel_rfl) (by kernel_rfl) (by kernel_rfl) (by rfl) ?_ hS rfl ?_
      rotate_left
      · intro w' hw
        go_simp
        try with_reducible rfl
      simp only [Act.put, List.setIfInBounds_toArray, List.set_cons_zero, List.set_cons_succ]
      refine hs_take (i := 5) (d := some 34) (v := ?_) rfl (by kernel_rfl) (by kernel_rfl) (by kernel_rfl) (by rfl) ?_ hS rfl ?_
      rotate_left
      · intro w' hw
        go_simp
        try with_reducible rfl
      simp only [Act.put, List.setIfInBounds_toArray, List.set_cons_zero, List.set_cons_succ]
      refine hs_take (i := 6) (d := some 35) (v := ?_) rfl (by kernel_rfl) (by kernel_rfl) (by kernel_rfl) (by rfl) ?_ hS rfl ?_
      rotate_left
      · intro w' hw
        go_simp
        try with_reducible rfl
      simp only [Act.put, List.setIfInBounds_toArray, List.set_cons_zero, List.set_cons_succ]
      refine hs_take (i := 7) (d := some 36) (v := ?_) rfl (by kernel_rfl) (by kernel_rfl) (by kernel_rfl) (by rfl) ?_ hS rfl ?_
      rotate_left
      · intro w' hw
        go_simp
        try with_reducible rfl
      simp only [Act.put, List.setIfInBounds_toArray, List.set_cons_zero, List.set_cons_succ]
      refine hs_take (i := 10) (d := some 39) (v := ?_) rfl (by kernel_rfl) (by kernel_rfl) (by kernel_rfl) (by rfl) ?_ hS rfl ?_
      rotate_left
      · intro w' hw
        go_simp
        try with_reducible rfl
      simp only [Act.put, List.setIfInBounds_toArray, List.set_cons_zero, List.set_cons_succ]
      refine hs_take (i := 12) (d := some 41) (v := ?_) rfl (by kernel_rfl) (by kernel_rfl) (by kernel_rfl) (by rfl) ?_ hS rfl ?_
      rotate_left
      · intro w' hw
        go_simp
        try with_reducible rfl
      simp only [Act.put, List.setIfInBounds_toArray, List.set_cons_zero, List.set_cons_succ]
      refine hs_take (i := 13) (d := some 42) (v := ?_) rfl (by kernel_rfl) (by kernel_rfl) (by kernel_rfl) (by rfl) ?_ hS rfl ?_
      rotate_left
      · intro w' hw
        go_simp
        try with_reducible rfl
      simp only [Act.put, List.setIfInBounds_toArray, List.set_cons_zero, List.set_cons_succ]
      refine hs_forkL (l := [2, 8]) (by kernel_rfl) (by simp) ?_
      intro ii hii
      simp only [List.mem_cons, List.not_mem_nil, or_false] at hii
      rcases hii with rfl | rfl
      · refine st_runX (i := 2) (d := some 31) rfl (by rfl) rfl (ex_bs0 rfl) ?_
        rintro vB W' ⟨rfl, rfl⟩
        refine ⟨trivial, ?_⟩
        simp only [Act.put, List.setIfInBounds_toArray, List.set_cons_zero, List.set_cons_succ]
        refine hs_runX (i := 8) (d := some 37) rfl (by kernel_rfl) (by rfl) rfl (ex_load rfl rfl (kB _ hbA)) ?_
        rintro vA W' ⟨rfl, hx⟩
        obtain rfl := hx.symm
        clear hx
        refine ⟨trivial, ?_⟩
        simp only [Act.put, List.setIfInBounds_toArray, List.set_cons_zero, List.set_cons_succ]
        refine hs_runX (i := 9) (d := some 38) rfl (by kernel_rfl) (by rfl) rfl (ex_append rfl rfl rfl (owns_new0 wX) (by simp) hrow hmm) ?_
        rintro vC W' ⟨hownC, hgrC⟩
        have hBC := below_gr hbA (by simp) (owns_new0 wX) hgrC
        refine ⟨trivial, ?_⟩
        simp only [Act.put, List.setIfInBounds_toArray, List.set_cons_zero, List.set_cons_succ]
        refine hs_runX (i := 11) (d := some 40) rfl (by kernel_rfl) (by rfl) rfl (ex_append rfl rfl rfl hownC hBC.size (hzX.below hBC) (by omega)) ?_
        rintro vD W' ⟨hownD, hgrD⟩
        have hBD := below_gr hBC hBC.size hownC hgrD
        have hownD2 : W'.ownsRow wX.heap.size 5 1 vD (M.count.b.length + zs.length) (v8 (M.count.b ++ zs)) := by
          rw [v8_append]
          simpa using hownD
        refine ⟨trivial, ?_⟩
        simp only [Act.put, List.setIfInBounds_toArray, List.set_cons_zero, List.set_cons_succ]
        obtain ⟨na, ncap, rfl, hRN, hNB⟩ := row_new hownD2 List.length_append (R := t.r) hX.lt hzz (by omega)
        refine hs_take (i := 14) (d := some 43) (v := ?_) rfl (by kernel_rfl) (by kernel_rfl) (by kernel_rfl) (by rfl) ?_ hS rfl ?_
        rotate_left
        · intro w' hw
          go_simp
          try with_reducible rfl
        simp only [Act.put, List.setIfInBounds_toArray, List.set_cons_zero, List.set_cons_succ]
        have hth : W'.there t.r 0 11 := (hX.below hBD).th
        have hst := run_store1 (P := Try.prog) W' t.r 2 29 (.slice na (M.count.b.length + zs.length) ncap) (by have := there_part hth 2 1 (by omega); rwa [Nat.zero_add] at this) iszBs rfl
        refine hs_store (i := 15) rfl (by kernel_rfl) (by rfl) (exec_storeP rfl rfl rfl hst) rfl trivial ?_
        refine hs_done (by kernel_rfl) ?_
        have HF := hide (HX.out W' na ncap (hBX.trans (hBD.mono hBX.size)) hRN (fun x hx => Nat.le_trans hBX.size (hNB x hx)))
        clear HX hS hst hownD hownD2 hgrD hBD hRN hNB hownC hgrC hBC
        go_wp2_with fail
        go_ret
        exact ⟨rfl, HF.out⟩
      · refine st_runX (i := 8) (d := some 37) rfl (by rfl) rfl (ex_load rfl rfl (kB _ (Below.refl _ _))) ?_
        rintro vA W' ⟨rfl, hx⟩
        obtain rfl := hx.symm
        clear hx
        refine ⟨trivial, ?_⟩
        simp only [Act.put, List.setIfInBounds_toArray, List.set_cons_zero, List.set_cons_succ]
        refine hs_runX (i := 2) (d := some 31) rfl (by kernel_rfl) (by rfl) rfl (ex_bs0 rfl) ?_
        rintro vB W' ⟨rfl, rfl⟩
        refine ⟨trivial, ?_⟩
        simp only [Act.put, List.setIfInBounds_toArray, List.set_cons_zero, List.set_cons_succ]
        refine hs_runX (i := 9) (d := some 38) rfl (by kernel_rfl) (by rfl) rfl (ex_append rfl rfl rfl (owns_new0 wX) (by simp) hrow hmm) ?_
        rintro vC W' ⟨hownC, hgrC⟩
        have hBC := below_gr hbA (by simp) (owns_new0 wX) hgrC
        refine ⟨trivial, ?_⟩
        simp only [Act.put, List.setIfInBounds_toArray, List.set_cons_zero, List.set_cons_succ]
        refine hs_runX (i := 11) (d := some 40) rfl (by kernel_rfl) (by rfl) rfl (ex_append rfl rfl rfl hownC hBC.size (hzX.below hBC) (by omega)) ?_
        rintro vD W' ⟨hownD, hgrD⟩
        have hBD := below_gr hBC hBC.size hownC hgrD
        have hownD2 : W'.ownsRow wX.heap.size 5 1 vD (M.count.b.length + zs.length) (v8 (M.count.b ++ zs)) := by
          rw [v8_append]
          simpa using hownD
        refine ⟨trivial, ?_⟩
        simp only [Act.put, List.setIfInBounds_toArray, List.set_cons_zero, List.set_cons_succ]
        obtain ⟨na, ncap, rfl, hRN, hNB⟩ := row_new hownD2 List.length_append (R := t.r) hX.lt hzz (by omega)
        refine hs_take (i := 14) (d := some 43) (v := ?_) rfl (by kernel_rfl) (by kernel_rfl) (by kernel_rfl) (by rfl) ?_ hS rfl ?_
        rotate_left
        · intro w' hw
          go_simp
          try with_reducible rfl
        simp only [Act.put, List.setIfInBounds_toArray, List.set_cons_zero, List.set_cons_succ]
        have hth : W'.there t.r 0 11 := (hX.below hBD).th
        have hst := run_store1 (P := Try.prog) W' t.r 2 29 (.slice na (M.count.b.length + zs.length) ncap) (by have := there_part hth 2 1 (by omega); rwa [Nat.zero_add] at this) iszBs rfl
        refine hs_store (i := 15) rfl (by kernel_rfl) (by rfl) (exec_storeP rfl rfl rfl hst) rfl trivial ?_
        refine hs_done (by kernel_rfl) ?_
        have HF := hide (HX.out W' na ncap (hBX.trans (hBD.mono hBX.size)) hRN (fun x hx => Nat.le_trans hBX.size (hNB x hx)))
        clear HX hS hst hownD hownD2 hgrD hBD hRN hNB hownC hgrC hBC
        go_wp2_with fail
        go_ret
        exact ⟨rfl, HF.out⟩
    · rw [if_neg (by omega)]
      clear hme hms hroomC hz hne
      go_enter Try.func34, Try.ntmps34
      go_wp2_with fail
      refine c1.mono ?_
      rintro e w' ⟨rfl, hw⟩
      obtain rfl := hw.symm
      clear c1 hw
      go_wp2_with fail
      obtain ⟨w8, hw8⟩ : ∃ w8, w.drew = w8 := ⟨_, rfl⟩
      have B8 : Below w.heap.size w w8 := by rw [← hw8]; exact (Below.refl _ _).drew
      have r8 : ∀ w', Below w8.heap.size w8 w' → w'.cell? ⟨t.r, 0, none⟩ = some (.int .i64 rm) := fun w' hw' => q0 w' (B8.trans (hw'.mono B8.size))
      refine hs_begin (S := (Below w8.heap.size w8)) 10 rfl (by kernel_rfl) ?_
      rw [hw8]
      clear hw8
      have hS : (Below w8.heap.size w8) w8 := Below.refl _ _
      refine hs_take (i := 0) (d := some 14) (v := ?_) rfl (by kernel_rfl) (by kernel_rfl) (by kernel_rfl) (by rfl) ?_ hS rfl ?_
      rotate_left
      · intro w' hw
        go_simp
        try with_reducible rfl
      simp only [Act.put, List.setIfInBounds_toArray, List.set_cons_zero, List.set_cons_succ]
      refine hs_take (i := 1) (d := some 15) (v := ?_) rfl (by kernel_rfl) (by kernel_rfl) (by kernel_rfl) (by rfl) ?_ hS rfl ?_
      rotate_left
      · intro w' hw
        go_simp
        try with_reducible rfl
      simp only [Act.put, List.setIfInBounds_toArray, List.set_cons_zero, List.set_cons_succ]
      refine hs_take (i := 2) (d := some 16) (v := ?_) rfl (by kernel_rfl) (by kernel_rfl) (by kernel_rfl) (by rfl) ?_ hS rfl ?_
      rotate_left
      · intro w' hw
        go_simp
        try with_reducible rfl
      simp only [Act.put, List.setIfInBounds_toArray, List.set_cons_zero, List.set_cons_succ]
      refine hs_take (i := 3) (d := some 17) (v := ?_) rfl (by kernel_rfl) (by kernel_rfl) (by kernel_rfl) (by rfl) ?_ hS rfl ?_
      rotate_left
      · intro w' hw
        go_simp
        try with_reducible rfl
      simp only [Act.put, List.setIfInBounds_toArray, List.set_cons_zero, List.set_cons_succ]
      refine hs_take (i := 4) (d := some 18) (v := ?_) rfl (by kernel_rfl) (by kernel_rfl) (by kernel_rfl) (by rfl) ?_ hS rfl ?_
      rotate_left
      · intro w' hw
        go_simp
        try with_reducible rfl
      simp only [Act.put, List.setIfInBounds_toArray, List.set_cons_zero, List.set_cons_succ]
      refine hs_take (i := 5) (d := some 19) (v := ?_) rfl (by kernel_rfl) (by kernel_rfl) (by kernel_rfl) (by rfl) ?_ hS rfl ?_
      rotate_left
      · intro w' hw
        have hc := r8 w' hw
        go_simp
        try with_reducible rfl
      simp only [Act.put, List.setIfInBounds_toArray, List.set_cons_zero, List.set_cons_succ]
      refine hs_take (i := 6) (d := some 20) (v := ?_) rfl (by kernel_rfl) (by kernel_rfl) (by kernel_rfl) (by rfl) ?_ hS rfl ?_
      rotate_left
      · intro w' hw
        go_simp
        try with_reducible rfl
      simp only [Act.put, List.setIfInBounds_toArray, List.set_cons_zero, List.set_cons_succ]
      refine hs_call (i := 7) (d := some 21) rfl (by kernel_rfl) (by rfl) (by go_simp; first | done | exact ⟨rfl, rfl⟩ | with_reducible rfl) rfl ?_
      refine (cU w8 B8).mono ?_
      rintro e' w9 ⟨rfl, hb9, -⟩
      have hS : (Below w8.heap.size w8) w9 := hb9
      refine ⟨_, rfl, hS, ?_⟩
      simp only [Act.put, List.setIfInBounds_toArray, List.set_cons_zero, List.set_cons_succ]
      refine hs_take (i := 8) (d := some 22) (v := ?_) rfl (by kernel_rfl) (by kernel_rfl) (by kernel_rfl) (by rfl) ?_ hS rfl ?_
      rotate_left
      · intro w' hw
        go_simp
        try with_reducible rfl
      simp only [Act.put, List.setIfInBounds_toArray, List.set_cons_zero, List.set_cons_succ]
      have hroom := HR.out
      refine hs_take (i := 9) (d := some 23) (v := .bool false) rfl (by kernel_rfl) (by kernel_rfl) (by kernel_rfl) (by rfl) (fun w' hw => by go_simp) hS rfl ?_
      simp only [Act.put, List.setIfInBounds_toArray, List.set_cons_zero, List.set_cons_succ]
      refine hs_done (by kernel_rfl) ?_
      have B9 := B8.trans (hS.mono B8.size)
      have c3 := c2 _ B9
      clear hroom hwr cU q0 r8 hS c2
      go_wp2_with fail
      refine c3.mono ?_
      rintro e w' ⟨rfl, hw⟩
      have HF := hide (RTurned.trans (t1 := t) rfl (Off.of_below B9) (fun _ q => .inl q) hw)
      clear c3 hw
      go_wp2_with fail
      go_ret
      exact ⟨rfl, HF.out⟩
theorem rsync_any (t : Rv) (M : Mt) (area : Int) (w : World) (h : RefAt w t M) :
    Calls Try.prog 35 #[rptr t, .int .i64 area] w fun e w' => e = .returned (.int .i64 (M.sync area).1) ∧ RTurned w w' t (M.sync area).2 := by
  by_cases hfa : M.fault area = 0
  · obtain ⟨rfl | rfl, hon⟩ := Mt.fault_ok hfa
    · exact rSync_0 t M w h hon
    · exact rSync_1 t M w h hon
  · exact rSync_no t M area w h hfa
theorem rclear_any (t : Rv) (M : Mt) (area : Int) (w : World) (h : RefAt w t M) :
    Calls Try.prog 36 #[rptr t, .int .i64 area] w fun e w' => e = .returned (.int .i64 (M.empty area).1) ∧ RTurned w w' t (M.empty area).2 := by
  by_cases hfa : M.fault area = 0
  · obtain ⟨rfl | rfl, hon⟩ := Mt.fault_ok hfa
    · exact rClear_0 t M w h hon
    · exact rClear_1 t M w h hon
  · exact rClear_no t M area w h hfa
theorem rappend_any (t : Rv) (M : Mt) (area : Int) (a : Option Addr) (cap : Nat) (zs : List Int) (w : World) (h : RefAt w t M) (hz : RowAt w a zs) (hne : zs = [] ∨ ∀ x, a = some x → ¬ (x.block = t.r)) :
    Calls Try.prog 34 #[rptr t, .int .i64 area, .slice a zs.length cap] w fun e w' => e = .returned (.int .i64 (M.append area zs).1) ∧ RTurned w w' t (M.append area zs).2 := by
  by_cases hfa : M.fault area = 0
  · obtain ⟨rfl | rfl, hon⟩ := Mt.fault_ok hfa
    · exact rAppend_0 t M a cap zs w h hon hz hne
    · exact rAppend_1 t M a cap zs w h hon hz hne
  · exact rAppend_no t M area a cap zs w h hfa
end Go.Proofs.Ytfkchnjbbbhmjaa
