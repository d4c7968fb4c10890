/- are both tapes the same? the walk of TapePlays -/
import Derived.Test.YtfkchnjbbbhmjaaR7
namespace Go.Proofs.Ytfkchnjbbbhmjaa
open Go.RowKit
set_option linter.unusedVariables false
set_option maxRecDepth 100000 in
set_option maxHeartbeats 4000000 in
theorem same_any (t : Tv) (r : Rv) (M : Mt) (A : Nat → Prop) (w : World) (h : Two A w t r M) :
    Calls Try.prog 13 #[tptr t, rptr r] w fun e w' => e = .returned (.bool true) ∧ Below w.heap.size w w' := by
  have cC := counts_any t M w h.tp
  unfold tptr rptr at *
  go_enter Try.func13, Try.ntmps13
  go_wp2_with fail
  refine cC.mono ?_
  rintro e w1 ⟨rfl, hB1⟩
  clear cC
  go_wp2_with fail
  obtain ⟨w8, hw8⟩ : ∃ w8, w1.drew = w8 := ⟨_, rfl⟩
  have B8 : Below w.heap.size w w8 := by rw [← hw8]; exact hB1.drew
  have k8 := h.below B8
  obtain ⟨ob, hob⟩ : ∃ ob, Hid (M.on = ob) := ⟨_, hide rfl⟩
  have x5 : ∀ w', Below w8.heap.size w8 w' → w'.cell? ⟨r.r, 5, none⟩ = some (.bool (!ob)) := fun w' hw' => by rw [← hob.out]; exact (k8.below hw').rf.cell 5 rfl
  have x9 : ∀ w', Below w8.heap.size w8 w' → w'.cell? ⟨r.r, 9, none⟩ = some (.int .i64 M.ops) := fun w' hw' => (k8.below hw').rf.cell 9 rfl
  have x10 : ∀ w', Below w8.heap.size w8 w' → w'.cell? ⟨r.r, 10, none⟩ = some (.int .i64 M.fa) := fun w' hw' => (k8.below hw').rf.cell 10 rfl
  refine hs_begin (S := (Below w8.heap.size w8)) 30 rfl (by kernel_rfl) ?_
  rw [hw8]
  clear hw8
  have hS : (Below w8.heap.size w8) w8 := Below.refl _ _
  refine hs_take (i := 0) (d := some 17) (v := ?_) rfl (by kernel_rfl) (by kernel_rfl) (by kernel_rfl) (by rfl) ?_ hS rfl ?_
  rotate_left
  · intro w' hw
    go_simp
    try with_reducible rfl
  simp only [Act.put, List.setIfInBounds_toArray, List.set_cons_zero, List.set_cons_succ]
  refine hs_take (i := 2) (d := some 19) (v := ?_) rfl (by kernel_rfl) (by kernel_rfl) (by kernel_rfl) (by rfl) ?_ hS rfl ?_
  rotate_left
  · intro w' hw
    go_simp
    try with_reducible rfl
  simp only [Act.put, List.setIfInBounds_toArray, List.set_cons_zero, List.set_cons_succ]
  refine hs_take (i := 3) (d := some 20) (v := ?_) rfl (by kernel_rfl) (by kernel_rfl) (by kernel_rfl) (by rfl) ?_ hS rfl ?_
  rotate_left
  · intro w' hw
    go_simp
    try with_reducible rfl
  simp only [Act.put, List.setIfInBounds_toArray, List.set_cons_zero, List.set_cons_succ]
  refine hs_take (i := 4) (d := some 21) (v := ?_) rfl (by kernel_rfl) (by kernel_rfl) (by kernel_rfl) (by rfl) ?_ hS rfl ?_
  rotate_left
  · intro w' hw
    go_simp
    try with_reducible rfl
  simp only [Act.put, List.setIfInBounds_toArray, List.set_cons_zero, List.set_cons_succ]
  refine hs_take (i := 5) (d := some 22) (v := ?_) rfl (by kernel_rfl) (by kernel_rfl) (by kernel_rfl) (by rfl) ?_ hS rfl ?_
  rotate_left
  · intro w' hw
    have hc := x5 w' hw
    go_simp
    try with_reducible rfl
  simp only [Act.put, List.setIfInBounds_toArray, List.set_cons_zero, List.set_cons_succ]
  refine hs_call (i := 1) (d := some 18) rfl (by kernel_rfl) (by rfl) (by go_simp; first | done | exact ⟨rfl, rfl⟩ | with_reducible rfl) rfl ?_
  refine (on_any t M w8 (k8.below hS).tp).mono ?_
  rintro e' wB ⟨rfl, hx⟩
  have hS : (Below w8.heap.size w8) wB := by rw [hx]; exact hS
  refine ⟨_, rfl, hS, ?_⟩
  simp only [Act.put, List.setIfInBounds_toArray, List.set_cons_zero, List.set_cons_succ]
  obtain rfl := hx.symm
  clear hx
  rw [hob.out]
  refine hs_take (i := 6) (d := some 23) (v := .bool false) rfl (by kernel_rfl) (by kernel_rfl) (by kernel_rfl) (by rfl) (fun w' hw => by cases ob <;> go_simp) hS rfl ?_
  simp only [Act.put, List.setIfInBounds_toArray, List.set_cons_zero, List.set_cons_succ]
  refine hs_take (i := 7) (d := some 24) (v := .bool false) rfl (by kernel_rfl) (by kernel_rfl) (by kernel_rfl) (by rfl) (fun w' hw => by go_simp) hS rfl ?_
  simp only [Act.put, List.setIfInBounds_toArray, List.set_cons_zero, List.set_cons_succ]
  refine hs_take (i := 8) (d := some 25) (v := ?_) rfl (by kernel_rfl) (by kernel_rfl) (by kernel_rfl) (by rfl) ?_ hS rfl ?_
  rotate_left
  · intro w' hw
    go_simp
    try with_reducible rfl
  simp only [Act.put, List.setIfInBounds_toArray, List.set_cons_zero, List.set_cons_succ]
  refine hs_take (i := 10) (d := some 27) (v := ?_) rfl (by kernel_rfl) (by kernel_rfl) (by kernel_rfl) (by rfl) ?_ hS rfl ?_
  rotate_left
  · intro w' hw
    go_simp
    try with_reducible rfl
  simp only [Act.put, List.setIfInBounds_toArray, List.set_cons_zero, List.set_cons_succ]
  refine hs_call (i := 9) (d := some 26) rfl (by kernel_rfl) (by rfl) (by go_simp; first | done | exact ⟨rfl, rfl⟩ | with_reducible rfl) rfl ?_
  refine (used_any t M w8 (k8.below hS).tp).mono ?_
  rintro e' wB ⟨rfl, hx⟩
  have hS : (Below w8.heap.size w8) wB := by rw [hx]; exact hS
  refine ⟨_, rfl, hS, ?_⟩
  simp only [Act.put, List.setIfInBounds_toArray, List.set_cons_zero, List.set_cons_succ]
  obtain rfl := hx.symm
  clear hx
  refine hs_call (i := 11) (d := some 28) rfl (by kernel_rfl) (by rfl) (by go_simp; first | done | exact ⟨rfl, rfl⟩ | with_reducible rfl) rfl ?_
  refine (rused_any r M w8 (k8.below hS).rf).mono ?_
  rintro e' w9 ⟨rfl, hb9, -⟩
  have hS : (Below w8.heap.size w8) w9 := hb9
  refine ⟨_, rfl, hS, ?_⟩
  simp only [Act.put, List.setIfInBounds_toArray, List.set_cons_zero, List.set_cons_succ]
  refine hs_take (i := 12) (d := some 29) (v := .bool false) rfl (by kernel_rfl) (by kernel_rfl) (by kernel_rfl) (by rfl) (fun w' hw => by go_simp) hS rfl ?_
  simp only [Act.put, List.setIfInBounds_toArray, List.set_cons_zero, List.set_cons_succ]
  refine hs_take (i := 13) (d := some 30) (v := .bool false) rfl (by kernel_rfl) (by kernel_rfl) (by kernel_rfl) (by rfl) (fun w' hw => by go_simp) hS rfl ?_
  simp only [Act.put, List.setIfInBounds_toArray, List.set_cons_zero, List.set_cons_succ]
  refine hs_take (i := 14) (d := some 31) (v := .bool false) rfl (by kernel_rfl) (by kernel_rfl) (by kernel_rfl) (by rfl) (fun w' hw => by go_simp) hS rfl ?_
  simp only [Act.put, List.setIfInBounds_toArray, List.set_cons_zero, List.set_cons_succ]
  refine hs_take (i := 15) (d := some 32) (v := ?_) rfl (by kernel_rfl) (by kernel_rfl) (by kernel_rfl) (by rfl) ?_ hS rfl ?_
  rotate_left
  · intro w' hw
    go_simp
    try with_reducible rfl
  simp only [Act.put, List.setIfInBounds_toArray, List.set_cons_zero, List.set_cons_succ]
  refine hs_take (i := 16) (d := some 33) (v := ?_) rfl (by kernel_rfl) (by kernel_rfl) (by kernel_rfl) (by rfl) ?_ hS rfl ?_
  rotate_left
  · intro w' hw
    go_simp
    try with_reducible rfl
  simp only [Act.put, List.setIfInBounds_toArray, List.set_cons_zero, List.set_cons_succ]
  refine hs_take (i := 17) (d := some 34) (v := ?_) rfl (by kernel_rfl) (by kernel_rfl) (by kernel_rfl) (by rfl) ?_ hS rfl ?_
  rotate_left
  · intro w' hw
    go_simp
    try with_reducible rfl
  simp only [Act.put, List.setIfInBounds_toArray, List.set_cons_zero, List.set_cons_succ]
  refine hs_take (i := 18) (d := some 35) (v := ?_) rfl (by kernel_rfl) (by kernel_rfl) (by kernel_rfl) (by rfl) ?_ hS rfl ?_
  rotate_left
  · intro w' hw
    go_simp
    try with_reducible rfl
  simp only [Act.put, List.setIfInBounds_toArray, List.set_cons_zero, List.set_cons_succ]
  refine hs_take (i := 19) (d := some 36) (v := ?_) rfl (by kernel_rfl) (by kernel_rfl) (by kernel_rfl) (by rfl) ?_ hS rfl ?_
  rotate_left
  · intro w' hw
    have hc := x9 w' hw
    go_simp
    try with_reducible rfl
  simp only [Act.put, List.setIfInBounds_toArray, List.set_cons_zero, List.set_cons_succ]
  refine hs_take (i := 20) (d := some 37) (v := .bool false) rfl (by kernel_rfl) (by kernel_rfl) (by kernel_rfl) (by rfl) (fun w' hw => by go_simp) hS rfl ?_
  simp only [Act.put, List.setIfInBounds_toArray, List.set_cons_zero, List.set_cons_succ]
  refine hs_take (i := 21) (d := some 38) (v := .bool false) rfl (by kernel_rfl) (by kernel_rfl) (by kernel_rfl) (by rfl) (fun w' hw => by go_simp) hS rfl ?_
  simp only [Act.put, List.setIfInBounds_toArray, List.set_cons_zero, List.set_cons_succ]
  refine hs_take (i := 22) (d := some 39) (v := .bool false) rfl (by kernel_rfl) (by kernel_rfl) (by kernel_rfl) (by rfl) (fun w' hw => by go_simp) hS rfl ?_
  simp only [Act.put, List.setIfInBounds_toArray, List.set_cons_zero, List.set_cons_succ]
  refine hs_take (i := 23) (d := some 40) (v := ?_) rfl (by kernel_rfl) (by kernel_rfl) (by kernel_rfl) (by rfl) ?_ hS rfl ?_
  rotate_left
  · intro w' hw
    go_simp
    try with_reducible rfl
  simp only [Act.put, List.setIfInBounds_toArray, List.set_cons_zero, List.set_cons_succ]
  refine hs_take (i := 24) (d := some 41) (v := ?_) rfl (by kernel_rfl) (by kernel_rfl) (by kernel_rfl) (by rfl) ?_ hS rfl ?_
  rotate_left
  · intro w' hw
    go_simp
    try with_reducible rfl
  simp only [Act.put, List.setIfInBounds_toArray, List.set_cons_zero, List.set_cons_succ]
  refine hs_take (i := 25) (d := some 42) (v := ?_) rfl (by kernel_rfl) (by kernel_rfl) (by kernel_rfl) (by rfl) ?_ hS rfl ?_
  rotate_left
  · intro w' hw
    go_simp
    try with_reducible rfl
  simp only [Act.put, List.setIfInBounds_toArray, List.set_cons_zero, List.set_cons_succ]
  refine hs_take (i := 26) (d := some 43) (v := ?_) rfl (by kernel_rfl) (by kernel_rfl) (by kernel_rfl) (by rfl) ?_ hS rfl ?_
  rotate_left
  · intro w' hw
    go_simp
    try with_reducible rfl
  simp only [Act.put, List.setIfInBounds_toArray, List.set_cons_zero, List.set_cons_succ]
  refine hs_take (i := 27) (d := some 44) (v := ?_) rfl (by kernel_rfl) (by kernel_rfl) (by kernel_rfl) (by rfl) ?_ hS rfl ?_
  rotate_left
  · intro w' hw
    have hc := x10 w' hw
    go_simp
    try with_reducible rfl
  simp only [Act.put, List.setIfInBounds_toArray, List.set_cons_zero, List.set_cons_succ]
  refine hs_take (i := 28) (d := some 45) (v := .bool false) rfl (by kernel_rfl) (by kernel_rfl) (by kernel_rfl) (by rfl) (fun w' hw => by go_simp) hS rfl ?_
  simp only [Act.put, List.setIfInBounds_toArray, List.set_cons_zero, List.set_cons_succ]
  refine hs_take (i := 29) (d := some 46) (v := .bool false) rfl (by kernel_rfl) (by kernel_rfl) (by kernel_rfl) (by rfl) (fun w' hw => by go_simp) hS rfl ?_
  simp only [Act.put, List.setIfInBounds_toArray, List.set_cons_zero, List.set_cons_succ]
  refine hs_done (by kernel_rfl) ?_
  have B9 := B8.trans (hS.mono B8.size)
  clear hS x5 x9 x10 hb9 hob
  go_wp2_with fail
  go_loopw [7] (fun iv wr => ∃ z : Int, -1 ≤ z ∧ z ≤ 3 ∧ iv = .int .i64 z ∧ Below w.heap.size w wr) (fun iv _ => (3 - intOf iv).toNat)
  case atStart => exact ⟨-1, by omega, by omega, rfl, B9⟩
  case round =>
    clear B9
    obtain ⟨z, hz0, hz1, rfl, hB⟩ := hrel
    obtain ⟨wo, rfl⟩ : ∃ wo, wo = wr := ⟨_, rfl⟩
    by_cases hlt : z ≤ 2
    · have ho := h.below hB
      have cR : Calls Try.prog 19 #[.pointer (some ⟨t.p, 0, none⟩), .int .i64 z] wo fun e w' => ∃ a cap, e = .returned (.tuple #[.slice a (M.read z).length cap, .int .i64 (M.fault z)]) ∧ RowAt w' a (M.read z) ∧ Below wo.heap.size wo w' ∧ ∀ x, a = some x → wo.heap.size ≤ x.block ∧ x.block < w'.heap.size := live_read (A := fun _ => False) ⟨t, rfl, ho.tp, fun _ _ q => q⟩ z
      have cX := fun w0 (hb : Below wo.heap.size wo w0) => rread_any r M z w0 (ho.below hb).rf
      have cS := fun w0 (hb : Below wo.heap.size wo w0) => sure_any t M z w0 (ho.below hb).tp
      have cY := fun w0 (hb : Below wo.heap.size wo w0) => rsure_any r M z w0 (ho.below hb).rf
      obtain ⟨zr, hzr⟩ : ∃ zr, Hid (M.read z = zr) := ⟨_, hide rfl⟩
      obtain ⟨fz, hfz⟩ : ∃ fz, Hid (M.fault z = fz) := ⟨_, hide rfl⟩
      obtain ⟨sv, hsv⟩ : ∃ sv, Hid ((if z = 0 then (M.sa : Int) else if z = 1 then (M.sb : Int) else 0) = sv) := ⟨_, hide rfl⟩
      simp only [hzr.out, hfz.out] at cR cX
      simp only [hsv.out] at cS cY
      unfold tptr rptr at *
      go_wp2_with fail
      refine cR.mono ?_
      rintro e w2 ⟨ra, rc, rfl, hR2, hB2, -⟩
      clear cR
      have cX := cX w2 hB2
      go_wp2_with fail
      refine cX.mono ?_
      rintro e w3 ⟨sa2, sc2, rfl, hR3, hB3⟩
      clear cX
      have hB23 := hB2.trans (hB3.mono hB2.size)
      have kr1 := row_str (cap := rc) (hR2.below hB3)
      have kr2 := row_str (cap := sc2) hR3
      obtain ⟨st, hst⟩ : ∃ st, Hid (strOf zr = st) := ⟨_, hide rfl⟩
      rw [hst.out] at kr1 kr2
      have cS := cS w3 hB23
      have cY := cY w3 hB23
      go_wp2_with fail
      refine cS.mono ?_
      rintro e wq ⟨rfl, hx⟩
      obtain rfl := hx.symm
      clear hx cS
      go_wp2_with fail
      refine cY.mono ?_
      rintro e wq ⟨rfl, hx⟩
      obtain rfl := hx.symm
      clear hx cY kr1 kr2
      have hBn := hB.trans (hB23.mono hB.size)
      go_wp2_with fail
      go_roundw
      case rel => exact ⟨z + 1, by omega, by omega, by go_num, hBn⟩
      case measure => simp [intOf]; omega
    · have k1 : ¬ z ≤ 2 := hlt
      go_wp2_with fail
      go_ret
      exact ⟨rfl, hB⟩
theorem both_any (t : Tv) (r : Rv) (M : Mt) (y : Ac) (A : Nat → Prop) (w : World) (h : Two A w t r M) (hA : ∀ b, A b → b < w.heap.size) (hyo : y.ok w) (hzA : y.zs = [] ∨ ∀ x, y.da = some x → A x.block) (hzl : y.zs.length ≤ 100000) :
    Calls Try.prog 12 #[tptr t, rptr r, .agg y.cells.toArray] w fun e w' => e = .returned (.bool true) ∧ ∃ M', Next2 A w w' t r M' := by
  by_cases k0 : y.kind = 0
  · exact (both_0 t r M y A w h hA hyo.r hzA hzl k0).mono (fun e w' ⟨e1, e2⟩ => ⟨e1, _, e2⟩)
  by_cases k1 : y.kind = 1
  · exact (both_1 t r M y A w h hA hyo k1).mono (fun e w' ⟨e1, e2⟩ => ⟨e1, _, e2⟩)
  by_cases k2 : y.kind = 2
  · exact (both_2 t r M y A w h hA hyo k2).mono (fun e w' ⟨e1, e2⟩ => ⟨e1, _, e2⟩)
  by_cases k3 : y.kind = 3
  · exact (both_3 t r M y A w h hA hyo k3).mono (fun e w' ⟨e1, e2⟩ => ⟨e1, _, e2⟩)
  by_cases k4 : y.kind = 4
  · exact (both_4 t r M y A w h hA hyo k4).mono (fun e w' ⟨e1, e2⟩ => ⟨e1, _, e2⟩)
  by_cases k5 : y.kind = 5
  · exact (both_5 t r M y A w h hA k5).mono (fun e w' ⟨e1, e2⟩ => ⟨e1, _, e2⟩)
  · exact (both_no t r M y A w h (by simp [k0, k1, k2, k3, k4, k5])).mono (fun e w' ⟨e1, e2⟩ => ⟨e1, _, e2⟩)
set_option maxRecDepth 100000 in
set_option maxHeartbeats 4000000 in
theorem plays_walk (room : Int) (a : Option Addr) (cap : Nat) (ys : List Ac) (hl : ys.length ≤ maxLen) (w : World) (ho : ∀ y ∈ ys, y.ok w) (h : RowOf Ac.cells w a ys) :
    Calls Try.prog 3 #[.int .i64 room, .slice a ys.length cap] w fun e w' => e = .returned (.bool true) ∧ Below w.heap.size w w' := by
  have cL := fun w0 => lives_any w0
  by_cases hroom : room < 0 ∨ 1073741824 < room
  · have c1 := new_no room w hroom
    have c2 := rnew_no room w hroom
    have cL := cL w
    clear hroom
    go_enter Try.func3, Try.ntmps3
    go_wp2_with fail
    refine c1.mono ?_
    rintro e w' ⟨rfl, hw⟩
    obtain rfl := hw.symm
    clear c1 hw
    go_wp2_with fail
    refine c2.mono ?_
    rintro e w' ⟨rfl, hw⟩
    obtain rfl := hw.symm
    clear c2 hw
    go_wp2_with fail
    refine cL.mono ?_
    rintro e w9 ⟨rfl, hb9⟩
    clear cL
    go_wp2_with fail
    go_ret
    exact ⟨rfl, hb9⟩
  have c1 := new_yes room w (by omega) (by omega)
  have c2 := fun w0 => rnew_yes room w0 (by omega) (by omega)
  unfold tptr at c1
  unfold rptr at c2
  clear hroom
  go_enter Try.func3, Try.ntmps3
  go_wp2_with fail
  refine c1.mono ?_
  rintro e w1 ⟨rfl, hB1, hT1⟩
  clear c1
  have c2 := c2 w1
  go_wp2_with fail
  refine c2.mono ?_
  rintro e w2 ⟨rfl, hB2, hT2⟩
  clear c2
  have hBw2 := hB1.trans (hB2.mono hB1.size)
  have hTw : Two (fun b => b < w.heap.size) w2 (newTv w) (newRv w1) (Mt.new room) := by
    have tn : ∀ b, (newTv w).own b → b = w.heap.size := by
      rintro b (q | q | q)
      · exact q
      · simp [newTv, Value.ownBlock] at q
      · simp [newTv, Value.ownBlock] at q
    have rn : ∀ b, (newRv w1).own b → b = w1.heap.size := by
      rintro b (q | ⟨x, hx, _⟩ | ⟨x, hx, _⟩)
      · exact q
      · simp [newRv] at hx
      · simp [newRv] at hx
    have hlt := hT1.mono_x
    have hlt' : w.heap.size < w1.heap.size := hlt
    refine ⟨hT1.below hB2, hT2, fun b q q1 => ?_, fun b q q1 => ?_, fun b q q1 => ?_⟩
    · have := tn b q; have := rn b q1; omega
    · have := tn b q; omega
    · have := rn b q; omega
  have ep : (newTv w).p = w.heap.size := rfl
  have er : (newRv w1).r = w1.heap.size := rfl
  generalize newTv w = t0 at *
  generalize newRv w1 = r0 at *
  clear hT1 hT2 hB1 hB2
  have cLi := Light_any a cap ys w2 hl (fun y hy => (ho y hy).below hBw2) (h.below hBw2)
  rw [ep, er]
  go_wp2_with fail
  refine cLi.mono ?_
  clear cLi
  rintro e w3 hLi
  rcases hLi with ⟨rfl, hB3⟩ | ⟨rfl, hB3, hwt⟩
  · have cL := cL w3
    have hBB := hBw2.trans (hB3.mono hBw2.size)
    go_wp2_with fail
    refine cL.mono ?_
    rintro e w9 ⟨rfl, hb9⟩
    clear cL
    go_wp2_with fail
    go_ret
    exact ⟨rfl, hBB.trans (hb9.mono hBB.size)⟩
  · have hT3 := hTw.below hB3
    have hBB := hBw2.trans (hB3.mono hBw2.size)
    clear hTw hBw2 hB3
    have hyl := wtA_len ys
    go_wp2_with fail
    go_loopw [28] (fun iv wr => ∃ (k : Nat) (M : Mt) (t : Tv) (r : Rv), k ≤ ys.length ∧ iv = .int .i64 (k : Int) ∧ t.p = w.heap.size ∧ r.r = w1.heap.size ∧ Two (fun b => b < w.heap.size) wr t r M ∧ Below w.heap.size w wr) (fun iv _ => ys.length - (intOf iv).toNat)
    case atStart => exact ⟨0, _, t0, r0, by omega, rfl, ep, er, hT3, hBB⟩
    case round =>
      clear hT3 hBB ep er
      obtain ⟨k, M, t, r, hk, rfl, hp, hr, hT, hB⟩ := hrel
      obtain ⟨wo, rfl⟩ : ∃ wo, wo = wr := ⟨_, rfl⟩
      by_cases hlt : k < ys.length
      · have hltI : (k : Int) < (ys.length : Int) := by omega
        obtain ⟨rb, off, rfl, hrb, hre0⟩ := h.elem (k := 5) (fun _ _ => rfl) k hlt
        have hyo := ho _ (List.getElem_mem hlt)
        have hre := range_below hre0 hB hrb
        have hyw := wtA_mem (List.getElem_mem hlt)
        clear hre0
        obtain ⟨y, hy⟩ : ∃ y, Hid (ys[k] = y) := ⟨_, hide rfl⟩
        rw [hy.out] at hre hyo hyw
        clear hy
        obtain ⟨u, hu⟩ : ∃ u, Hid (y.cells = u) := ⟨_, hide rfl⟩
        rw [hu.out] at hre
        have F := fresh_store wo #[.int .i64 0, .int .i64 0, .slice none 0 0, .int .i64 0, .int .i64 0] 31 u (by rw [← hu.out]; rfl)
        have hN : (wo.alloc (.cells #[.int .i64 0, .int .i64 0, .slice none 0 0, .int .i64 0, .int .i64 0] 31)).there wo.heap.size 0 u.toArray.size := by
          have := there_new wo #[.int .i64 0, .int .i64 0, .slice none 0 0, .int .i64 0, .int .i64 0] 31
          have e5 : u.toArray.size = 5 := by rw [← hu.out]; rfl
          rw [e5]; exact this
        have hiq : (Try.prog.info? 31).map (·.size) = some u.length := by rw [← hu.out]; exact iszA
        have hiA : (Try.prog.info? 31).map (·.size) = some u.toArray.size := by rw [← hu.out]; exact iszA
        have h1c : u.toArray.all (·.oneCell') = true := by rw [← hu.out]; exact all_oneCell_toArray (Ac.one y)
        go_upto_region 8 with fail
        try simp only [Act.put]
        refine wp_region_list ?_
        refine wpList_step fun K hK => ?_
        go_simp
        refine hK _ _ ?_
        clear hK K
        refine wpList_load_mid rfl 31 _ rfl _ _ rfl u _ hre Try.underlying31 rfl hiq ?_
        go_upto_region 9 with (refine wpList_store_mid (op := ⟨none, .store 31 (.tmp 8) (.tmp 31), _, _, _, none⟩) rfl 31 _ _ rfl _ _ u.toArray rfl rfl hN hiA h1c ?_)
        go_name_world w3x hw3x
        rw [show (wo.alloc (.cells #[.int .i64 0, .int .i64 0, .slice none 0 0, .int .i64 0, .int .i64 0] 31)).setCells wo.heap.size 0 u = w3x from hw3x] at F
        clear hw3x hN hiq hiA h1c
        obtain ⟨hR3, hF3, hz3, -⟩ := F
        rw [← hu.out] at hR3
        have hiq : (Try.prog.info? 31).map (·.size) = some y.cells.length := iszA
        clear hre
        have hT3 := hT.below hF3
        have hB3 := hB.trans (hF3.mono hB.size)
        have cB := both_any t r M y (fun b => b < w.heap.size) w3x hT3 (fun b hb => Nat.lt_of_lt_of_le hb hB3.size) (hyo.below hB3) hyo.r.old (by omega)
        unfold tptr rptr at cB
        rw [hp, hr, hu.out] at cB
        rw [hu.out] at hiq hR3
        try simp only [Act.put]
        refine wp_region_list ?_
        refine wpList_step fun K hK => ?_
        go_simp
        refine hK _ _ ?_
        clear hK K
        refine wpList_step fun K hK => ?_
        go_simp
        refine hK _ _ ?_
        clear hK K
        refine wpList_load_mid rfl 31 _ rfl _ _ rfl u _ hR3 Try.underlying31 rfl hiq ?_
        go_wp2_with fail
        refine cB.mono ?_
        rintro e w4 ⟨rfl, M4, t4, r4, p4, q4, hT4, hO4⟩
        clear cB
        have hB4 : Below w.heap.size w w4 := hB3.trans (hO4.below hB3.size (fun b hb e => e hb))
        have cS := same_any t4 r4 M4 (fun b => b < w.heap.size) w4 hT4
        have hp4 := p4.trans hp
        have hr4 := q4.trans hr
        unfold tptr rptr at cS
        rw [hp4, hr4] at cS
        clear hT hO4 hT3 hR3 hu p4 q4 hp hr hyo
        go_wp2_with fail
        refine cS.mono ?_
        rintro e w5 ⟨rfl, hB5⟩
        clear cS
        have hT5 := hT4.below hB5
        have hBn := hB4.trans (hB5.mono hB4.size)
        clear hT4
        go_wp2_with fail
        go_roundw
        case rel => exact ⟨k + 1, M4, t4, r4, by omega, by go_num, hp4, hr4, hT5, hBn⟩
        case measure => simp [intOf]; omega
      · have k1 : ¬ (k : Int) < (ys.length : Int) := by omega
        have cL := cL wo
        go_wp2_with fail
        refine cL.mono ?_
        rintro e w9 ⟨rfl, hb9⟩
        clear cL
        go_wp2_with fail
        go_ret
        exact ⟨rfl, hB.trans (hb9.mono hB.size)⟩
end Go.Proofs.Ytfkchnjbbbhmjaa
