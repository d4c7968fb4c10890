/- Add -/
import Derived.Test.YtfaagiilldkdgaaK3
import Derived.Deep.Upon
namespace Go.Proofs.Ytfaagiilldkdgaa
open Go.RowKit
set_option linter.unusedVariables false
def bad (N node e : Int) : Bool := decide (node < 0 ∨ N ≤ node ∨ e < 1 ∨ 1048576 < e)
def wasOf (m : Int → Option Mk) (k : Int) : Mk := (m k).getD mk0
def addE (N : Int) (m : Int → Option Mk) (k : Int) (x : Mk) : Int :=
  if bad N k x.e then 2 else if (wasOf m k).e = x.e ∧ (wasOf m k).d = x.d then 0 else if (wasOf m k).e = x.e then 181 else if x.e < (wasOf m k).e then 90 else 0
def addM (N : Int) (m : Int → Option Mk) (k : Int) (x : Mk) : Int → Option Mk :=
  if bad N k x.e then m else if (wasOf m k).e < x.e then putM m k x else m
theorem two_box {w w1 : World} {q r : List Value} {t1 t2 : TypeId} (h : (w.alloc (.cells q.toArray t1)).alloc (.cells r.toArray t2) = w1) : Below w.heap.size w w1 ∧ w1.rangeAt w.heap.size 0 q ∧ w1.rangeAt (w.heap.size + 1) 0 r ∧ w1.heap.size ≥ w.heap.size + 2 := by
  subst h
  have hb1 : Below w.heap.size w (w.alloc (.cells q.toArray t1)) := (Below.refl _ _).alloc (Nat.le_refl _) _
  have hb2 : Below (w.alloc (.cells q.toArray t1)).heap.size (w.alloc (.cells q.toArray t1)) ((w.alloc (.cells q.toArray t1)).alloc (.cells r.toArray t2)) := (Below.refl _ _).alloc (Nat.le_refl _) _
  refine ⟨hb1.trans (hb2.mono (by simp)), range_below (by simpa using range_new w q.toArray t1) hb2 (by simp), ?_, by simp⟩
  have := range_new (w.alloc (.cells q.toArray t1)) r.toArray t2
  simpa using this
set_option maxHeartbeats 1000000 in
theorem add_no (p : Value) (k e : Int) (u t : List Value) (w : World) (h : NoMk w p) : Calls Try.prog 9 #[p, .int .i64 k, .int .i64 e, .agg u.toArray, .agg t.toArray] w fun e w' => e = .returned (.int .i64 1) ∧ Below w.heap.size w w' := by
  go_enter Try.func9, Try.ntmps9
  go_upto_region 1 with fail
  go_name_world w1 hw1
  obtain ⟨hB1, -, -, -⟩ := two_box hw1
  clear hw1
  have cM := isMade_no p w1 (h.below hB1)
  go_wp2_with fail
  refine cM.mono ?_
  rintro _ wx ⟨rfl, hx⟩
  obtain rfl := hx.symm
  clear hx cM
  go_wp2_with fail
  go_ret
  exact ⟨rfl, hB1⟩
set_option maxHeartbeats 1000000 in
theorem add_b1 (B b n : Nat) (N : Int) (m : Int → Option Mk) (k e : Int) (u t : List Value) (w : World) (h : MkAt w B b n N m) (hk : k < 0) : Calls Try.prog 9 #[.pointer (some ⟨B, 0, none⟩), .int .i64 k, .int .i64 e, .agg u.toArray, .agg t.toArray] w fun e w' => e = .returned (.int .i64 2) ∧ Below w.heap.size w w' := by
  go_enter Try.func9, Try.ntmps9
  go_upto_region 1 with fail
  go_name_world w1 hw1
  obtain ⟨hB1, hRd, hRt, hsz1⟩ := two_box hw1
  clear hw1
  have h1 := h.below hB1
  have cM := isMade_yes B b n N m w1 h1
  have c0 := h1.c0
  go_wp2_with fail
  refine cM.mono ?_
  rintro _ wx ⟨rfl, hx'⟩
  obtain rfl := hx'.symm
  clear hx' cM
  go_wp2_with fail
  go_ret
  exact ⟨rfl, hB1⟩
set_option maxHeartbeats 1000000 in
theorem add_b2 (B b n : Nat) (N : Int) (m : Int → Option Mk) (k e : Int) (u t : List Value) (w : World) (h : MkAt w B b n N m) (hk : 0 ≤ k) (hk2 : N ≤ k) : Calls Try.prog 9 #[.pointer (some ⟨B, 0, none⟩), .int .i64 k, .int .i64 e, .agg u.toArray, .agg t.toArray] w fun e w' => e = .returned (.int .i64 2) ∧ Below w.heap.size w w' := by
  go_enter Try.func9, Try.ntmps9
  go_upto_region 1 with fail
  go_name_world w1 hw1
  obtain ⟨hB1, hRd, hRt, hsz1⟩ := two_box hw1
  clear hw1
  have h1 := h.below hB1
  have cM := isMade_yes B b n N m w1 h1
  have c0 := h1.c0
  go_wp2_with fail
  refine cM.mono ?_
  rintro _ wx ⟨rfl, hx'⟩
  obtain rfl := hx'.symm
  clear hx' cM
  go_wp2_with fail
  go_ret
  exact ⟨rfl, hB1⟩
set_option maxHeartbeats 1000000 in
theorem add_b3 (B b n : Nat) (N : Int) (m : Int → Option Mk) (k e : Int) (u t : List Value) (w : World) (h : MkAt w B b n N m) (hk : 0 ≤ k) (hk2 : k < N) (he : e < 1) : Calls Try.prog 9 #[.pointer (some ⟨B, 0, none⟩), .int .i64 k, .int .i64 e, .agg u.toArray, .agg t.toArray] w fun e w' => e = .returned (.int .i64 2) ∧ Below w.heap.size w w' := by
  go_enter Try.func9, Try.ntmps9
  go_upto_region 1 with fail
  go_name_world w1 hw1
  obtain ⟨hB1, hRd, hRt, hsz1⟩ := two_box hw1
  clear hw1
  have h1 := h.below hB1
  have cM := isMade_yes B b n N m w1 h1
  have c0 := h1.c0
  go_wp2_with fail
  refine cM.mono ?_
  rintro _ wx ⟨rfl, hx'⟩
  obtain rfl := hx'.symm
  clear hx' cM
  go_wp2_with fail
  go_ret
  exact ⟨rfl, hB1⟩
set_option maxHeartbeats 1000000 in
theorem add_b4 (B b n : Nat) (N : Int) (m : Int → Option Mk) (k e : Int) (u t : List Value) (w : World) (h : MkAt w B b n N m) (hk : 0 ≤ k) (hk2 : k < N) (he1 : 1 ≤ e) (he : 1048576 < e) : Calls Try.prog 9 #[.pointer (some ⟨B, 0, none⟩), .int .i64 k, .int .i64 e, .agg u.toArray, .agg t.toArray] w fun e w' => e = .returned (.int .i64 2) ∧ Below w.heap.size w w' := by
  go_enter Try.func9, Try.ntmps9
  go_upto_region 1 with fail
  go_name_world w1 hw1
  obtain ⟨hB1, hRd, hRt, hsz1⟩ := two_box hw1
  clear hw1
  have h1 := h.below hB1
  have cM := isMade_yes B b n N m w1 h1
  have c0 := h1.c0
  go_wp2_with fail
  refine cM.mono ?_
  rintro _ wx ⟨rfl, hx'⟩
  obtain rfl := hx'.symm
  clear hx' cM
  go_wp2_with fail
  go_ret
  exact ⟨rfl, hB1⟩
/-- while Add holds what was against what comes -/
def SAd (B b n : Nat) (N : Int) (m : Int → Option Mk) (D : Nat) (u t : List Value) (x : World) : Prop := MkAt x B b n N m ∧ x.rangeAt D 0 u ∧ x.rangeAt (D + 1) 0 t
theorem SAd.below {B b n D : Nat} {N : Int} {m : Int → Option Mk} {u t : List Value} {x y : World} (h : SAd B b n N m D u t x) (hb : Below x.heap.size x y) (hD : D + 2 ≤ x.heap.size) : SAd B b n N m D u t y :=
  ⟨h.1.below hb, range_below h.2.1 hb (by omega), range_below h.2.2 hb (by omega)⟩
theorem SAd.set {B b n D : Nat} {N : Int} {m : Int → Option Mk} {u t : List Value} {x : World} (h : SAd B b n N m D u t x) {Z : Nat} (hZ : D + 2 ≤ Z) (hB : B < D) (hb : b < D) (o : Nat) (cs : List Value) : SAd B b n N m D u t (x.setCells Z o cs) :=
  ⟨h.1.at (by rw [setCells_size]; exact Nat.le_refl _) (World.heap_setCells_other x Z o cs h.1.lt (by omega)) (World.heap_setCells_other x Z o cs h.1.mp.lt (by omega)), World.rangeAt_setCells_apart h.2.1 _ _ _ (.inl (by omega)), World.rangeAt_setCells_apart h.2.2 _ _ _ (.inl (by omega))⟩
theorem add_done {w w8 w9 : World} {B b n : Nat} {N k : Int} {m : Int → Option Mk} {x : Mk} (h : MkAt w B b n N m) (hx : x.ok) (hk : 0 ≤ k ∧ k < N) (he : 1 ≤ x.e ∧ x.e ≤ 1048576) (h8 : MkAt w8 B b n N m) (hm : MapM w9 b (n + 1) (putM m k x)) (hg : w8.grownBy w9 (some b)) (hb : Below w.heap.size w w8) :
    MkAt w9 B b (n + 1) N (putM m k x) ∧ Off (fun z => z = b) w w9 := by
  have hne := h.ne
  have hB : w9.heap[B]? = w8.heap[B]? := hg.block B h8.lt (fun e => hne (by injection e with e; exact e.symm))
  refine ⟨⟨Nat.lt_of_lt_of_le h8.lt hg.size, ?_, ?_, hm, h.good, fun j y hj => ?_⟩, (Off.of_below hb).trans (Off.of_grown hg (fun k hk => by injection hk with hk; exact hk.symm)) (fun _ _ q => q)⟩
  · rw [← h8.c0]; simp [World.cell?, hB]
  · rw [← h8.c1]; simp [World.cell?, hB]
  · unfold putM at hj
    split at hj
    · rename_i e
      subst e
      obtain rfl := Option.some.inj hj
      exact ⟨hx, hk.1, hk.2, he.1, he.2⟩
    · exact h.ok j y hj
set_option maxRecDepth 100000 in
set_option maxHeartbeats 4000000 in
theorem add_same (B b n : Nat) (N : Int) (m : Int → Option Mk) (k : Int) (x : Mk) (hx : x.ok) (w : World) (h : MkAt w B b n N m) (hk : 0 ≤ k) (hk2 : k < N) (he1 : 1 ≤ x.e) (he2 : x.e ≤ 1048576) (hv : (wasOf m k).e = x.e ∧ (wasOf m k).d = x.d) : Calls Try.prog 9 #[.pointer (some ⟨B, 0, none⟩), .int .i64 k, .int .i64 x.e, .agg (v8 x.d).toArray, .agg (v8 x.t).toArray] w fun e w' => e = .returned (.int .i64 0) ∧ MkAt w' B b n N m ∧ Below w.heap.size w w' := by
  have hk64 : I64 k := by have := h.good; unfold I64; omega
  have hlk : ∀ w', MkAt w' B b n N m → (Instr.lookup 50 (.map (some b)) (.int .i64 k) false).run Try.prog w' = .ok (.agg (wasOf m k).cells.toArray) w' := fun w' h' => h'.mp.get k hk64
  have hyo := h.val k
  have hyo : (wasOf m k).ok := hyo
  have hcmp := fun w' => eqM (wasOf m k).e x.e (wasOf m k).d x.d hyo.dl hx.dl w'
  have hbm := fun w' => build_mark x.e (v8 x.d) (by rw [v8_length, hx.dl]) w'
  have hBw := h.lt
  have hbw := h.mp.lt
  generalize wasOf m k = yy at *
  obtain ⟨ye, yd, yt0⟩ := yy
  obtain ⟨xe, xd, xt⟩ := x
  simp only at *
  have hcb : ((ye == xe) && (yd == xd)) = true := by simpa using hv
  simp only [hcb] at hcmp
  clear hcb
  obtain ⟨u, hu⟩ : ∃ u, Hid (v8 xd = u) := ⟨_, hide rfl⟩
  obtain ⟨t, ht⟩ : ∃ u, Hid (v8 xt = u) := ⟨_, hide rfl⟩
  obtain ⟨y, hy⟩ : ∃ u, Hid (mkC ye yd = u) := ⟨_, hide rfl⟩
  obtain ⟨yt, hyt⟩ : ∃ u, Hid (v8 yt0 = u) := ⟨_, hide rfl⟩
  obtain ⟨c, hc⟩ : ∃ u, Hid (mkC xe xd = u) := ⟨_, hide rfl⟩
  have hy33 : y.length = 33 := by rw [← hy.out]; exact mkC_len _ hyo.dl
  have hc33 : c.length = 33 := by rw [← hc.out]; exact mkC_len _ hx.dl
  have hu32 : u.length = 32 := by rw [← hu.out, v8_length]; exact hx.dl
  have ht16 : t.length = 16 := by rw [← ht.out, v8_length]; exact hx.tl
  have hy1 : ∀ v ∈ y, v.oneCell' = true := by rw [← hy.out]; exact mkC_one _ _
  have hc1 : ∀ v ∈ c, v.oneCell' = true := by rw [← hc.out]; exact mkC_one _ _
  have y0 : y[0]? = some (.int .i64 ye) := by rw [← hy.out]; rfl
  have hiD : (Try.prog.info? 29).map (·.size) = some u.length := by rw [hu32]; exact iszD
  have hiT : (Try.prog.info? 31).map (·.size) = some t.length := by rw [ht16]; exact iszT
  have hiy : (Try.prog.info? 59).map (·.size) = some y.length := by rw [hy33]; exact iszM
  have hic : (Try.prog.info? 59).map (·.size) = some c.length := by rw [hc33]; exact iszM
  simp only [Mk.cells, hy.out, hyt.out] at hlk
  have hbm : ∀ w' : World, (Instr.build 59 #[(0, .int .i64 xe), (1, .agg u.toArray)]).run Try.prog w' = .ok (.agg c.toArray) w' := fun w' => by rw [← hc.out, ← hu.out]; exact hbm w'
  simp only [hy.out, hc.out] at hcmp
  rw [hu.out, ht.out]
  have hzm := zeroMk
  obtain ⟨zm, hzz⟩ : ∃ z, Hid (([Value.int .i64 0] ++ v8 (List.replicate 32 0)) = z) := ⟨_, hide rfl⟩
  have hzm33 : zm.length = 33 := by rw [← hzz.out]; rfl
  simp only [hzz.out] at hzm
  clear hzz hyt hy
  have HV := hide hv
  clear hv
  go_enter Try.func9, Try.ntmps9
  go_upto_region 1 with fail
  go_name_world w1 hw1
  obtain ⟨hB1, hRd, hRt, hsz1⟩ := two_box hw1
  clear hw1
  have h1 := h.below hB1
  have cM := isMade_yes B b n N m w1 h1
  have c0 := h1.c0
  go_wp2_with fail
  refine cM.mono ?_
  rintro _ wx ⟨rfl, hx'⟩
  obtain rfl := hx'.symm
  clear hx' cM
  go_upto_region 7 with fail
  clear c0
  have hS : SAd B b n N m w.heap.size u t w1.drew := ⟨h1.drew, (World.rangeAt_drew _ _ _ _).2 hRd, (World.rangeAt_drew _ _ _ _).2 hRt⟩
  have hb8 : Below w.heap.size w w1.drew := hB1.drew
  have hs8 : w.heap.size + 2 ≤ w1.drew.heap.size := hsz1
  refine hs_begin (S := SAd B b n N m w.heap.size u t) 14 rfl (by kernel_rfl) ?_
  obtain ⟨w8, hw8⟩ : ∃ w8, w1.drew = w8 := ⟨_, rfl⟩
  rw [hw8] at hS hb8 hs8 ⊢
  clear hw8 h1 hRd hRt hsz1 hB1
  refine hs_take (i := 0) (d := some 35) (v := ?_) rfl (by kernel_rfl) (by kernel_rfl) (by kernel_rfl) (by rfl) ?_ hS rfl ?_
  rotate_left
  · intro w' hw
    go_simp
    try with_reducible rfl
  simp only [Act.put, List.setIfInBounds_toArray, List.set_cons_zero, List.set_cons_succ]
  refine hs_take (i := 1) (d := some 36) (v := ?_) rfl (by kernel_rfl) (by kernel_rfl) (by kernel_rfl) (by rfl) ?_ hS rfl ?_
  rotate_left
  · intro w' hw
    go_simp
    try with_reducible rfl
  simp only [Act.put, List.setIfInBounds_toArray, List.set_cons_zero, List.set_cons_succ]
  refine hs_take (i := 2) (d := some 37) (v := ?_) rfl (by kernel_rfl) (by kernel_rfl) (by kernel_rfl) (by rfl) ?_ hS rfl ?_
  rotate_left
  · intro w' hw
    go_simp
    try with_reducible rfl
  simp only [Act.put, List.setIfInBounds_toArray, List.set_cons_zero, List.set_cons_succ]
  refine hs_take (i := 3) (d := some 38) (v := .map (some b)) rfl (by kernel_rfl) (by kernel_rfl) (by kernel_rfl) (by rfl) (fun w' hw => pl_one rfl rfl hw.1.c1 Try.underlying50 rfl) hS rfl ?_
  simp only [Act.put, List.setIfInBounds_toArray, List.set_cons_zero, List.set_cons_succ]
  refine hs_take (i := 4) (d := some 39) (v := ?_) rfl (by kernel_rfl) (by kernel_rfl) (by kernel_rfl) (by rfl) ?_ hS rfl ?_
  rotate_left
  · intro w' hw
    go_simp
    try with_reducible rfl
  simp only [Act.put, List.setIfInBounds_toArray, List.set_cons_zero, List.set_cons_succ]
  refine hs_take (i := 5) (d := some 40) (v := .agg (y ++ yt).toArray) rfl (by kernel_rfl) (by kernel_rfl) (by kernel_rfl) (by rfl) (fun w' hw => ex_look rfl rfl rfl (hlk w' hw.1)) hS rfl ?_
  simp only [Act.put, List.setIfInBounds_toArray, List.set_cons_zero, List.set_cons_succ]
  refine hs_take (i := 6) (d := some 41) (v := .agg y.toArray) rfl (by kernel_rfl) (by kernel_rfl) (by kernel_rfl) (by rfl) (fun w' hw => ex_field rfl rfl (run_field2 y yt hy33 w')) hS rfl ?_
  simp only [Act.put, List.setIfInBounds_toArray, List.set_cons_zero, List.set_cons_succ]
  refine hs_take (i := 7) (d := some 42) (v := ?_) rfl (by kernel_rfl) (by kernel_rfl) (by kernel_rfl) (by rfl) ?_ hS rfl ?_
  rotate_left
  · intro w' hw
    go_simp
    try with_reducible rfl
  simp only [Act.put, List.setIfInBounds_toArray, List.set_cons_zero, List.set_cons_succ]
  refine hs_take (i := 8) (d := some 43) (v := .agg u.toArray) rfl (by kernel_rfl) (by kernel_rfl) (by kernel_rfl) (by rfl) (fun w' hw => ex_mid rfl rfl hw.2.1 Try.underlying29 rfl hiD) hS rfl ?_
  simp only [Act.put, List.setIfInBounds_toArray, List.set_cons_zero, List.set_cons_succ]
  refine hs_take (i := 9) (d := some 44) (v := .agg c.toArray) rfl (by kernel_rfl) (by kernel_rfl) (by kernel_rfl) (by rfl) (fun w' hw => ex_build rfl rfl (hbm w')) hS rfl ?_
  simp only [Act.put, List.setIfInBounds_toArray, List.set_cons_zero, List.set_cons_succ]
  clear hlk hbm
  refine hs_fork (i := 10) (j := 11) (by kernel_rfl) ?_ ?_
  · have hb9 : Below w8.heap.size w8 (w8.alloc (.cells zm.toArray 59)) := (Below.refl _ _).alloc (Nat.le_refl _) _
    have hS := hS.below hb9 hs8
    refine st_run (i := 10) (d := some 11) (v := .pointer (some ⟨w8.heap.size, 0, none⟩)) (w' := w8.alloc (.cells zm.toArray 59)) rfl (by rfl) (ex_alloc rfl (hzm _)) rfl hS ?_
    simp only [Act.put, List.setIfInBounds_toArray, List.set_cons_zero, List.set_cons_succ]
    have hT9 := there_newN w8 zm.toArray 59 (n := 33) (by simpa using hzm33)
    obtain ⟨w9, hw9⟩ : ∃ w9, w8.alloc (.cells zm.toArray 59) = w9 := ⟨_, rfl⟩
    have hs9 : w9.heap.size = w8.heap.size + 1 := by rw [← hw9]; simp
    rw [hw9] at hS hb9 hT9 ⊢
    clear hw9
    have hb10 : Below w9.heap.size w9 (w9.alloc (.cells zm.toArray 59)) := (Below.refl _ _).alloc (Nat.le_refl _) _
    have hS := hS.below hb10 (by omega)
    refine hs_run (i := 11) (d := some 12) (v := .pointer (some ⟨w9.heap.size, 0, none⟩)) (w' := w9.alloc (.cells zm.toArray 59)) rfl (by kernel_rfl) (by rfl) (ex_alloc rfl (hzm _)) rfl hS ?_
    simp only [Act.put, List.setIfInBounds_toArray, List.set_cons_zero, List.set_cons_succ]
    have hT10 := there_newN w9 zm.toArray 59 (n := 33) (by simpa using hzm33)
    have hT9 := there_below hT9 hb10 (by omega)
    obtain ⟨w10, hw10⟩ : ∃ w10, w9.alloc (.cells zm.toArray 59) = w10 := ⟨_, rfl⟩
    have hs10 : w9.heap.size < w10.heap.size := by rw [← hw10]; simp
    rw [hw10] at hS hb10 hT10 hT9 ⊢
    clear hw10
    have hbl : Below w.heap.size w w10 := hb8.trans ((hb9.mono hb8.size).trans (hb10.mono (by have := hb8.size; omega)))
    obtain ⟨A, hA⟩ : ∃ A, A = w8.heap.size := ⟨_, rfl⟩
    obtain ⟨C, hC⟩ : ∃ C, C = w9.heap.size := ⟨_, rfl⟩
    have hTA : w10.there A 0 33 := by rw [hA]; exact hT9
    have hTC : w10.there C 0 33 := by rw [hC]; exact hT10
    have hAC : A ≠ C := by omega
    have hAw : w.heap.size + 2 ≤ A := by omega
    have hCw : w.heap.size + 2 ≤ C := by omega
    rw [← hA, ← hC]
    clear hb9 hb10 hT9 hT10 hs9 hs10 hb8 hA hC hs8
    have hA11 : (w10.setCells A 0 y).rangeAt A 0 y := World.rangeAt_setCells_same _ _ _ _ (by rw [hy33]; exact hTA)
    have hS := hS.set hAw hBw hbw 0 y
    refine hs_store (i := 12) (w' := w10.setCells A 0 y) rfl (by kernel_rfl) (by rfl) (ex_put (cs := y.toArray) rfl rfl rfl (by simpa [hy33] using hTA) (by simpa [hy33] using iszM) (all_one hy1)) rfl hS ?_
    have hTC := World.there_setCells hTC A 0 y
    have hbl := below_sets (B := w.heap.size) (b := A) (by omega) y 0 w10 hbl
    obtain ⟨w11, hw11⟩ : ∃ w11, w10.setCells A 0 y = w11 := ⟨_, rfl⟩
    rw [hw11] at hS hA11 hTC hbl ⊢
    clear hw11 hTA
    have hC12 : (w11.setCells C 0 c).rangeAt C 0 c := World.rangeAt_setCells_same _ _ _ _ (by rw [hc33]; exact hTC)
    have hA12 : (w11.setCells C 0 c).rangeAt A 0 y := World.rangeAt_setCells_apart hA11 _ _ _ (.inl hAC)
    have hS := hS.set hCw hBw hbw 0 c
    refine hs_store (i := 13) (w' := w11.setCells C 0 c) rfl (by kernel_rfl) (by rfl) (ex_put (cs := c.toArray) rfl rfl rfl (by simpa [hc33] using hTC) (by simpa [hc33] using iszM) (all_one hc1)) rfl hS ?_
    refine hs_done (by kernel_rfl) ?_
    have hbl := below_sets (B := w.heap.size) (b := C) (by omega) c 0 w11 hbl
    obtain ⟨w12, hw12⟩ : ∃ w12, w11.setCells C 0 c = w12 := ⟨_, rfl⟩
    rw [hw12] at hS hA12 hC12 hbl ⊢
    clear hw12 hA11 hTC
    have hAe := hA12 0 _ y0
    simp only [Nat.add_zero] at hAe
    go_upto_region 8 with fail
    try simp only [Act.put]
    refine pl_begin ?_
    refine pl_take (d := some 46) (v := .agg y.toArray) (by rfl) (ex_mid rfl rfl hA12 Try.underlying59 rfl hiy) rfl ?_
    simp only [Act.put, List.setIfInBounds_toArray, List.set_cons_zero, List.set_cons_succ]
    refine pl_take (d := some 47) (v := .agg c.toArray) (by rfl) (ex_mid rfl rfl hC12 Try.underlying59 rfl hic) rfl ?_
    simp only [Act.put, List.setIfInBounds_toArray, List.set_cons_zero, List.set_cons_succ]
    refine pl_take (d := some 48) (v := .bool true) (by rfl) (ex_bin rfl rfl rfl (by kernel_rfl) (hcmp w12)) rfl ?_
    simp only [Act.put, List.setIfInBounds_toArray, List.set_cons_zero, List.set_cons_succ]
    refine pl_take (d := some 45) (v := ?_) (by rfl) ?_ rfl ?_
    rotate_left
    · go_simp
      try with_reducible rfl
    simp only [Act.put, List.setIfInBounds_toArray, List.set_cons_zero, List.set_cons_succ]
    refine pl_nil ?_
    go_wp2_with fail
    go_ret
    exact ⟨rfl, hS.1, hbl⟩
  · have hb9 : Below w8.heap.size w8 (w8.alloc (.cells zm.toArray 59)) := (Below.refl _ _).alloc (Nat.le_refl _) _
    have hS := hS.below hb9 hs8
    refine st_run (i := 11) (d := some 12) (v := .pointer (some ⟨w8.heap.size, 0, none⟩)) (w' := w8.alloc (.cells zm.toArray 59)) rfl (by rfl) (ex_alloc rfl (hzm _)) rfl hS ?_
    simp only [Act.put, List.setIfInBounds_toArray, List.set_cons_zero, List.set_cons_succ]
    have hT9 := there_newN w8 zm.toArray 59 (n := 33) (by simpa using hzm33)
    obtain ⟨w9, hw9⟩ : ∃ w9, w8.alloc (.cells zm.toArray 59) = w9 := ⟨_, rfl⟩
    have hs9 : w9.heap.size = w8.heap.size + 1 := by rw [← hw9]; simp
    rw [hw9] at hS hb9 hT9 ⊢
    clear hw9
    have hb10 : Below w9.heap.size w9 (w9.alloc (.cells zm.toArray 59)) := (Below.refl _ _).alloc (Nat.le_refl _) _
    have hS := hS.below hb10 (by omega)
    refine hs_run (i := 10) (d := some 11) (v := .pointer (some ⟨w9.heap.size, 0, none⟩)) (w' := w9.alloc (.cells zm.toArray 59)) rfl (by kernel_rfl) (by rfl) (ex_alloc rfl (hzm _)) rfl hS ?_
    simp only [Act.put, List.setIfInBounds_toArray, List.set_cons_zero, List.set_cons_succ]
    have hT10 := there_newN w9 zm.toArray 59 (n := 33) (by simpa using hzm33)
    have hT9 := there_below hT9 hb10 (by omega)
    obtain ⟨w10, hw10⟩ : ∃ w10, w9.alloc (.cells zm.toArray 59) = w10 := ⟨_, rfl⟩
    have hs10 : w9.heap.size < w10.heap.size := by rw [← hw10]; simp
    rw [hw10] at hS hb10 hT10 hT9 ⊢
    clear hw10
    have hbl : Below w.heap.size w w10 := hb8.trans ((hb9.mono hb8.size).trans (hb10.mono (by have := hb8.size; omega)))
    obtain ⟨A, hA⟩ : ∃ A, A = w9.heap.size := ⟨_, rfl⟩
    obtain ⟨C, hC⟩ : ∃ C, C = w8.heap.size := ⟨_, rfl⟩
    have hTA : w10.there A 0 33 := by rw [hA]; exact hT10
    have hTC : w10.there C 0 33 := by rw [hC]; exact hT9
    have hAC : A ≠ C := by omega
    have hAw : w.heap.size + 2 ≤ A := by omega
    have hCw : w.heap.size + 2 ≤ C := by omega
    rw [← hA, ← hC]
    clear hb9 hb10 hT9 hT10 hs9 hs10 hb8 hA hC hs8
    have hA11 : (w10.setCells A 0 y).rangeAt A 0 y := World.rangeAt_setCells_same _ _ _ _ (by rw [hy33]; exact hTA)
    have hS := hS.set hAw hBw hbw 0 y
    refine hs_store (i := 12) (w' := w10.setCells A 0 y) rfl (by kernel_rfl) (by rfl) (ex_put (cs := y.toArray) rfl rfl rfl (by simpa [hy33] using hTA) (by simpa [hy33] using iszM) (all_one hy1)) rfl hS ?_
    have hTC := World.there_setCells hTC A 0 y
    have hbl := below_sets (B := w.heap.size) (b := A) (by omega) y 0 w10 hbl
    obtain ⟨w11, hw11⟩ : ∃ w11, w10.setCells A 0 y = w11 := ⟨_, rfl⟩
    rw [hw11] at hS hA11 hTC hbl ⊢
    clear hw11 hTA
    have hC12 : (w11.setCells C 0 c).rangeAt C 0 c := World.rangeAt_setCells_same _ _ _ _ (by rw [hc33]; exact hTC)
    have hA12 : (w11.setCells C 0 c).rangeAt A 0 y := World.rangeAt_setCells_apart hA11 _ _ _ (.inl hAC)
    have hS := hS.set hCw hBw hbw 0 c
    refine hs_store (i := 13) (w' := w11.setCells C 0 c) rfl (by kernel_rfl) (by rfl) (ex_put (cs := c.toArray) rfl rfl rfl (by simpa [hc33] using hTC) (by simpa [hc33] using iszM) (all_one hc1)) rfl hS ?_
    refine hs_done (by kernel_rfl) ?_
    have hbl := below_sets (B := w.heap.size) (b := C) (by omega) c 0 w11 hbl
    obtain ⟨w12, hw12⟩ : ∃ w12, w11.setCells C 0 c = w12 := ⟨_, rfl⟩
    rw [hw12] at hS hA12 hC12 hbl ⊢
    clear hw12 hA11 hTC
    have hAe := hA12 0 _ y0
    simp only [Nat.add_zero] at hAe
    go_upto_region 8 with fail
    try simp only [Act.put]
    refine pl_begin ?_
    refine pl_take (d := some 46) (v := .agg y.toArray) (by rfl) (ex_mid rfl rfl hA12 Try.underlying59 rfl hiy) rfl ?_
    simp only [Act.put, List.setIfInBounds_toArray, List.set_cons_zero, List.set_cons_succ]
    refine pl_take (d := some 47) (v := .agg c.toArray) (by rfl) (ex_mid rfl rfl hC12 Try.underlying59 rfl hic) rfl ?_
    simp only [Act.put, List.setIfInBounds_toArray, List.set_cons_zero, List.set_cons_succ]
    refine pl_take (d := some 48) (v := .bool true) (by rfl) (ex_bin rfl rfl rfl (by kernel_rfl) (hcmp w12)) rfl ?_
    simp only [Act.put, List.setIfInBounds_toArray, List.set_cons_zero, List.set_cons_succ]
    refine pl_take (d := some 45) (v := ?_) (by rfl) ?_ rfl ?_
    rotate_left
    · go_simp
      try with_reducible rfl
    simp only [Act.put, List.setIfInBounds_toArray, List.set_cons_zero, List.set_cons_succ]
    refine pl_nil ?_
    go_wp2_with fail
    go_ret
    exact ⟨rfl, hS.1, hbl⟩
set_option maxRecDepth 100000 in
set_option maxHeartbeats 4000000 in
theorem add_other (B b n : Nat) (N : Int) (m : Int → Option Mk) (k : Int) (x : Mk) (hx : x.ok) (w : World) (h : MkAt w B b n N m) (hk : 0 ≤ k) (hk2 : k < N) (he1 : 1 ≤ x.e) (he2 : x.e ≤ 1048576) (hv : ¬ ((wasOf m k).e = x.e ∧ (wasOf m k).d = x.d)) (hee : (wasOf m k).e = x.e) : Calls Try.prog 9 #[.pointer (some ⟨B, 0, none⟩), .int .i64 k, .int .i64 x.e, .agg (v8 x.d).toArray, .agg (v8 x.t).toArray] w fun e w' => e = .returned (.int .i64 181) ∧ MkAt w' B b n N m ∧ Below w.heap.size w w' := by
  have hk64 : I64 k := by have := h.good; unfold I64; omega
  have hlk : ∀ w', MkAt w' B b n N m → (Instr.lookup 50 (.map (some b)) (.int .i64 k) false).run Try.prog w' = .ok (.agg (wasOf m k).cells.toArray) w' := fun w' h' => h'.mp.get k hk64
  have hyo := h.val k
  have hyo : (wasOf m k).ok := hyo
  have hcmp := fun w' => eqM (wasOf m k).e x.e (wasOf m k).d x.d hyo.dl hx.dl w'
  have hbm := fun w' => build_mark x.e (v8 x.d) (by rw [v8_length, hx.dl]) w'
  have hBw := h.lt
  have hbw := h.mp.lt
  generalize wasOf m k = yy at *
  obtain ⟨ye, yd, yt0⟩ := yy
  obtain ⟨xe, xd, xt⟩ := x
  simp only at *
  have hcb : ((ye == xe) && (yd == xd)) = false := by simpa using hv
  simp only [hcb] at hcmp
  clear hcb
  obtain ⟨u, hu⟩ : ∃ u, Hid (v8 xd = u) := ⟨_, hide rfl⟩
  obtain ⟨t, ht⟩ : ∃ u, Hid (v8 xt = u) := ⟨_, hide rfl⟩
  obtain ⟨y, hy⟩ : ∃ u, Hid (mkC ye yd = u) := ⟨_, hide rfl⟩
  obtain ⟨yt, hyt⟩ : ∃ u, Hid (v8 yt0 = u) := ⟨_, hide rfl⟩
  obtain ⟨c, hc⟩ : ∃ u, Hid (mkC xe xd = u) := ⟨_, hide rfl⟩
  have hy33 : y.length = 33 := by rw [← hy.out]; exact mkC_len _ hyo.dl
  have hc33 : c.length = 33 := by rw [← hc.out]; exact mkC_len _ hx.dl
  have hu32 : u.length = 32 := by rw [← hu.out, v8_length]; exact hx.dl
  have ht16 : t.length = 16 := by rw [← ht.out, v8_length]; exact hx.tl
  have hy1 : ∀ v ∈ y, v.oneCell' = true := by rw [← hy.out]; exact mkC_one _ _
  have hc1 : ∀ v ∈ c, v.oneCell' = true := by rw [← hc.out]; exact mkC_one _ _
  have y0 : y[0]? = some (.int .i64 ye) := by rw [← hy.out]; rfl
  have hiD : (Try.prog.info? 29).map (·.size) = some u.length := by rw [hu32]; exact iszD
  have hiT : (Try.prog.info? 31).map (·.size) = some t.length := by rw [ht16]; exact iszT
  have hiy : (Try.prog.info? 59).map (·.size) = some y.length := by rw [hy33]; exact iszM
  have hic : (Try.prog.info? 59).map (·.size) = some c.length := by rw [hc33]; exact iszM
  simp only [Mk.cells, hy.out, hyt.out] at hlk
  have hbm : ∀ w' : World, (Instr.build 59 #[(0, .int .i64 xe), (1, .agg u.toArray)]).run Try.prog w' = .ok (.agg c.toArray) w' := fun w' => by rw [← hc.out, ← hu.out]; exact hbm w'
  simp only [hy.out, hc.out] at hcmp
  rw [hu.out, ht.out]
  have hzm := zeroMk
  obtain ⟨zm, hzz⟩ : ∃ z, Hid (([Value.int .i64 0] ++ v8 (List.replicate 32 0)) = z) := ⟨_, hide rfl⟩
  have hzm33 : zm.length = 33 := by rw [← hzz.out]; rfl
  simp only [hzz.out] at hzm
  have hq : (ye == xe) = true := by simpa using hee
  have HE := hide hee
  clear hee
  clear hzz hyt hy
  have HV := hide hv
  clear hv
  go_enter Try.func9, Try.ntmps9
  go_upto_region 1 with fail
  go_name_world w1 hw1
  obtain ⟨hB1, hRd, hRt, hsz1⟩ := two_box hw1
  clear hw1
  have h1 := h.below hB1
  have cM := isMade_yes B b n N m w1 h1
  have c0 := h1.c0
  go_wp2_with fail
  refine cM.mono ?_
  rintro _ wx ⟨rfl, hx'⟩
  obtain rfl := hx'.symm
  clear hx' cM
  go_upto_region 7 with fail
  clear c0
  have hS : SAd B b n N m w.heap.size u t w1.drew := ⟨h1.drew, (World.rangeAt_drew _ _ _ _).2 hRd, (World.rangeAt_drew _ _ _ _).2 hRt⟩
  have hb8 : Below w.heap.size w w1.drew := hB1.drew
  have hs8 : w.heap.size + 2 ≤ w1.drew.heap.size := hsz1
  refine hs_begin (S := SAd B b n N m w.heap.size u t) 14 rfl (by kernel_rfl) ?_
  obtain ⟨w8, hw8⟩ : ∃ w8, w1.drew = w8 := ⟨_, rfl⟩
  rw [hw8] at hS hb8 hs8 ⊢
  clear hw8 h1 hRd hRt hsz1 hB1
  refine hs_take (i := 0) (d := some 35) (v := ?_) rfl (by kernel_rfl) (by kernel_rfl) (by kernel_rfl) (by rfl) ?_ hS rfl ?_
  rotate_left
  · intro w' hw
    go_simp
    try with_reducible rfl
  simp only [Act.put, List.setIfInBounds_toArray, List.set_cons_zero, List.set_cons_succ]
  refine hs_take (i := 1) (d := some 36) (v := ?_) rfl (by kernel_rfl) (by kernel_rfl) (by kernel_rfl) (by rfl) ?_ hS rfl ?_
  rotate_left
  · intro w' hw
    go_simp
    try with_reducible rfl
  simp only [Act.put, List.setIfInBounds_toArray, List.set_cons_zero, List.set_cons_succ]
  refine hs_take (i := 2) (d := some 37) (v := ?_) rfl (by kernel_rfl) (by kernel_rfl) (by kernel_rfl) (by rfl) ?_ hS rfl ?_
  rotate_left
  · intro w' hw
    go_simp
    try with_reducible rfl
  simp only [Act.put, List.setIfInBounds_toArray, List.set_cons_zero, List.set_cons_succ]
  refine hs_take (i := 3) (d := some 38) (v := .map (some b)) rfl (by kernel_rfl) (by kernel_rfl) (by kernel_rfl) (by rfl) (fun w' hw => pl_one rfl rfl hw.1.c1 Try.underlying50 rfl) hS rfl ?_
  simp only [Act.put, List.setIfInBounds_toArray, List.set_cons_zero, List.set_cons_succ]
  refine hs_take (i := 4) (d := some 39) (v := ?_) rfl (by kernel_rfl) (by kernel_rfl) (by kernel_rfl) (by rfl) ?_ hS rfl ?_
  rotate_left
  · intro w' hw
    go_simp
    try with_reducible rfl
  simp only [Act.put, List.setIfInBounds_toArray, List.set_cons_zero, List.set_cons_succ]
  refine hs_take (i := 5) (d := some 40) (v := .agg (y ++ yt).toArray) rfl (by kernel_rfl) (by kernel_rfl) (by kernel_rfl) (by rfl) (fun w' hw => ex_look rfl rfl rfl (hlk w' hw.1)) hS rfl ?_
  simp only [Act.put, List.setIfInBounds_toArray, List.set_cons_zero, List.set_cons_succ]
  refine hs_take (i := 6) (d := some 41) (v := .agg y.toArray) rfl (by kernel_rfl) (by kernel_rfl) (by kernel_rfl) (by rfl) (fun w' hw => ex_field rfl rfl (run_field2 y yt hy33 w')) hS rfl ?_
  simp only [Act.put, List.setIfInBounds_toArray, List.set_cons_zero, List.set_cons_succ]
  refine hs_take (i := 7) (d := some 42) (v := ?_) rfl (by kernel_rfl) (by kernel_rfl) (by kernel_rfl) (by rfl) ?_ hS rfl ?_
  rotate_left
  · intro w' hw
    go_simp
    try with_reducible rfl
  simp only [Act.put, List.setIfInBounds_toArray, List.set_cons_zero, List.set_cons_succ]
  refine hs_take (i := 8) (d := some 43) (v := .agg u.toArray) rfl (by kernel_rfl) (by kernel_rfl) (by kernel_rfl) (by rfl) (fun w' hw => ex_mid rfl rfl hw.2.1 Try.underlying29 rfl hiD) hS rfl ?_
  simp only [Act.put, List.setIfInBounds_toArray, List.set_cons_zero, List.set_cons_succ]
  refine hs_take (i := 9) (d := some 44) (v := .agg c.toArray) rfl (by kernel_rfl) (by kernel_rfl) (by kernel_rfl) (by rfl) (fun w' hw => ex_build rfl rfl (hbm w')) hS rfl ?_
  simp only [Act.put, List.setIfInBounds_toArray, List.set_cons_zero, List.set_cons_succ]
  clear hlk hbm
  refine hs_fork (i := 10) (j := 11) (by kernel_rfl) ?_ ?_
  · have hb9 : Below w8.heap.size w8 (w8.alloc (.cells zm.toArray 59)) := (Below.refl _ _).alloc (Nat.le_refl _) _
    have hS := hS.below hb9 hs8
    refine st_run (i := 10) (d := some 11) (v := .pointer (some ⟨w8.heap.size, 0, none⟩)) (w' := w8.alloc (.cells zm.toArray 59)) rfl (by rfl) (ex_alloc rfl (hzm _)) rfl hS ?_
    simp only [Act.put, List.setIfInBounds_toArray, List.set_cons_zero, List.set_cons_succ]
    have hT9 := there_newN w8 zm.toArray 59 (n := 33) (by simpa using hzm33)
    obtain ⟨w9, hw9⟩ : ∃ w9, w8.alloc (.cells zm.toArray 59) = w9 := ⟨_, rfl⟩
    have hs9 : w9.heap.size = w8.heap.size + 1 := by rw [← hw9]; simp
    rw [hw9] at hS hb9 hT9 ⊢
    clear hw9
    have hb10 : Below w9.heap.size w9 (w9.alloc (.cells zm.toArray 59)) := (Below.refl _ _).alloc (Nat.le_refl _) _
    have hS := hS.below hb10 (by omega)
    refine hs_run (i := 11) (d := some 12) (v := .pointer (some ⟨w9.heap.size, 0, none⟩)) (w' := w9.alloc (.cells zm.toArray 59)) rfl (by kernel_rfl) (by rfl) (ex_alloc rfl (hzm _)) rfl hS ?_
    simp only [Act.put, List.setIfInBounds_toArray, List.set_cons_zero, List.set_cons_succ]
    have hT10 := there_newN w9 zm.toArray 59 (n := 33) (by simpa using hzm33)
    have hT9 := there_below hT9 hb10 (by omega)
    obtain ⟨w10, hw10⟩ : ∃ w10, w9.alloc (.cells zm.toArray 59) = w10 := ⟨_, rfl⟩
    have hs10 : w9.heap.size < w10.heap.size := by rw [← hw10]; simp
    rw [hw10] at hS hb10 hT10 hT9 ⊢
    clear hw10
    have hbl : Below w.heap.size w w10 := hb8.trans ((hb9.mono hb8.size).trans (hb10.mono (by have := hb8.size; omega)))
    obtain ⟨A, hA⟩ : ∃ A, A = w8.heap.size := ⟨_, rfl⟩
    obtain ⟨C, hC⟩ : ∃ C, C = w9.heap.size := ⟨_, rfl⟩
    have hTA : w10.there A 0 33 := by rw [hA]; exact hT9
    have hTC : w10.there C 0 33 := by rw [hC]; exact hT10
    have hAC : A ≠ C := by omega
    have hAw : w.heap.size + 2 ≤ A := by omega
    have hCw : w.heap.size + 2 ≤ C := by omega
    rw [← hA, ← hC]
    clear hb9 hb10 hT9 hT10 hs9 hs10 hb8 hA hC hs8
    have hA11 : (w10.setCells A 0 y).rangeAt A 0 y := World.rangeAt_setCells_same _ _ _ _ (by rw [hy33]; exact hTA)
    have hS := hS.set hAw hBw hbw 0 y
    refine hs_store (i := 12) (w' := w10.setCells A 0 y) rfl (by kernel_rfl) (by rfl) (ex_put (cs := y.toArray) rfl rfl rfl (by simpa [hy33] using hTA) (by simpa [hy33] using iszM) (all_one hy1)) rfl hS ?_
    have hTC := World.there_setCells hTC A 0 y
    have hbl := below_sets (B := w.heap.size) (b := A) (by omega) y 0 w10 hbl
    obtain ⟨w11, hw11⟩ : ∃ w11, w10.setCells A 0 y = w11 := ⟨_, rfl⟩
    rw [hw11] at hS hA11 hTC hbl ⊢
    clear hw11 hTA
    have hC12 : (w11.setCells C 0 c).rangeAt C 0 c := World.rangeAt_setCells_same _ _ _ _ (by rw [hc33]; exact hTC)
    have hA12 : (w11.setCells C 0 c).rangeAt A 0 y := World.rangeAt_setCells_apart hA11 _ _ _ (.inl hAC)
    have hS := hS.set hCw hBw hbw 0 c
    refine hs_store (i := 13) (w' := w11.setCells C 0 c) rfl (by kernel_rfl) (by rfl) (ex_put (cs := c.toArray) rfl rfl rfl (by simpa [hc33] using hTC) (by simpa [hc33] using iszM) (all_one hc1)) rfl hS ?_
    refine hs_done (by kernel_rfl) ?_
    have hbl := below_sets (B := w.heap.size) (b := C) (by omega) c 0 w11 hbl
    obtain ⟨w12, hw12⟩ : ∃ w12, w11.setCells C 0 c = w12 := ⟨_, rfl⟩
    rw [hw12] at hS hA12 hC12 hbl ⊢
    clear hw12 hA11 hTC
    have hAe := hA12 0 _ y0
    simp only [Nat.add_zero] at hAe
    go_upto_region 8 with fail
    try simp only [Act.put]
    refine pl_begin ?_
    refine pl_take (d := some 46) (v := .agg y.toArray) (by rfl) (ex_mid rfl rfl hA12 Try.underlying59 rfl hiy) rfl ?_
    simp only [Act.put, List.setIfInBounds_toArray, List.set_cons_zero, List.set_cons_succ]
    refine pl_take (d := some 47) (v := .agg c.toArray) (by rfl) (ex_mid rfl rfl hC12 Try.underlying59 rfl hic) rfl ?_
    simp only [Act.put, List.setIfInBounds_toArray, List.set_cons_zero, List.set_cons_succ]
    refine pl_take (d := some 48) (v := .bool false) (by rfl) (ex_bin rfl rfl rfl (by kernel_rfl) (hcmp w12)) rfl ?_
    simp only [Act.put, List.setIfInBounds_toArray, List.set_cons_zero, List.set_cons_succ]
    refine pl_take (d := some 45) (v := ?_) (by rfl) ?_ rfl ?_
    rotate_left
    · go_simp
      try with_reducible rfl
    simp only [Act.put, List.setIfInBounds_toArray, List.set_cons_zero, List.set_cons_succ]
    refine pl_nil ?_
    go_wp2_with fail
    go_ret
    exact ⟨rfl, hS.1, hbl⟩
  · have hb9 : Below w8.heap.size w8 (w8.alloc (.cells zm.toArray 59)) := (Below.refl _ _).alloc (Nat.le_refl _) _
    have hS := hS.below hb9 hs8
    refine st_run (i := 11) (d := some 12) (v := .pointer (some ⟨w8.heap.size, 0, none⟩)) (w' := w8.alloc (.cells zm.toArray 59)) rfl (by rfl) (ex_alloc rfl (hzm _)) rfl hS ?_
    simp only [Act.put, List.setIfInBounds_toArray, List.set_cons_zero, List.set_cons_succ]
    have hT9 := there_newN w8 zm.toArray 59 (n := 33) (by simpa using hzm33)
    obtain ⟨w9, hw9⟩ : ∃ w9, w8.alloc (.cells zm.toArray 59) = w9 := ⟨_, rfl⟩
    have hs9 : w9.heap.size = w8.heap.size + 1 := by rw [← hw9]; simp
    rw [hw9] at hS hb9 hT9 ⊢
    clear hw9
    have hb10 : Below w9.heap.size w9 (w9.alloc (.cells zm.toArray 59)) := (Below.refl _ _).alloc (Nat.le_refl _) _
    have hS := hS.below hb10 (by omega)
    refine hs_run (i := 10) (d := some 11) (v := .pointer (some ⟨w9.heap.size, 0, none⟩)) (w' := w9.alloc (.cells zm.toArray 59)) rfl (by kernel_rfl) (by rfl) (ex_alloc rfl (hzm _)) rfl hS ?_
    simp only [Act.put, List.setIfInBounds_toArray, List.set_cons_zero, List.set_cons_succ]
    have hT10 := there_newN w9 zm.toArray 59 (n := 33) (by simpa using hzm33)
    have hT9 := there_below hT9 hb10 (by omega)
    obtain ⟨w10, hw10⟩ : ∃ w10, w9.alloc (.cells zm.toArray 59) = w10 := ⟨_, rfl⟩
    have hs10 : w9.heap.size < w10.heap.size := by rw [← hw10]; simp
    rw [hw10] at hS hb10 hT10 hT9 ⊢
    clear hw10
    have hbl : Below w.heap.size w w10 := hb8.trans ((hb9.mono hb8.size).trans (hb10.mono (by have := hb8.size; omega)))
    obtain ⟨A, hA⟩ : ∃ A, A = w9.heap.size := ⟨_, rfl⟩
    obtain ⟨C, hC⟩ : ∃ C, C = w8.heap.size := ⟨_, rfl⟩
    have hTA : w10.there A 0 33 := by rw [hA]; exact hT10
    have hTC : w10.there C 0 33 := by rw [hC]; exact hT9
    have hAC : A ≠ C := by omega
    have hAw : w.heap.size + 2 ≤ A := by omega
    have hCw : w.heap.size + 2 ≤ C := by omega
    rw [← hA, ← hC]
    clear hb9 hb10 hT9 hT10 hs9 hs10 hb8 hA hC hs8
    have hA11 : (w10.setCells A 0 y).rangeAt A 0 y := World.rangeAt_setCells_same _ _ _ _ (by rw [hy33]; exact hTA)
    have hS := hS.set hAw hBw hbw 0 y
    refine hs_store (i := 12) (w' := w10.setCells A 0 y) rfl (by kernel_rfl) (by rfl) (ex_put (cs := y.toArray) rfl rfl rfl (by simpa [hy33] using hTA) (by simpa [hy33] using iszM) (all_one hy1)) rfl hS ?_
    have hTC := World.there_setCells hTC A 0 y
    have hbl := below_sets (B := w.heap.size) (b := A) (by omega) y 0 w10 hbl
    obtain ⟨w11, hw11⟩ : ∃ w11, w10.setCells A 0 y = w11 := ⟨_, rfl⟩
    rw [hw11] at hS hA11 hTC hbl ⊢
    clear hw11 hTA
    have hC12 : (w11.setCells C 0 c).rangeAt C 0 c := World.rangeAt_setCells_same _ _ _ _ (by rw [hc33]; exact hTC)
    have hA12 : (w11.setCells C 0 c).rangeAt A 0 y := World.rangeAt_setCells_apart hA11 _ _ _ (.inl hAC)
    have hS := hS.set hCw hBw hbw 0 c
    refine hs_store (i := 13) (w' := w11.setCells C 0 c) rfl (by kernel_rfl) (by rfl) (ex_put (cs := c.toArray) rfl rfl rfl (by simpa [hc33] using hTC) (by simpa [hc33] using iszM) (all_one hc1)) rfl hS ?_
    refine hs_done (by kernel_rfl) ?_
    have hbl := below_sets (B := w.heap.size) (b := C) (by omega) c 0 w11 hbl
    obtain ⟨w12, hw12⟩ : ∃ w12, w11.setCells C 0 c = w12 := ⟨_, rfl⟩
    rw [hw12] at hS hA12 hC12 hbl ⊢
    clear hw12 hA11 hTC
    have hAe := hA12 0 _ y0
    simp only [Nat.add_zero] at hAe
    go_upto_region 8 with fail
    try simp only [Act.put]
    refine pl_begin ?_
    refine pl_take (d := some 46) (v := .agg y.toArray) (by rfl) (ex_mid rfl rfl hA12 Try.underlying59 rfl hiy) rfl ?_
    simp only [Act.put, List.setIfInBounds_toArray, List.set_cons_zero, List.set_cons_succ]
    refine pl_take (d := some 47) (v := .agg c.toArray) (by rfl) (ex_mid rfl rfl hC12 Try.underlying59 rfl hic) rfl ?_
    simp only [Act.put, List.setIfInBounds_toArray, List.set_cons_zero, List.set_cons_succ]
    refine pl_take (d := some 48) (v := .bool false) (by rfl) (ex_bin rfl rfl rfl (by kernel_rfl) (hcmp w12)) rfl ?_
    simp only [Act.put, List.setIfInBounds_toArray, List.set_cons_zero, List.set_cons_succ]
    refine pl_take (d := some 45) (v := ?_) (by rfl) ?_ rfl ?_
    rotate_left
    · go_simp
      try with_reducible rfl
    simp only [Act.put, List.setIfInBounds_toArray, List.set_cons_zero, List.set_cons_succ]
    refine pl_nil ?_
    go_wp2_with fail
    go_ret
    exact ⟨rfl, hS.1, hbl⟩
set_option maxRecDepth 100000 in
set_option maxHeartbeats 4000000 in
theorem add_old (B b n : Nat) (N : Int) (m : Int → Option Mk) (k : Int) (x : Mk) (hx : x.ok) (w : World) (h : MkAt w B b n N m) (hk : 0 ≤ k) (hk2 : k < N) (he1 : 1 ≤ x.e) (he2 : x.e ≤ 1048576) (hv : ¬ ((wasOf m k).e = x.e ∧ (wasOf m k).d = x.d)) (hee : x.e < (wasOf m k).e) : Calls Try.prog 9 #[.pointer (some ⟨B, 0, none⟩), .int .i64 k, .int .i64 x.e, .agg (v8 x.d).toArray, .agg (v8 x.t).toArray] w fun e w' => e = .returned (.int .i64 90) ∧ MkAt w' B b n N m ∧ Below w.heap.size w w' := by
  have hk64 : I64 k := by have := h.good; unfold I64; omega
  have hlk : ∀ w', MkAt w' B b n N m → (Instr.lookup 50 (.map (some b)) (.int .i64 k) false).run Try.prog w' = .ok (.agg (wasOf m k).cells.toArray) w' := fun w' h' => h'.mp.get k hk64
  have hyo := h.val k
  have hyo : (wasOf m k).ok := hyo
  have hcmp := fun w' => eqM (wasOf m k).e x.e (wasOf m k).d x.d hyo.dl hx.dl w'
  have hbm := fun w' => build_mark x.e (v8 x.d) (by rw [v8_length, hx.dl]) w'
  have hBw := h.lt
  have hbw := h.mp.lt
  generalize wasOf m k = yy at *
  obtain ⟨ye, yd, yt0⟩ := yy
  obtain ⟨xe, xd, xt⟩ := x
  simp only at *
  have hcb : ((ye == xe) && (yd == xd)) = false := by simpa using hv
  simp only [hcb] at hcmp
  clear hcb
  obtain ⟨u, hu⟩ : ∃ u, Hid (v8 xd = u) := ⟨_, hide rfl⟩
  obtain ⟨t, ht⟩ : ∃ u, Hid (v8 xt = u) := ⟨_, hide rfl⟩
  obtain ⟨y, hy⟩ : ∃ u, Hid (mkC ye yd = u) := ⟨_, hide rfl⟩
  obtain ⟨yt, hyt⟩ : ∃ u, Hid (v8 yt0 = u) := ⟨_, hide rfl⟩
  obtain ⟨c, hc⟩ : ∃ u, Hid (mkC xe xd = u) := ⟨_, hide rfl⟩
  have hy33 : y.length = 33 := by rw [← hy.out]; exact mkC_len _ hyo.dl
  have hc33 : c.length = 33 := by rw [← hc.out]; exact mkC_len _ hx.dl
  have hu32 : u.length = 32 := by rw [← hu.out, v8_length]; exact hx.dl
  have ht16 : t.length = 16 := by rw [← ht.out, v8_length]; exact hx.tl
  have hy1 : ∀ v ∈ y, v.oneCell' = true := by rw [← hy.out]; exact mkC_one _ _
  have hc1 : ∀ v ∈ c, v.oneCell' = true := by rw [← hc.out]; exact mkC_one _ _
  have y0 : y[0]? = some (.int .i64 ye) := by rw [← hy.out]; rfl
  have hiD : (Try.prog.info? 29).map (·.size) = some u.length := by rw [hu32]; exact iszD
  have hiT : (Try.prog.info? 31).map (·.size) = some t.length := by rw [ht16]; exact iszT
  have hiy : (Try.prog.info? 59).map (·.size) = some y.length := by rw [hy33]; exact iszM
  have hic : (Try.prog.info? 59).map (·.size) = some c.length := by rw [hc33]; exact iszM
  simp only [Mk.cells, hy.out, hyt.out] at hlk
  have hbm : ∀ w' : World, (Instr.build 59 #[(0, .int .i64 xe), (1, .agg u.toArray)]).run Try.prog w' = .ok (.agg c.toArray) w' := fun w' => by rw [← hc.out, ← hu.out]; exact hbm w'
  simp only [hy.out, hc.out] at hcmp
  rw [hu.out, ht.out]
  have hzm := zeroMk
  obtain ⟨zm, hzz⟩ : ∃ z, Hid (([Value.int .i64 0] ++ v8 (List.replicate 32 0)) = z) := ⟨_, hide rfl⟩
  have hzm33 : zm.length = 33 := by rw [← hzz.out]; rfl
  simp only [hzz.out] at hzm
  have hq : (ye == xe) = false := by simp; omega
  clear hzz hyt hy
  have HV := hide hv
  clear hv
  go_enter Try.func9, Try.ntmps9
  go_upto_region 1 with fail
  go_name_world w1 hw1
  obtain ⟨hB1, hRd, hRt, hsz1⟩ := two_box hw1
  clear hw1
  have h1 := h.below hB1
  have cM := isMade_yes B b n N m w1 h1
  have c0 := h1.c0
  go_wp2_with fail
  refine cM.mono ?_
  rintro _ wx ⟨rfl, hx'⟩
  obtain rfl := hx'.symm
  clear hx' cM
  go_upto_region 7 with fail
  clear c0
  have hS : SAd B b n N m w.heap.size u t w1.drew := ⟨h1.drew, (World.rangeAt_drew _ _ _ _).2 hRd, (World.rangeAt_drew _ _ _ _).2 hRt⟩
  have hb8 : Below w.heap.size w w1.drew := hB1.drew
  have hs8 : w.heap.size + 2 ≤ w1.drew.heap.size := hsz1
  refine hs_begin (S := SAd B b n N m w.heap.size u t) 14 rfl (by kernel_rfl) ?_
  obtain ⟨w8, hw8⟩ : ∃ w8, w1.drew = w8 := ⟨_, rfl⟩
  rw [hw8] at hS hb8 hs8 ⊢
  clear hw8 h1 hRd hRt hsz1 hB1
  refine hs_take (i := 0) (d := some 35) (v := ?_) rfl (by kernel_rfl) (by kernel_rfl) (by kernel_rfl) (by rfl) ?_ hS rfl ?_
  rotate_left
  · intro w' hw
    go_simp
    try with_reducible rfl
  simp only [Act.put, List.setIfInBounds_toArray, List.set_cons_zero, List.set_cons_succ]
  refine hs_take (i := 1) (d := some 36) (v := ?_) rfl (by kernel_rfl) (by kernel_rfl) (by kernel_rfl) (by rfl) ?_ hS rfl ?_
  rotate_left
  · intro w' hw
    go_simp
    try with_reducible rfl
  simp only [Act.put, List.setIfInBounds_toArray, List.set_cons_zero, List.set_cons_succ]
  refine hs_take (i := 2) (d := some 37) (v := ?_) rfl (by kernel_rfl) (by kernel_rfl) (by kernel_rfl) (by rfl) ?_ hS rfl ?_
  rotate_left
  · intro w' hw
    go_simp
    try with_reducible rfl
  simp only [Act.put, List.setIfInBounds_toArray, List.set_cons_zero, List.set_cons_succ]
  refine hs_take (i := 3) (d := some 38) (v := .map (some b)) rfl (by kernel_rfl) (by kernel_rfl) (by kernel_rfl) (by rfl) (fun w' hw => pl_one rfl rfl hw.1.c1 Try.underlying50 rfl) hS rfl ?_
  simp only [Act.put, List.setIfInBounds_toArray, List.set_cons_zero, List.set_cons_succ]
  refine hs_take (i := 4) (d := some 39) (v := ?_) rfl (by kernel_rfl) (by kernel_rfl) (by kernel_rfl) (by rfl) ?_ hS rfl ?_
  rotate_left
  · intro w' hw
    go_simp
    try with_reducible rfl
  simp only [Act.put, List.setIfInBounds_toArray, List.set_cons_zero, List.set_cons_succ]
  refine hs_take (i := 5) (d := some 40) (v := .agg (y ++ yt).toArray) rfl (by kernel_rfl) (by kernel_rfl) (by kernel_rfl) (by rfl) (fun w' hw => ex_look rfl rfl rfl (hlk w' hw.1)) hS rfl ?_
  simp only [Act.put, List.setIfInBounds_toArray, List.set_cons_zero, List.set_cons_succ]
  refine hs_take (i := 6) (d := some 41) (v := .agg y.toArray) rfl (by kernel_rfl) (by kernel_rfl) (by kernel_rfl) (by rfl) (fun w' hw => ex_field rfl rfl (run_field2 y yt hy33 w')) hS rfl ?_
  simp only [Act.put, List.setIfInBounds_toArray, List.set_cons_zero, List.set_cons_succ]
  refine hs_take (i := 7) (d := some 42) (v := ?_) rfl (by kernel_rfl) (by kernel_rfl) (by kernel_rfl) (by rfl) ?_ hS rfl ?_
  rotate_left
  · intro w' hw
    go_simp
    try with_reducible rfl
  simp only [Act.put, List.setIfInBounds_toArray, List.set_cons_zero, List.set_cons_succ]
  refine hs_take (i := 8) (d := some 43) (v := .agg u.toArray) rfl (by kernel_rfl) (by kernel_rfl) (by kernel_rfl) (by rfl) (fun w' hw => ex_mid rfl rfl hw.2.1 Try.underlying29 rfl hiD) hS rfl ?_
  simp only [Act.put, List.setIfInBounds_toArray, List.set_cons_zero, List.set_cons_succ]
  refine hs_take (i := 9) (d := some 44) (v := .agg c.toArray) rfl (by kernel_rfl) (by kernel_rfl) (by kernel_rfl) (by rfl) (fun w' hw => ex_build rfl rfl (hbm w')) hS rfl ?_
  simp only [Act.put, List.setIfInBounds_toArray, List.set_cons_zero, List.set_cons_succ]
  clear hlk hbm
  refine hs_fork (i := 10) (j := 11) (by kernel_rfl) ?_ ?_
  · have hb9 : Below w8.heap.size w8 (w8.alloc (.cells zm.toArray 59)) := (Below.refl _ _).alloc (Nat.le_refl _) _
    have hS := hS.below hb9 hs8
    refine st_run (i := 10) (d := some 11) (v := .pointer (some ⟨w8.heap.size, 0, none⟩)) (w' := w8.alloc (.cells zm.toArray 59)) rfl (by rfl) (ex_alloc rfl (hzm _)) rfl hS ?_
    simp only [Act.put, List.setIfInBounds_toArray, List.set_cons_zero, List.set_cons_succ]
    have hT9 := there_newN w8 zm.toArray 59 (n := 33) (by simpa using hzm33)
    obtain ⟨w9, hw9⟩ : ∃ w9, w8.alloc (.cells zm.toArray 59) = w9 := ⟨_, rfl⟩
    have hs9 : w9.heap.size = w8.heap.size + 1 := by rw [← hw9]; simp
    rw [hw9] at hS hb9 hT9 ⊢
    clear hw9
    have hb10 : Below w9.heap.size w9 (w9.alloc (.cells zm.toArray 59)) := (Below.refl _ _).alloc (Nat.le_refl _) _
    have hS := hS.below hb10 (by omega)
    refine hs_run (i := 11) (d := some 12) (v := .pointer (some ⟨w9.heap.size, 0, none⟩)) (w' := w9.alloc (.cells zm.toArray 59)) rfl (by kernel_rfl) (by rfl) (ex_alloc rfl (hzm _)) rfl hS ?_
    simp only [Act.put, List.setIfInBounds_toArray, List.set_cons_zero, List.set_cons_succ]
    have hT10 := there_newN w9 zm.toArray 59 (n := 33) (by simpa using hzm33)
    have hT9 := there_below hT9 hb10 (by omega)
    obtain ⟨w10, hw10⟩ : ∃ w10, w9.alloc (.cells zm.toArray 59) = w10 := ⟨_, rfl⟩
    have hs10 : w9.heap.size < w10.heap.size := by rw [← hw10]; simp
    rw [hw10] at hS hb10 hT10 hT9 ⊢
    clear hw10
    have hbl : Below w.heap.size w w10 := hb8.trans ((hb9.mono hb8.size).trans (hb10.mono (by have := hb8.size; omega)))
    obtain ⟨A, hA⟩ : ∃ A, A = w8.heap.size := ⟨_, rfl⟩
    obtain ⟨C, hC⟩ : ∃ C, C = w9.heap.size := ⟨_, rfl⟩
    have hTA : w10.there A 0 33 := by rw [hA]; exact hT9
    have hTC : w10.there C 0 33 := by rw [hC]; exact hT10
    have hAC : A ≠ C := by omega
    have hAw : w.heap.size + 2 ≤ A := by omega
    have hCw : w.heap.size + 2 ≤ C := by omega
    rw [← hA, ← hC]
    clear hb9 hb10 hT9 hT10 hs9 hs10 hb8 hA hC hs8
    have hA11 : (w10.setCells A 0 y).rangeAt A 0 y := World.rangeAt_setCells_same _ _ _ _ (by rw [hy33]; exact hTA)
    have hS := hS.set hAw hBw hbw 0 y
    refine hs_store (i := 12) (w' := w10.setCells A 0 y) rfl (by kernel_rfl) (by rfl) (ex_put (cs := y.toArray) rfl rfl rfl (by simpa [hy33] using hTA) (by simpa [hy33] using iszM) (all_one hy1)) rfl hS ?_
    have hTC := World.there_setCells hTC A 0 y
    have hbl := below_sets (B := w.heap.size) (b := A) (by omega) y 0 w10 hbl
    obtain ⟨w11, hw11⟩ : ∃ w11, w10.setCells A 0 y = w11 := ⟨_, rfl⟩
    rw [hw11] at hS hA11 hTC hbl ⊢
    clear hw11 hTA
    have hC12 : (w11.setCells C 0 c).rangeAt C 0 c := World.rangeAt_setCells_same _ _ _ _ (by rw [hc33]; exact hTC)
    have hA12 : (w11.setCells C 0 c).rangeAt A 0 y := World.rangeAt_setCells_apart hA11 _ _ _ (.inl hAC)
    have hS := hS.set hCw hBw hbw 0 c
    refine hs_store (i := 13) (w' := w11.setCells C 0 c) rfl (by kernel_rfl) (by rfl) (ex_put (cs := c.toArray) rfl rfl rfl (by simpa [hc33] using hTC) (by simpa [hc33] using iszM) (all_one hc1)) rfl hS ?_
    refine hs_done (by kernel_rfl) ?_
    have hbl := below_sets (B := w.heap.size) (b := C) (by omega) c 0 w11 hbl
    obtain ⟨w12, hw12⟩ : ∃ w12, w11.setCells C 0 c = w12 := ⟨_, rfl⟩
    rw [hw12] at hS hA12 hC12 hbl ⊢
    clear hw12 hA11 hTC
    have hAe := hA12 0 _ y0
    simp only [Nat.add_zero] at hAe
    go_upto_region 8 with fail
    try simp only [Act.put]
    refine pl_begin ?_
    refine pl_take (d := some 46) (v := .agg y.toArray) (by rfl) (ex_mid rfl rfl hA12 Try.underlying59 rfl hiy) rfl ?_
    simp only [Act.put, List.setIfInBounds_toArray, List.set_cons_zero, List.set_cons_succ]
    refine pl_take (d := some 47) (v := .agg c.toArray) (by rfl) (ex_mid rfl rfl hC12 Try.underlying59 rfl hic) rfl ?_
    simp only [Act.put, List.setIfInBounds_toArray, List.set_cons_zero, List.set_cons_succ]
    refine pl_take (d := some 48) (v := .bool false) (by rfl) (ex_bin rfl rfl rfl (by kernel_rfl) (hcmp w12)) rfl ?_
    simp only [Act.put, List.setIfInBounds_toArray, List.set_cons_zero, List.set_cons_succ]
    refine pl_take (d := some 45) (v := ?_) (by rfl) ?_ rfl ?_
    rotate_left
    · go_simp
      try with_reducible rfl
    simp only [Act.put, List.setIfInBounds_toArray, List.set_cons_zero, List.set_cons_succ]
    refine pl_nil ?_
    go_wp2_with fail
    go_ret
    exact ⟨rfl, hS.1, hbl⟩
  · have hb9 : Below w8.heap.size w8 (w8.alloc (.cells zm.toArray 59)) := (Below.refl _ _).alloc (Nat.le_refl _) _
    have hS := hS.below hb9 hs8
    refine st_run (i := 11) (d := some 12) (v := .pointer (some ⟨w8.heap.size, 0, none⟩)) (w' := w8.alloc (.cells zm.toArray 59)) rfl (by rfl) (ex_alloc rfl (hzm _)) rfl hS ?_
    simp only [Act.put, List.setIfInBounds_toArray, List.set_cons_zero, List.set_cons_succ]
    have hT9 := there_newN w8 zm.toArray 59 (n := 33) (by simpa using hzm33)
    obtain ⟨w9, hw9⟩ : ∃ w9, w8.alloc (.cells zm.toArray 59) = w9 := ⟨_, rfl⟩
    have hs9 : w9.heap.size = w8.heap.size + 1 := by rw [← hw9]; simp
    rw [hw9] at hS hb9 hT9 ⊢
    clear hw9
    have hb10 : Below w9.heap.size w9 (w9.alloc (.cells zm.toArray 59)) := (Below.refl _ _).alloc (Nat.le_refl _) _
    have hS := hS.below hb10 (by omega)
    refine hs_run (i := 10) (d := some 11) (v := .pointer (some ⟨w9.heap.size, 0, none⟩)) (w' := w9.alloc (.cells zm.toArray 59)) rfl (by kernel_rfl) (by rfl) (ex_alloc rfl (hzm _)) rfl hS ?_
    simp only [Act.put, List.setIfInBounds_toArray, List.set_cons_zero, List.set_cons_succ]
    have hT10 := there_newN w9 zm.toArray 59 (n := 33) (by simpa using hzm33)
    have hT9 := there_below hT9 hb10 (by omega)
    obtain ⟨w10, hw10⟩ : ∃ w10, w9.alloc (.cells zm.toArray 59) = w10 := ⟨_, rfl⟩
    have hs10 : w9.heap.size < w10.heap.size := by rw [← hw10]; simp
    rw [hw10] at hS hb10 hT10 hT9 ⊢
    clear hw10
    have hbl : Below w.heap.size w w10 := hb8.trans ((hb9.mono hb8.size).trans (hb10.mono (by have := hb8.size; omega)))
    obtain ⟨A, hA⟩ : ∃ A, A = w9.heap.size := ⟨_, rfl⟩
    obtain ⟨C, hC⟩ : ∃ C, C = w8.heap.size := ⟨_, rfl⟩
    have hTA : w10.there A 0 33 := by rw [hA]; exact hT10
    have hTC : w10.there C 0 33 := by rw [hC]; exact hT9
    have hAC : A ≠ C := by omega
    have hAw : w.heap.size + 2 ≤ A := by omega
    have hCw : w.heap.size + 2 ≤ C := by omega
    rw [← hA, ← hC]
    clear hb9 hb10 hT9 hT10 hs9 hs10 hb8 hA hC hs8
    have hA11 : (w10.setCells A 0 y).rangeAt A 0 y := World.rangeAt_setCells_same _ _ _ _ (by rw [hy33]; exact hTA)
    have hS := hS.set hAw hBw hbw 0 y
    refine hs_store (i := 12) (w' := w10.setCells A 0 y) rfl (by kernel_rfl) (by rfl) (ex_put (cs := y.toArray) rfl rfl rfl (by simpa [hy33] using hTA) (by simpa [hy33] using iszM) (all_one hy1)) rfl hS ?_
    have hTC := World.there_setCells hTC A 0 y
    have hbl := below_sets (B := w.heap.size) (b := A) (by omega) y 0 w10 hbl
    obtain ⟨w11, hw11⟩ : ∃ w11, w10.setCells A 0 y = w11 := ⟨_, rfl⟩
    rw [hw11] at hS hA11 hTC hbl ⊢
    clear hw11 hTA
    have hC12 : (w11.setCells C 0 c).rangeAt C 0 c := World.rangeAt_setCells_same _ _ _ _ (by rw [hc33]; exact hTC)
    have hA12 : (w11.setCells C 0 c).rangeAt A 0 y := World.rangeAt_setCells_apart hA11 _ _ _ (.inl hAC)
    have hS := hS.set hCw hBw hbw 0 c
    refine hs_store (i := 13) (w' := w11.setCells C 0 c) rfl (by kernel_rfl) (by rfl) (ex_put (cs := c.toArray) rfl rfl rfl (by simpa [hc33] using hTC) (by simpa [hc33] using iszM) (all_one hc1)) rfl hS ?_
    refine hs_done (by kernel_rfl) ?_
    have hbl := below_sets (B := w.heap.size) (b := C) (by omega) c 0 w11 hbl
    obtain ⟨w12, hw12⟩ : ∃ w12, w11.setCells C 0 c = w12 := ⟨_, rfl⟩
    rw [hw12] at hS hA12 hC12 hbl ⊢
    clear hw12 hA11 hTC
    have hAe := hA12 0 _ y0
    simp only [Nat.add_zero] at hAe
    go_upto_region 8 with fail
    try simp only [Act.put]
    refine pl_begin ?_
    refine pl_take (d := some 46) (v := .agg y.toArray) (by rfl) (ex_mid rfl rfl hA12 Try.underlying59 rfl hiy) rfl ?_
    simp only [Act.put, List.setIfInBounds_toArray, List.set_cons_zero, List.set_cons_succ]
    refine pl_take (d := some 47) (v := .agg c.toArray) (by rfl) (ex_mid rfl rfl hC12 Try.underlying59 rfl hic) rfl ?_
    simp only [Act.put, List.setIfInBounds_toArray, List.set_cons_zero, List.set_cons_succ]
    refine pl_take (d := some 48) (v := .bool false) (by rfl) (ex_bin rfl rfl rfl (by kernel_rfl) (hcmp w12)) rfl ?_
    simp only [Act.put, List.setIfInBounds_toArray, List.set_cons_zero, List.set_cons_succ]
    refine pl_take (d := some 45) (v := ?_) (by rfl) ?_ rfl ?_
    rotate_left
    · go_simp
      try with_reducible rfl
    simp only [Act.put, List.setIfInBounds_toArray, List.set_cons_zero, List.set_cons_succ]
    refine pl_nil ?_
    go_wp2_with fail
    go_ret
    exact ⟨rfl, hS.1, hbl⟩
/-- while Add puts a mark in -/
def SPut (B b n : Nat) (N : Int) (m : Int → Option Mk) (D C : Nat) (c t : List Value) (x : World) : Prop := (MkAt x B b n N m ∨ True) ∧ x.rangeAt C 0 c ∧ x.rangeAt (D + 1) 0 t ∧ x.cell? ⟨B, 1, none⟩ = some (.map (some b))
set_option maxRecDepth 100000 in
set_option maxHeartbeats 4000000 in
theorem add_put (B b n : Nat) (N : Int) (m : Int → Option Mk) (k : Int) (x : Mk) (hx : x.ok) (w : World) (h : MkAt w B b n N m) (hk : 0 ≤ k) (hk2 : k < N) (he1 : 1 ≤ x.e) (he2 : x.e ≤ 1048576) (hv : ¬ ((wasOf m k).e = x.e ∧ (wasOf m k).d = x.d)) (hee : (wasOf m k).e < x.e) (hn : n < 1000000) : Calls Try.prog 9 #[.pointer (some ⟨B, 0, none⟩), .int .i64 k, .int .i64 x.e, .agg (v8 x.d).toArray, .agg (v8 x.t).toArray] w fun e w' => e = .returned (.int .i64 0) ∧ MkAt w' B b (n + 1) N (putM m k x) ∧ Off (fun z => z = b) w w' := by
  have hk64 : I64 k := by have := h.good; unfold I64; omega
  have hlk : ∀ w', MkAt w' B b n N m → (Instr.lookup 50 (.map (some b)) (.int .i64 k) false).run Try.prog w' = .ok (.agg (wasOf m k).cells.toArray) w' := fun w' h' => h'.mp.get k hk64
  have hyo := h.val k
  have hyo : (wasOf m k).ok := hyo
  have hcmp := fun w' => eqM (wasOf m k).e x.e (wasOf m k).d x.d hyo.dl hx.dl w'
  have hbm := fun w' => build_mark x.e (v8 x.d) (by rw [v8_length, hx.dl]) w'
  have hBw := h.lt
  have hbw := h.mp.lt
  generalize wasOf m k = yy at *
  obtain ⟨ye, yd, yt0⟩ := yy
  obtain ⟨xe, xd, xt⟩ := x
  simp only at *
  have hcb : ((ye == xe) && (yd == xd)) = false := by simpa using hv
  simp only [hcb] at hcmp
  clear hcb
  obtain ⟨u, hu⟩ : ∃ u, Hid (v8 xd = u) := ⟨_, hide rfl⟩
  obtain ⟨t, ht⟩ : ∃ u, Hid (v8 xt = u) := ⟨_, hide rfl⟩
  obtain ⟨y, hy⟩ : ∃ u, Hid (mkC ye yd = u) := ⟨_, hide rfl⟩
  obtain ⟨yt, hyt⟩ : ∃ u, Hid (v8 yt0 = u) := ⟨_, hide rfl⟩
  obtain ⟨c, hc⟩ : ∃ u, Hid (mkC xe xd = u) := ⟨_, hide rfl⟩
  have hy33 : y.length = 33 := by rw [← hy.out]; exact mkC_len _ hyo.dl
  have hc33 : c.length = 33 := by rw [← hc.out]; exact mkC_len _ hx.dl
  have hu32 : u.length = 32 := by rw [← hu.out, v8_length]; exact hx.dl
  have ht16 : t.length = 16 := by rw [← ht.out, v8_length]; exact hx.tl
  have hy1 : ∀ v ∈ y, v.oneCell' = true := by rw [← hy.out]; exact mkC_one _ _
  have hc1 : ∀ v ∈ c, v.oneCell' = true := by rw [← hc.out]; exact mkC_one _ _
  have y0 : y[0]? = some (.int .i64 ye) := by rw [← hy.out]; rfl
  have hiD : (Try.prog.info? 29).map (·.size) = some u.length := by rw [hu32]; exact iszD
  have hiT : (Try.prog.info? 31).map (·.size) = some t.length := by rw [ht16]; exact iszT
  have hiy : (Try.prog.info? 59).map (·.size) = some y.length := by rw [hy33]; exact iszM
  have hic : (Try.prog.info? 59).map (·.size) = some c.length := by rw [hc33]; exact iszM
  simp only [Mk.cells, hy.out, hyt.out] at hlk
  have hbm : ∀ w' : World, (Instr.build 59 #[(0, .int .i64 xe), (1, .agg u.toArray)]).run Try.prog w' = .ok (.agg c.toArray) w' := fun w' => by rw [← hc.out, ← hu.out]; exact hbm w'
  simp only [hy.out, hc.out] at hcmp
  rw [hu.out, ht.out]
  have hzm := zeroMk
  obtain ⟨zm, hzz⟩ : ∃ z, Hid (([Value.int .i64 0] ++ v8 (List.replicate 32 0)) = z) := ⟨_, hide rfl⟩
  have hzm33 : zm.length = 33 := by rw [← hzz.out]; rfl
  simp only [hzz.out] at hzm
  have hq : (ye == xe) = false := by simp; omega
  have c00 : c[0]? = some (.int .i64 xe) := by rw [← hc.out]; rfl
  clear hzz hyt hy
  have HV := hide hv
  clear hv
  go_enter Try.func9, Try.ntmps9
  go_upto_region 1 with fail
  go_name_world w1 hw1
  obtain ⟨hB1, hRd, hRt, hsz1⟩ := two_box hw1
  clear hw1
  have h1 := h.below hB1
  have cM := isMade_yes B b n N m w1 h1
  have c0 := h1.c0
  go_wp2_with fail
  refine cM.mono ?_
  rintro _ wx ⟨rfl, hx'⟩
  obtain rfl := hx'.symm
  clear hx' cM
  go_upto_region 7 with fail
  clear c0
  have hS : SAd B b n N m w.heap.size u t w1.drew := ⟨h1.drew, (World.rangeAt_drew _ _ _ _).2 hRd, (World.rangeAt_drew _ _ _ _).2 hRt⟩
  have hb8 : Below w.heap.size w w1.drew := hB1.drew
  have hs8 : w.heap.size + 2 ≤ w1.drew.heap.size := hsz1
  refine hs_begin (S := SAd B b n N m w.heap.size u t) 14 rfl (by kernel_rfl) ?_
  obtain ⟨w8, hw8⟩ : ∃ w8, w1.drew = w8 := ⟨_, rfl⟩
  rw [hw8] at hS hb8 hs8 ⊢
  clear hw8 h1 hRd hRt hsz1 hB1
  refine hs_take (i := 0) (d := some 35) (v := ?_) rfl (by kernel_rfl) (by kernel_rfl) (by kernel_rfl) (by rfl) ?_ hS rfl ?_
  rotate_left
  · intro w' hw
    go_simp
    try with_reducible rfl
  simp only [Act.put, List.setIfInBounds_toArray, List.set_cons_zero, List.set_cons_succ]
  refine hs_take (i := 1) (d := some 36) (v := ?_) rfl (by kernel_rfl) (by kernel_rfl) (by kernel_rfl) (by rfl) ?_ hS rfl ?_
  rotate_left
  · intro w' hw
    go_simp
    try with_reducible rfl
  simp only [Act.put, List.setIfInBounds_toArray, List.set_cons_zero, List.set_cons_succ]
  refine hs_take (i := 2) (d := some 37) (v := ?_) rfl (by kernel_rfl) (by kernel_rfl) (by kernel_rfl) (by rfl) ?_ hS rfl ?_
  rotate_left
  · intro w' hw
    go_simp
    try with_reducible rfl
  simp only [Act.put, List.setIfInBounds_toArray, List.set_cons_zero, List.set_cons_succ]
  refine hs_take (i := 3) (d := some 38) (v := .map (some b)) rfl (by kernel_rfl) (by kernel_rfl) (by kernel_rfl) (by rfl) (fun w' hw => pl_one rfl rfl hw.1.c1 Try.underlying50 rfl) hS rfl ?_
  simp only [Act.put, List.setIfInBounds_toArray, List.set_cons_zero, List.set_cons_succ]
  refine hs_take (i := 4) (d := some 39) (v := ?_) rfl (by kernel_rfl) (by kernel_rfl) (by kernel_rfl) (by rfl) ?_ hS rfl ?_
  rotate_left
  · intro w' hw
    go_simp
    try with_reducible rfl
  simp only [Act.put, List.setIfInBounds_toArray, List.set_cons_zero, List.set_cons_succ]
  refine hs_take (i := 5) (d := some 40) (v := .agg (y ++ yt).toArray) rfl (by kernel_rfl) (by kernel_rfl) (by kernel_rfl) (by rfl) (fun w' hw => ex_look rfl rfl rfl (hlk w' hw.1)) hS rfl ?_
  simp only [Act.put, List.setIfInBounds_toArray, List.set_cons_zero, List.set_cons_succ]
  refine hs_take (i := 6) (d := some 41) (v := .agg y.toArray) rfl (by kernel_rfl) (by kernel_rfl) (by kernel_rfl) (by rfl) (fun w' hw => ex_field rfl rfl (run_field2 y yt hy33 w')) hS rfl ?_
  simp only [Act.put, List.setIfInBounds_toArray, List.set_cons_zero, List.set_cons_succ]
  refine hs_take (i := 7) (d := some 42) (v := ?_) rfl (by kernel_rfl) (by kernel_rfl) (by kernel_rfl) (by rfl) ?_ hS rfl ?_
  rotate_left
  · intro w' hw
    go_simp
    try with_reducible rfl
  simp only [Act.put, List.setIfInBounds_toArray, List.set_cons_zero, List.set_cons_succ]
  refine hs_take (i := 8) (d := some 43) (v := .agg u.toArray) rfl (by kernel_rfl) (by kernel_rfl) (by kernel_rfl) (by rfl) (fun w' hw => ex_mid rfl rfl hw.2.1 Try.underlying29 rfl hiD) hS rfl ?_
  simp only [Act.put, List.setIfInBounds_toArray, List.set_cons_zero, List.set_cons_succ]
  refine hs_take (i := 9) (d := some 44) (v := .agg c.toArray) rfl (by kernel_rfl) (by kernel_rfl) (by kernel_rfl) (by rfl) (fun w' hw => ex_build rfl rfl (hbm w')) hS rfl ?_
  simp only [Act.put, List.setIfInBounds_toArray, List.set_cons_zero, List.set_cons_succ]
  clear hlk hbm
  refine hs_fork (i := 10) (j := 11) (by kernel_rfl) ?_ ?_
  · have hb9 : Below w8.heap.size w8 (w8.alloc (.cells zm.toArray 59)) := (Below.refl _ _).alloc (Nat.le_refl _) _
    have hS := hS.below hb9 hs8
    refine st_run (i := 10) (d := some 11) (v := .pointer (some ⟨w8.heap.size, 0, none⟩)) (w' := w8.alloc (.cells zm.toArray 59)) rfl (by rfl) (ex_alloc rfl (hzm _)) rfl hS ?_
    simp only [Act.put, List.setIfInBounds_toArray, List.set_cons_zero, List.set_cons_succ]
    have hT9 := there_newN w8 zm.toArray 59 (n := 33) (by simpa using hzm33)
    obtain ⟨w9, hw9⟩ : ∃ w9, w8.alloc (.cells zm.toArray 59) = w9 := ⟨_, rfl⟩
    have hs9 : w9.heap.size = w8.heap.size + 1 := by rw [← hw9]; simp
    rw [hw9] at hS hb9 hT9 ⊢
    clear hw9
    have hb10 : Below w9.heap.size w9 (w9.alloc (.cells zm.toArray 59)) := (Below.refl _ _).alloc (Nat.le_refl _) _
    have hS := hS.below hb10 (by omega)
    refine hs_run (i := 11) (d := some 12) (v := .pointer (some ⟨w9.heap.size, 0, none⟩)) (w' := w9.alloc (.cells zm.toArray 59)) rfl (by kernel_rfl) (by rfl) (ex_alloc rfl (hzm _)) rfl hS ?_
    simp only [Act.put, List.setIfInBounds_toArray, List.set_cons_zero, List.set_cons_succ]
    have hT10 := there_newN w9 zm.toArray 59 (n := 33) (by simpa using hzm33)
    have hT9 := there_below hT9 hb10 (by omega)
    obtain ⟨w10, hw10⟩ : ∃ w10, w9.alloc (.cells zm.toArray 59) = w10 := ⟨_, rfl⟩
    have hs10 : w9.heap.size < w10.heap.size := by rw [← hw10]; simp
    rw [hw10] at hS hb10 hT10 hT9 ⊢
    clear hw10
    have hbl : Below w.heap.size w w10 := hb8.trans ((hb9.mono hb8.size).trans (hb10.mono (by have := hb8.size; omega)))
    obtain ⟨A, hA⟩ : ∃ A, A = w8.heap.size := ⟨_, rfl⟩
    obtain ⟨C, hC⟩ : ∃ C, C = w9.heap.size := ⟨_, rfl⟩
    have hTA : w10.there A 0 33 := by rw [hA]; exact hT9
    have hTC : w10.there C 0 33 := by rw [hC]; exact hT10
    have hAC : A ≠ C := by omega
    have hAw : w.heap.size + 2 ≤ A := by omega
    have hCw : w.heap.size + 2 ≤ C := by omega
    rw [← hA, ← hC]
    clear hb9 hb10 hT9 hT10 hs9 hs10 hb8 hA hC hs8
    have hA11 : (w10.setCells A 0 y).rangeAt A 0 y := World.rangeAt_setCells_same _ _ _ _ (by rw [hy33]; exact hTA)
    have hS := hS.set hAw hBw hbw 0 y
    refine hs_store (i := 12) (w' := w10.setCells A 0 y) rfl (by kernel_rfl) (by rfl) (ex_put (cs := y.toArray) rfl rfl rfl (by simpa [hy33] using hTA) (by simpa [hy33] using iszM) (all_one hy1)) rfl hS ?_
    have hTC := World.there_setCells hTC A 0 y
    have hbl := below_sets (B := w.heap.size) (b := A) (by omega) y 0 w10 hbl
    obtain ⟨w11, hw11⟩ : ∃ w11, w10.setCells A 0 y = w11 := ⟨_, rfl⟩
    rw [hw11] at hS hA11 hTC hbl ⊢
    clear hw11 hTA
    have hC12 : (w11.setCells C 0 c).rangeAt C 0 c := World.rangeAt_setCells_same _ _ _ _ (by rw [hc33]; exact hTC)
    have hA12 : (w11.setCells C 0 c).rangeAt A 0 y := World.rangeAt_setCells_apart hA11 _ _ _ (.inl hAC)
    have hS := hS.set hCw hBw hbw 0 c
    refine hs_store (i := 13) (w' := w11.setCells C 0 c) rfl (by kernel_rfl) (by rfl) (ex_put (cs := c.toArray) rfl rfl rfl (by simpa [hc33] using hTC) (by simpa [hc33] using iszM) (all_one hc1)) rfl hS ?_
    refine hs_done (by kernel_rfl) ?_
    have hbl := below_sets (B := w.heap.size) (b := C) (by omega) c 0 w11 hbl
    obtain ⟨w12, hw12⟩ : ∃ w12, w11.setCells C 0 c = w12 := ⟨_, rfl⟩
    rw [hw12] at hS hA12 hC12 hbl ⊢
    clear hw12 hA11 hTC
    have hAe := hA12 0 _ y0
    simp only [Nat.add_zero] at hAe
    go_upto_region 8 with fail
    try simp only [Act.put]
    refine pl_begin ?_
    refine pl_take (d := some 46) (v := .agg y.toArray) (by rfl) (ex_mid rfl rfl hA12 Try.underlying59 rfl hiy) rfl ?_
    simp only [Act.put, List.setIfInBounds_toArray, List.set_cons_zero, List.set_cons_succ]
    refine pl_take (d := some 47) (v := .agg c.toArray) (by rfl) (ex_mid rfl rfl hC12 Try.underlying59 rfl hic) rfl ?_
    simp only [Act.put, List.setIfInBounds_toArray, List.set_cons_zero, List.set_cons_succ]
    refine pl_take (d := some 48) (v := .bool false) (by rfl) (ex_bin rfl rfl rfl (by kernel_rfl) (hcmp w12)) rfl ?_
    simp only [Act.put, List.setIfInBounds_toArray, List.set_cons_zero, List.set_cons_succ]
    refine pl_take (d := some 45) (v := ?_) (by rfl) ?_ rfl ?_
    rotate_left
    · go_simp
      try with_reducible rfl
    simp only [Act.put, List.setIfInBounds_toArray, List.set_cons_zero, List.set_cons_succ]
    refine pl_nil ?_
    go_upto_region 14 with fail
    have hM13 : MkAt w12.drew B b n N m := hS.1.drew
    have hS : SPut B b n N m w.heap.size C c t w12.drew := ⟨.inr trivial, (World.rangeAt_drew _ _ _ _).2 hC12, (World.rangeAt_drew _ _ _ _).2 hS.2.2, hM13.c1⟩
    have hbl := hbl.drew
    refine hs_begin (S := SPut B b n N m w.heap.size C c t) 9 rfl (by kernel_rfl) ?_
    obtain ⟨w13, hw13⟩ : ∃ w13, w12.drew = w13 := ⟨_, rfl⟩
    rw [hw13] at hS hbl hM13 ⊢
    clear hw13
    refine hs_take (i := 0) (d := some 59) (v := ?_) rfl (by kernel_rfl) (by kernel_rfl) (by kernel_rfl) (by rfl) ?_ hS rfl ?_
    rotate_left
    · intro w' hw
      go_simp
      try with_reducible rfl
    simp only [Act.put, List.setIfInBounds_toArray, List.set_cons_zero, List.set_cons_succ]
    refine hs_take (i := 1) (d := some 60) (v := ?_) rfl (by kernel_rfl) (by kernel_rfl) (by kernel_rfl) (by rfl) ?_ hS rfl ?_
    rotate_left
    · intro w' hw
      go_simp
      try with_reducible rfl
    simp only [Act.put, List.setIfInBounds_toArray, List.set_cons_zero, List.set_cons_succ]
    refine hs_take (i := 2) (d := some 61) (v := ?_) rfl (by kernel_rfl) (by kernel_rfl) (by kernel_rfl) (by rfl) ?_ hS rfl ?_
    rotate_left
    · intro w' hw
      go_simp
      try with_reducible rfl
    simp only [Act.put, List.setIfInBounds_toArray, List.set_cons_zero, List.set_cons_succ]
    refine hs_take (i := 3) (d := some 62) (v := .map (some b)) rfl (by kernel_rfl) (by kernel_rfl) (by kernel_rfl) (by rfl) (fun w' hw => pl_one rfl rfl hw.2.2.2 Try.underlying50 rfl) hS rfl ?_
    simp only [Act.put, List.setIfInBounds_toArray, List.set_cons_zero, List.set_cons_succ]
    refine hs_take (i := 4) (d := some 63) (v := ?_) rfl (by kernel_rfl) (by kernel_rfl) (by kernel_rfl) (by rfl) ?_ hS rfl ?_
    rotate_left
    · intro w' hw
      go_simp
      try with_reducible rfl
    simp only [Act.put, List.setIfInBounds_toArray, List.set_cons_zero, List.set_cons_succ]
    refine hs_take (i := 5) (d := some 64) (v := .agg c.toArray) rfl (by kernel_rfl) (by kernel_rfl) (by kernel_rfl) (by rfl) (fun w' hw => ex_mid rfl rfl hw.2.1 Try.underlying59 rfl hic) hS rfl ?_
    simp only [Act.put, List.setIfInBounds_toArray, List.set_cons_zero, List.set_cons_succ]
    refine hs_take (i := 6) (d := some 65) (v := .agg t.toArray) rfl (by kernel_rfl) (by kernel_rfl) (by kernel_rfl) (by rfl) (fun w' hw => ex_mid rfl rfl hw.2.2.1 Try.underlying31 rfl hiT) hS rfl ?_
    simp only [Act.put, List.setIfInBounds_toArray, List.set_cons_zero, List.set_cons_succ]
    refine hs_take (i := 7) (d := some 66) (v := .agg (c ++ t).toArray) rfl (by kernel_rfl) (by kernel_rfl) (by kernel_rfl) (by rfl) (fun w' hw => ex_build rfl rfl (build_signed c t hc33 ht16 w')) hS rfl ?_
    simp only [Act.put, List.setIfInBounds_toArray, List.set_cons_zero, List.set_cons_succ]
    obtain ⟨w14, hrun, hm14, hg14⟩ := hM13.mp.store k hk64 ⟨xe, xd, xt⟩ hn
    simp only [Mk.cells, hc.out, ht.out] at hrun
    have hdone := add_done h hx ⟨hk, hk2⟩ ⟨he1, he2⟩ hM13 hm14 hg14 hbl
    have hClt : C < w13.heap.size := by
      rcases Nat.lt_or_ge C w13.heap.size with q | q
      · exact q
      · have := hS.2.1 0 _ c00
        simp [World.cell?, q] at this
    have hne := h.ne
    have hS14 : SPut B b n N m w.heap.size C c t w14 := ⟨.inr trivial, range_at hS.2.1 (hg14.block _ hClt (fun q => by injection q with q; omega)), range_at hS.2.2.1 (hg14.block _ (by omega) (fun q => by injection q with q; omega)), hdone.1.c1⟩
    refine hs_store (i := 8) (w' := w14) rfl (by kernel_rfl) (by rfl) (ex_update rfl rfl rfl rfl hrun) rfl hS14 ?_
    refine hs_done (by kernel_rfl) ?_
    go_wp2_with fail
    go_ret
    exact ⟨rfl, hdone⟩
  · have hb9 : Below w8.heap.size w8 (w8.alloc (.cells zm.toArray 59)) := (Below.refl _ _).alloc (Nat.le_refl _) _
    have hS := hS.below hb9 hs8
    refine st_run (i := 11) (d := some 12) (v := .pointer (some ⟨w8.heap.size, 0, none⟩)) (w' := w8.alloc (.cells zm.toArray 59)) rfl (by rfl) (ex_alloc rfl (hzm _)) rfl hS ?_
    simp only [Act.put, List.setIfInBounds_toArray, List.set_cons_zero, List.set_cons_succ]
    have hT9 := there_newN w8 zm.toArray 59 (n := 33) (by simpa using hzm33)
    obtain ⟨w9, hw9⟩ : ∃ w9, w8.alloc (.cells zm.toArray 59) = w9 := ⟨_, rfl⟩
    have hs9 : w9.heap.size = w8.heap.size + 1 := by rw [← hw9]; simp
    rw [hw9] at hS hb9 hT9 ⊢
    clear hw9
    have hb10 : Below w9.heap.size w9 (w9.alloc (.cells zm.toArray 59)) := (Below.refl _ _).alloc (Nat.le_refl _) _
    have hS := hS.below hb10 (by omega)
    refine hs_run (i := 10) (d := some 11) (v := .pointer (some ⟨w9.heap.size, 0, none⟩)) (w' := w9.alloc (.cells zm.toArray 59)) rfl (by kernel_rfl) (by rfl) (ex_alloc rfl (hzm _)) rfl hS ?_
    simp only [Act.put, List.setIfInBounds_toArray, List.set_cons_zero, List.set_cons_succ]
    have hT10 := there_newN w9 zm.toArray 59 (n := 33) (by simpa using hzm33)
    have hT9 := there_below hT9 hb10 (by omega)
    obtain ⟨w10, hw10⟩ : ∃ w10, w9.alloc (.cells zm.toArray 59) = w10 := ⟨_, rfl⟩
    have hs10 : w9.heap.size < w10.heap.size := by rw [← hw10]; simp
    rw [hw10] at hS hb10 hT10 hT9 ⊢
    clear hw10
    have hbl : Below w.heap.size w w10 := hb8.trans ((hb9.mono hb8.size).trans (hb10.mono (by have := hb8.size; omega)))
    obtain ⟨A, hA⟩ : ∃ A, A = w9.heap.size := ⟨_, rfl⟩
    obtain ⟨C, hC⟩ : ∃ C, C = w8.heap.size := ⟨_, rfl⟩
    have hTA : w10.there A 0 33 := by rw [hA]; exact hT10
    have hTC : w10.there C 0 33 := by rw [hC]; exact hT9
    have hAC : A ≠ C := by omega
    have hAw : w.heap.size + 2 ≤ A := by omega
    have hCw : w.heap.size + 2 ≤ C := by omega
    rw [← hA, ← hC]
    clear hb9 hb10 hT9 hT10 hs9 hs10 hb8 hA hC hs8
    have hA11 : (w10.setCells A 0 y).rangeAt A 0 y := World.rangeAt_setCells_same _ _ _ _ (by rw [hy33]; exact hTA)
    have hS := hS.set hAw hBw hbw 0 y
    refine hs_store (i := 12) (w' := w10.setCells A 0 y) rfl (by kernel_rfl) (by rfl) (ex_put (cs := y.toArray) rfl rfl rfl (by simpa [hy33] using hTA) (by simpa [hy33] using iszM) (all_one hy1)) rfl hS ?_
    have hTC := World.there_setCells hTC A 0 y
    have hbl := below_sets (B := w.heap.size) (b := A) (by omega) y 0 w10 hbl
    obtain ⟨w11, hw11⟩ : ∃ w11, w10.setCells A 0 y = w11 := ⟨_, rfl⟩
    rw [hw11] at hS hA11 hTC hbl ⊢
    clear hw11 hTA
    have hC12 : (w11.setCells C 0 c).rangeAt C 0 c := World.rangeAt_setCells_same _ _ _ _ (by rw [hc33]; exact hTC)
    have hA12 : (w11.setCells C 0 c).rangeAt A 0 y := World.rangeAt_setCells_apart hA11 _ _ _ (.inl hAC)
    have hS := hS.set hCw hBw hbw 0 c
    refine hs_store (i := 13) (w' := w11.setCells C 0 c) rfl (by kernel_rfl) (by rfl) (ex_put (cs := c.toArray) rfl rfl rfl (by simpa [hc33] using hTC) (by simpa [hc33] using iszM) (all_one hc1)) rfl hS ?_
    refine hs_done (by kernel_rfl) ?_
    have hbl := below_sets (B := w.heap.size) (b := C) (by omega) c 0 w11 hbl
    obtain ⟨w12, hw12⟩ : ∃ w12, w11.setCells C 0 c = w12 := ⟨_, rfl⟩
    rw [hw12] at hS hA12 hC12 hbl ⊢
    clear hw12 hA11 hTC
    have hAe := hA12 0 _ y0
    simp only [Nat.add_zero] at hAe
    go_upto_region 8 with fail
    try simp only [Act.put]
    refine pl_begin ?_
    refine pl_take (d := some 46) (v := .agg y.toArray) (by rfl) (ex_mid rfl rfl hA12 Try.underlying59 rfl hiy) rfl ?_
    simp only [Act.put, List.setIfInBounds_toArray, List.set_cons_zero, List.set_cons_succ]
    refine pl_take (d := some 47) (v := .agg c.toArray) (by rfl) (ex_mid rfl rfl hC12 Try.underlying59 rfl hic) rfl ?_
    simp only [Act.put, List.setIfInBounds_toArray, List.set_cons_zero, List.set_cons_succ]
    refine pl_take (d := some 48) (v := .bool false) (by rfl) (ex_bin rfl rfl rfl (by kernel_rfl) (hcmp w12)) rfl ?_
    simp only [Act.put, List.setIfInBounds_toArray, List.set_cons_zero, List.set_cons_succ]
    refine pl_take (d := some 45) (v := ?_) (by rfl) ?_ rfl ?_
    rotate_left
    · go_simp
      try with_reducible rfl
    simp only [Act.put, List.setIfInBounds_toArray, List.set_cons_zero, List.set_cons_succ]
    refine pl_nil ?_
    go_upto_region 14 with fail
    have hM13 : MkAt w12.drew B b n N m := hS.1.drew
    have hS : SPut B b n N m w.heap.size C c t w12.drew := ⟨.inr trivial, (World.rangeAt_drew _ _ _ _).2 hC12, (World.rangeAt_drew _ _ _ _).2 hS.2.2, hM13.c1⟩
    have hbl := hbl.drew
    refine hs_begin (S := SPut B b n N m w.heap.size C c t) 9 rfl (by kernel_rfl) ?_
    obtain ⟨w13, hw13⟩ : ∃ w13, w12.drew = w13 := ⟨_, rfl⟩
    rw [hw13] at hS hbl hM13 ⊢
    clear hw13
    refine hs_take (i := 0) (d := some 59) (v := ?_) rfl (by kernel_rfl) (by kernel_rfl) (by kernel_rfl) (by rfl) ?_ hS rfl ?_
    rotate_left
    · intro w' hw
      go_simp
      try with_reducible rfl
    simp only [Act.put, List.setIfInBounds_toArray, List.set_cons_zero, List.set_cons_succ]
    refine hs_take (i := 1) (d := some 60) (v := ?_) rfl (by kernel_rfl) (by kernel_rfl) (by kernel_rfl) (by rfl) ?_ hS rfl ?_
    rotate_left
    · intro w' hw
      go_simp
      try with_reducible rfl
    simp only [Act.put, List.setIfInBounds_toArray, List.set_cons_zero, List.set_cons_succ]
    refine hs_take (i := 2) (d := some 61) (v := ?_) rfl (by kernel_rfl) (by kernel_rfl) (by kernel_rfl) (by rfl) ?_ hS rfl ?_
    rotate_left
    · intro w' hw
      go_simp
      try with_reducible rfl
    simp only [Act.put, List.setIfInBounds_toArray, List.set_cons_zero, List.set_cons_succ]
    refine hs_take (i := 3) (d := some 62) (v := .map (some b)) rfl (by kernel_rfl) (by kernel_rfl) (by kernel_rfl) (by rfl) (fun w' hw => pl_one rfl rfl hw.2.2.2 Try.underlying50 rfl) hS rfl ?_
    simp only [Act.put, List.setIfInBounds_toArray, List.set_cons_zero, List.set_cons_succ]
    refine hs_take (i := 4) (d := some 63) (v := ?_) rfl (by kernel_rfl) (by kernel_rfl) (by kernel_rfl) (by rfl) ?_ hS rfl ?_
    rotate_left
    · intro w' hw
      go_simp
      try with_reducible rfl
    simp only [Act.put, List.setIfInBounds_toArray, List.set_cons_zero, List.set_cons_succ]
    refine hs_take (i := 5) (d := some 64) (v := .agg c.toArray) rfl (by kernel_rfl) (by kernel_rfl) (by kernel_rfl) (by rfl) (fun w' hw => ex_mid rfl rfl hw.2.1 Try.underlying59 rfl hic) hS rfl ?_
    simp only [Act.put, List.setIfInBounds_toArray, List.set_cons_zero, List.set_cons_succ]
    refine hs_take (i := 6) (d := some 65) (v := .agg t.toArray) rfl (by kernel_rfl) (by kernel_rfl) (by kernel_rfl) (by rfl) (fun w' hw => ex_mid rfl rfl hw.2.2.1 Try.underlying31 rfl hiT) hS rfl ?_
    simp only [Act.put, List.setIfInBounds_toArray, List.set_cons_zero, List.set_cons_succ]
    refine hs_take (i := 7) (d := some 66) (v := .agg (c ++ t).toArray) rfl (by kernel_rfl) (by kernel_rfl) (by kernel_rfl) (by rfl) (fun w' hw => ex_build rfl rfl (build_signed c t hc33 ht16 w')) hS rfl ?_
    simp only [Act.put, List.setIfInBounds_toArray, List.set_cons_zero, List.set_cons_succ]
    obtain ⟨w14, hrun, hm14, hg14⟩ := hM13.mp.store k hk64 ⟨xe, xd, xt⟩ hn
    simp only [Mk.cells, hc.out, ht.out] at hrun
    have hdone := add_done h hx ⟨hk, hk2⟩ ⟨he1, he2⟩ hM13 hm14 hg14 hbl
    have hClt : C < w13.heap.size := by
      rcases Nat.lt_or_ge C w13.heap.size with q | q
      · exact q
      · have := hS.2.1 0 _ c00
        simp [World.cell?, q] at this
    have hne := h.ne
    have hS14 : SPut B b n N m w.heap.size C c t w14 := ⟨.inr trivial, range_at hS.2.1 (hg14.block _ hClt (fun q => by injection q with q; omega)), range_at hS.2.2.1 (hg14.block _ (by omega) (fun q => by injection q with q; omega)), hdone.1.c1⟩
    refine hs_store (i := 8) (w' := w14) rfl (by kernel_rfl) (by rfl) (ex_update rfl rfl rfl rfl hrun) rfl hS14 ?_
    refine hs_done (by kernel_rfl) ?_
    go_wp2_with fail
    go_ret
    exact ⟨rfl, hdone⟩
theorem add_any (B b n : Nat) (N : Int) (m : Int → Option Mk) (k : Int) (x : Mk) (hx : x.ok) (w : World) (h : MkAt w B b n N m) (hn : n < 1000000) : Calls Try.prog 9 #[.pointer (some ⟨B, 0, none⟩), .int .i64 k, .int .i64 x.e, .agg (v8 x.d).toArray, .agg (v8 x.t).toArray] w fun e w' => e = .returned (.int .i64 (addE N m k x)) ∧ MkAt w' B b (n + 1) N (addM N m k x) ∧ Off (fun z => z = b) w w' := by
  have mo : ∀ {w' : World}, MkAt w' B b n N m → MkAt w' B b (n + 1) N m := fun q => ⟨q.lt, q.c0, q.c1, q.mp.more (Nat.le_succ _), q.good, q.ok⟩
  by_cases hbd : bad N k x.e = true
  · unfold addE addM
    rw [if_pos hbd, if_pos hbd]
    have hh : k < 0 ∨ N ≤ k ∨ x.e < 1 ∨ 1048576 < x.e := by simpa [bad] using hbd
    have fin : ∀ {e : Ending} {w' : World}, (e = .returned (.int .i64 2) ∧ Below w.heap.size w w') → e = .returned (.int .i64 2) ∧ MkAt w' B b (n + 1) N m ∧ Off (fun z => z = b) w w' := fun q => ⟨q.1, mo (h.below q.2), Off.of_below q.2⟩
    by_cases q1 : k < 0
    · exact (add_b1 B b n N m k x.e _ _ w h q1).mono (fun _ _ q => fin q)
    · by_cases q2 : N ≤ k
      · exact (add_b2 B b n N m k x.e _ _ w h (by omega) q2).mono (fun _ _ q => fin q)
      · by_cases q3 : x.e < 1
        · exact (add_b3 B b n N m k x.e _ _ w h (by omega) (by omega) q3).mono (fun _ _ q => fin q)
        · exact (add_b4 B b n N m k x.e _ _ w h (by omega) (by omega) (by omega) (by omega)).mono (fun _ _ q => fin q)
  · unfold addE addM
    rw [if_neg hbd, if_neg hbd]
    have hh : ¬ (k < 0 ∨ N ≤ k ∨ x.e < 1 ∨ 1048576 < x.e) := by simpa [bad] using hbd
    by_cases hv : (wasOf m k).e = x.e ∧ (wasOf m k).d = x.d
    · rw [if_pos hv, if_neg (by omega)]
      exact (add_same B b n N m k x hx w h (by omega) (by omega) (by omega) (by omega) hv).mono (fun _ _ q => ⟨q.1, mo q.2.1, Off.of_below q.2.2⟩)
    · rw [if_neg hv]
      by_cases he : (wasOf m k).e = x.e
      · rw [if_pos he, if_neg (by omega)]
        exact (add_other B b n N m k x hx w h (by omega) (by omega) (by omega) (by omega) hv he).mono (fun _ _ q => ⟨q.1, mo q.2.1, Off.of_below q.2.2⟩)
      · rw [if_neg he]
        by_cases ho : x.e < (wasOf m k).e
        · rw [if_pos ho, if_neg (by omega)]
          exact (add_old B b n N m k x hx w h (by omega) (by omega) (by omega) (by omega) hv ho).mono (fun _ _ q => ⟨q.1, mo q.2.1, Off.of_below q.2.2⟩)
        · rw [if_neg ho, if_pos (by omega)]
          exact add_put B b n N m k x hx w h (by omega) (by omega) (by omega) (by omega) hv (by omega) hn
end Go.Proofs.Ytfaagiilldkdgaa
