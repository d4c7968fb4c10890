/- Add: what is refused, or there already -/
import Derived.Test.YtogmkcabndgllaaV4
namespace Go.Proofs.Ytogmkcabndgllaa
open Go.RowKit
theorem wpList_load_g {P : Program} {ops : Array Oper} {rest : List Oper} {op : Oper} {a : Act} {w : World} {Q : Exit → Act → World → Prop} (hgd : Region.wanted op (yielded ops a.tmps) = true) (ty : TypeId) (x : Operand) (ho : op.op = .load ty x)
    (b o : Nat) (hx : a.eval x = .pointer (some ⟨b, o, none⟩)) (cs : List Value) (d : TypeDesc) (hc : w.rangeAt b o cs)
    (hu : P.underlying ty = some d) (hd : d.isRow = true) (hi : (P.info? ty).map (·.size) = some cs.length)
    (h : wpList P ops Q rest (a.put op.dst (.agg cs.toArray)) w) : wpList P ops Q (op :: rest) a w :=
  wpList_step fun _ hK => by rw [if_pos hgd]; exact wp_load_mid ty x ho b o hx cs d hc hu hd hi (hK _ _ h)
theorem two_box {w : World} (q r : List Value) (t t' : TypeId) : Below w.heap.size w ((w.alloc (.cells q.toArray t)).alloc (.cells r.toArray t')) ∧ ((w.alloc (.cells q.toArray t)).alloc (.cells r.toArray t')).rangeAt w.heap.size 0 q ∧ ((w.alloc (.cells q.toArray t)).alloc (.cells r.toArray t')).rangeAt (w.heap.size + 1) 0 r ∧ w.heap.size + 2 ≤ ((w.alloc (.cells q.toArray t)).alloc (.cells r.toArray t')).heap.size := by
  have hB : Below w.heap.size w (w.alloc (.cells q.toArray t)) := (Below.refl _ _).alloc (Nat.le_refl _) _
  have hB2 : Below (w.alloc (.cells q.toArray t)).heap.size (w.alloc (.cells q.toArray t)) ((w.alloc (.cells q.toArray t)).alloc (.cells r.toArray t')) := (Below.refl _ _).alloc (Nat.le_refl _) _
  have h1 := range_new w q.toArray t
  have h2 := range_new (w.alloc (.cells q.toArray t)) r.toArray t'
  rw [World.size_alloc] at h2
  exact ⟨hB.trans (hB2.mono (by simp)), range_below (by simpa using h1) hB2 (by simp), by simpa using h2, by simp⟩
theorem two_thereA (w : World) (a1 a2 : Array Value) (t1 t2 : TypeId) {n : Nat} (h : a1.size = n) : ((w.alloc (.cells a1 t1)).alloc (.cells a2 t2)).there w.heap.size 0 n := by
  subst h
  exact (two_new rfl).2.1
theorem two_thereB (w : World) (a1 a2 : Array Value) (t1 t2 : TypeId) (cs : List Value) {n : Nat} (h : a2.size = n) : (((w.alloc (.cells a1 t1)).alloc (.cells a2 t2)).setCells w.heap.size 0 cs).there (w.heap.size + 1) 0 n := by
  subst h
  exact World.there_setCells (two_new rfl).2.2.1 _ _ _
theorem two_filled {w w3 : World} {a1 a2 : Array Value} {t1 t2 : TypeId} {c1 c2 : List Value} (h : (((w.alloc (.cells a1 t1)).alloc (.cells a2 t2)).setCells w.heap.size 0 c1).setCells (w.heap.size + 1) 0 c2 = w3) (h1 : c1.length = a1.size) (_h2 : c2.length = a2.size) :
    Below w.heap.size w w3 ∧ w3.rangeAt w.heap.size 0 c1 := by
  subst h
  obtain ⟨hb, ht1, _, _⟩ := two_new (w := w) (a1 := a1) (a2 := a2) (t1 := t1) (t2 := t2) rfl
  rw [← h1] at ht1
  exact ⟨below_sets (Nat.le_succ _) _ _ _ (below_sets (Nat.le_refl _) _ _ _ hb), World.rangeAt_setCells_apart (World.rangeAt_setCells_same _ _ _ _ ht1) _ _ _ (.inl (by omega))⟩
set_option maxHeartbeats 400000 in
theorem add_no (v : Value) (x : On) (w : World) (h : NoBook w v) : Calls Try.prog 10 #[v, .int .i64 x.n, .agg x.v.cells.toArray, .agg (v8 x.t).toArray] w fun e w' => e = .returned (.int .i64 1) ∧ Below w.heap.size w w' := by
  have hb0 := two_box (w := w) x.v.cells (v8 x.t) 31 33
  generalize x.v.cells = q at *
  go_enter Try.func10, Try.ntmps10
  go_upto_region 1 with fail
  go_name_world w1 hw1
  rw [hw1] at hb0
  clear hw1
  have cM := isMade_no v w1 (h.below hb0.1)
  go_wp2_with fail
  refine cM.mono ?_
  rintro _ wx ⟨rfl, hxx⟩
  obtain rfl := hxx.symm
  clear hxx cM
  go_wp2_with fail
  go_ret
  exact ⟨rfl, hb0.1⟩
set_option maxRecDepth 100000 in
set_option maxHeartbeats 2000000 in
theorem add_a (B b : Nat) (N : Int) (st : List On) (x : On) (hx : x.ok) (w : World) (h : BookAt w B b N st) (hn : x.n < 0) : Calls Try.prog 10 #[.pointer (some ⟨B, 0, none⟩), .int .i64 x.n, .agg x.v.cells.toArray, .agg (v8 x.t).toArray] w fun e w' => e = .returned (.int .i64 2) ∧ Below w.heap.size w w' := by
  have hx1 : x.v.cells.toArray.size = 36 := by simpa using hx.v.len
  have hT1 : (v8 x.t).toArray.size = 16 := by simpa using hx.tl
  have hiV : (Try.prog.info? 31).map (·.size) = some x.v.cells.length := by rw [hx.v.len]; exact iszV
  have hiT : (Try.prog.info? 33).map (·.size) = some (v8 x.t).length := by rw [v8_length, hx.tl]; exact iszT
  obtain ⟨n, xv, xt⟩ := x
  obtain ⟨k, ep, vw, sl, d⟩ := xv
  obtain ⟨u, hu⟩ : ∃ u, Hid ((Vt.mk k ep vw sl d).cells = u) := ⟨_, hide rfl⟩
  simp only at *
  have hb0 := two_box (w := w) (Vt.mk k ep vw sl d).cells (v8 xt) 31 33
  rw [hu.out] at hb0
  have c0k : (u)[0]? = some (.int .i64 k) := by rw [← hu.out]; rfl
  have c2v : (u)[2]? = some (.int .i64 vw) := by rw [← hu.out]; rfl
  have heqU := fun (z : Vt) (hz : z.ok) w => eqV z ⟨k, ep, vw, sl, d⟩ hz hx.v w
  simp only [hu.out] at heqU
  rw [hu.out] at hx1 hiV ⊢
  go_enter Try.func10, Try.ntmps10
  go_upto_region 1 with fail
  go_name_world w1 hw1
  rw [hw1] at hb0
  clear hw1
  obtain ⟨hB1, hR1, hR2, hsz1⟩ := hb0
  have k0 := hR1 0 _ c0k
  have k2 := hR1 2 _ c2v
  simp only [Nat.zero_add] at k0 k2
  have h1 := h.below hB1
  have cM := isMade_yes B b N st w1 h1
  have b0 := h1.c0
  have b1 := h1.c1
  go_wp2_with fail
  refine cM.mono ?_
  rintro _ wx ⟨rfl, hxx⟩
  obtain rfl := hxx.symm
  clear hxx cM
  go_wp2_with fail
  go_ret
  exact ⟨rfl, hB1⟩
set_option maxRecDepth 100000 in
set_option maxHeartbeats 2000000 in
theorem add_b (B b : Nat) (N : Int) (st : List On) (x : On) (hx : x.ok) (w : World) (h : BookAt w B b N st) (hn : 0 ≤ x.n) (hn2 : N ≤ x.n) : Calls Try.prog 10 #[.pointer (some ⟨B, 0, none⟩), .int .i64 x.n, .agg x.v.cells.toArray, .agg (v8 x.t).toArray] w fun e w' => e = .returned (.int .i64 2) ∧ Below w.heap.size w w' := by
  have hx1 : x.v.cells.toArray.size = 36 := by simpa using hx.v.len
  have hT1 : (v8 x.t).toArray.size = 16 := by simpa using hx.tl
  have hiV : (Try.prog.info? 31).map (·.size) = some x.v.cells.length := by rw [hx.v.len]; exact iszV
  have hiT : (Try.prog.info? 33).map (·.size) = some (v8 x.t).length := by rw [v8_length, hx.tl]; exact iszT
  obtain ⟨n, xv, xt⟩ := x
  obtain ⟨k, ep, vw, sl, d⟩ := xv
  obtain ⟨u, hu⟩ : ∃ u, Hid ((Vt.mk k ep vw sl d).cells = u) := ⟨_, hide rfl⟩
  simp only at *
  have hb0 := two_box (w := w) (Vt.mk k ep vw sl d).cells (v8 xt) 31 33
  rw [hu.out] at hb0
  have c0k : (u)[0]? = some (.int .i64 k) := by rw [← hu.out]; rfl
  have c2v : (u)[2]? = some (.int .i64 vw) := by rw [← hu.out]; rfl
  have heqU := fun (z : Vt) (hz : z.ok) w => eqV z ⟨k, ep, vw, sl, d⟩ hz hx.v w
  simp only [hu.out] at heqU
  rw [hu.out] at hx1 hiV ⊢
  go_enter Try.func10, Try.ntmps10
  go_upto_region 1 with fail
  go_name_world w1 hw1
  rw [hw1] at hb0
  clear hw1
  obtain ⟨hB1, hR1, hR2, hsz1⟩ := hb0
  have k0 := hR1 0 _ c0k
  have k2 := hR1 2 _ c2v
  simp only [Nat.zero_add] at k0 k2
  have h1 := h.below hB1
  have cM := isMade_yes B b N st w1 h1
  have b0 := h1.c0
  have b1 := h1.c1
  go_wp2_with fail
  refine cM.mono ?_
  rintro _ wx ⟨rfl, hxx⟩
  obtain rfl := hxx.symm
  clear hxx cM
  go_wp2_with fail
  go_ret
  exact ⟨rfl, hB1⟩
set_option maxRecDepth 100000 in
set_option maxHeartbeats 2000000 in
theorem add_c (B b : Nat) (N : Int) (st : List On) (x : On) (hx : x.ok) (w : World) (h : BookAt w B b N st) (hn : 0 ≤ x.n) (hn2 : x.n < N) (hk1 : (x.v.k != 1) = true) (hk2 : (x.v.k != 2) = true) : Calls Try.prog 10 #[.pointer (some ⟨B, 0, none⟩), .int .i64 x.n, .agg x.v.cells.toArray, .agg (v8 x.t).toArray] w fun e w' => e = .returned (.int .i64 2) ∧ Below w.heap.size w w' := by
  have hx1 : x.v.cells.toArray.size = 36 := by simpa using hx.v.len
  have hT1 : (v8 x.t).toArray.size = 16 := by simpa using hx.tl
  have hiV : (Try.prog.info? 31).map (·.size) = some x.v.cells.length := by rw [hx.v.len]; exact iszV
  have hiT : (Try.prog.info? 33).map (·.size) = some (v8 x.t).length := by rw [v8_length, hx.tl]; exact iszT
  obtain ⟨n, xv, xt⟩ := x
  obtain ⟨k, ep, vw, sl, d⟩ := xv
  obtain ⟨u, hu⟩ : ∃ u, Hid ((Vt.mk k ep vw sl d).cells = u) := ⟨_, hide rfl⟩
  simp only at *
  have hb0 := two_box (w := w) (Vt.mk k ep vw sl d).cells (v8 xt) 31 33
  rw [hu.out] at hb0
  have c0k : (u)[0]? = some (.int .i64 k) := by rw [← hu.out]; rfl
  have c2v : (u)[2]? = some (.int .i64 vw) := by rw [← hu.out]; rfl
  have heqU := fun (z : Vt) (hz : z.ok) w => eqV z ⟨k, ep, vw, sl, d⟩ hz hx.v w
  simp only [hu.out] at heqU
  rw [hu.out] at hx1 hiV ⊢
  go_enter Try.func10, Try.ntmps10
  go_upto_region 1 with fail
  go_name_world w1 hw1
  rw [hw1] at hb0
  clear hw1
  obtain ⟨hB1, hR1, hR2, hsz1⟩ := hb0
  have k0 := hR1 0 _ c0k
  have k2 := hR1 2 _ c2v
  simp only [Nat.zero_add] at k0 k2
  have h1 := h.below hB1
  have cM := isMade_yes B b N st w1 h1
  have b0 := h1.c0
  have b1 := h1.c1
  go_wp2_with fail
  refine cM.mono ?_
  rintro _ wx ⟨rfl, hxx⟩
  obtain rfl := hxx.symm
  clear hxx cM
  go_wp2_with fail
  go_ret
  exact ⟨rfl, hB1⟩
set_option maxRecDepth 100000 in
set_option maxHeartbeats 2000000 in
theorem add_e (B b : Nat) (N : Int) (st : List On) (x : On) (hx : x.ok) (w : World) (h : BookAt w B b N st) (hn : 0 ≤ x.n) (hn2 : x.n < N) (hk1 : x.v.k = 1 ∨ x.v.k = 2) (y : On) (hfind : find st x.v.k x.n = some y) (hv : y.v = x.v) : Calls Try.prog 10 #[.pointer (some ⟨B, 0, none⟩), .int .i64 x.n, .agg x.v.cells.toArray, .agg (v8 x.t).toArray] w fun e w' => e = .returned (.int .i64 0) ∧ Below w.heap.size w w' := by
  have hx1 : x.v.cells.toArray.size = 36 := by simpa using hx.v.len
  have hT1 : (v8 x.t).toArray.size = 16 := by simpa using hx.tl
  have hiV : (Try.prog.info? 31).map (·.size) = some x.v.cells.length := by rw [hx.v.len]; exact iszV
  have hiT : (Try.prog.info? 33).map (·.size) = some (v8 x.t).length := by rw [v8_length, hx.tl]; exact iszT
  obtain ⟨n, xv, xt⟩ := x
  obtain ⟨k, ep, vw, sl, d⟩ := xv
  obtain ⟨u, hu⟩ : ∃ u, Hid ((Vt.mk k ep vw sl d).cells = u) := ⟨_, hide rfl⟩
  simp only at *
  have hb0 := two_box (w := w) (Vt.mk k ep vw sl d).cells (v8 xt) 31 33
  rw [hu.out] at hb0
  have c0k : (u)[0]? = some (.int .i64 k) := by rw [← hu.out]; rfl
  have c2v : (u)[2]? = some (.int .i64 vw) := by rw [← hu.out]; rfl
  have heqU := fun (z : Vt) (hz : z.ok) w => eqV z ⟨k, ep, vw, sl, d⟩ hz hx.v w
  simp only [hu.out] at heqU
  rw [hu.out] at hx1 hiV ⊢
  go_enter Try.func10, Try.ntmps10
  go_upto_region 1 with fail
  go_name_world w1 hw1
  rw [hw1] at hb0
  clear hw1
  obtain ⟨hB1, hR1, hR2, hsz1⟩ := hb0
  have k0 := hR1 0 _ c0k
  have k2 := hR1 2 _ c2v
  simp only [Nat.zero_add] at k0 k2
  have h1 := h.below hB1
  have cM := isMade_yes B b N st w1 h1
  have b0 := h1.c0
  have b1 := h1.c1
  go_wp2_with fail
  refine cM.mono ?_
  rintro _ wx ⟨rfl, hxx⟩
  obtain rfl := hxx.symm
  clear hxx cM
  have hkk : (k != 1) = false ∨ ((k != 1) = true ∧ (k != 2) = false) := by rcases hk1 with rfl | rfl <;> simp
  clear hk1
  rcases hkk with hkk | ⟨hkk, hkk2⟩
  all_goals
    have cO := of_yes B b N st k n hx.v.k hx.n w1 h1
    have hy := find_ok h.bk k n
    rw [hfind] at cO hy
    simp only [Option.getD_some, Option.isSome_some] at cO hy
    go_wp2_with fail
    refine cO.mono ?_
    rintro _ w2 ⟨rfl, hB2⟩
    clear cO
    have h2 := h1.below hB2
    have hR1 := range_below hR1 hB2 (by omega)
    have hR2 := range_below hR2 hB2 (by omega)
    have k0 := hR1 0 _ c0k
    have k2 := hR1 2 _ c2v
    simp only [Nat.zero_add] at k0 k2
    clear h1
    have hsz2 := hB2.size
    have q36 : y.v.cells.toArray.size = 36 := by simpa using hy.v.len
    have q16 : (v8 y.t).toArray.size = 16 := by simpa using hy.tl
    have q1 := all_one y.v.one
    have q2 := all_one (v8_one y.t)
    have iq1 : (Try.prog.info? 31).map (·.size) = some y.v.cells.toArray.size := by rw [q36]; exact iszV
    have iq2 : (Try.prog.info? 33).map (·.size) = some (v8 y.t).toArray.size := by rw [q16]; exact iszT
    have iq3 : (Try.prog.info? 31).map (·.size) = some y.v.cells.length := by rw [hy.v.len]; exact iszV
    have y2 : (y.v.cells)[2]? = some (.int .i64 y.v.v) := rfl
    have heq := heqU y.v hy.v
    obtain ⟨yc, hyc⟩ : ∃ yc, Hid (y.v.cells = yc) := ⟨_, hide rfl⟩
    obtain ⟨yt, hyt⟩ : ∃ yt, Hid (v8 y.t = yt) := ⟨_, hide rfl⟩
    rw [hyc.out] at q36 q1 iq1 iq3 y2 ⊢
    simp only [hyc.out] at heq
    rw [hyt.out] at q16 q2 iq2 ⊢
    obtain ⟨yv, hyv⟩ : ∃ yv, Hid (y.v.v = yv) := ⟨_, hide rfl⟩
    rw [hyv.out] at y2
    go_upto_region 8 with (first
      | (refine wpList_store_mid rfl 31 _ _ rfl _ 0 yc.toArray rfl rfl (two_thereA _ _ _ _ _ q36.symm) iq1 q1 ?_)
      | (refine wpList_store_mid rfl 33 _ _ rfl _ 0 yt.toArray rfl rfl (two_thereB _ _ _ _ _ _ q16.symm) iq2 q2 ?_))
    go_name_world w3 hw3
    have hF := two_filled hw3 (by simpa using q36) (by simpa using q16)
    obtain ⟨hB3, hY⟩ := hF
    have hY2 := hY 2 _ y2
    simp only [Nat.zero_add] at hY2
    clear hw3
    have hR1 := range_below hR1 hB3 (by omega)
    have hR2 := range_below hR2 hB3 (by omega)
    have k0 := hR1 0 _ c0k
    have k2 := hR1 2 _ c2v
    simp only [Nat.zero_add] at k0 k2
    have h3 := h2.below hB3
    have hbl : Below w.heap.size w w3 := hB1.trans ((hB2.trans (hB3.mono hsz2)).mono (by omega))
    clear h2
    have hde : decide (y.v = ⟨k, ep, vw, sl, d⟩) = true := decide_eq_true hv
    simp only [hde] at heq
    clear hv hde
    try simp only [Act.put]
    refine wp_region_list ?_
    refine wpList_step fun K hK => ?_
    go_simp
    refine hK _ _ ?_
    clear hK K
    refine wpList_step fun K hK => ?_
    go_simp
    refine hK _ _ ?_
    clear hK K
    refine wpList_load_g (by rfl) 31 _ rfl _ _ rfl yc _ hY Try.underlying31 rfl iq3 ?_
    refine wpList_load_g (by rfl) 31 _ rfl _ _ rfl u _ hR1 Try.underlying31 rfl hiV ?_
    refine wpList_step fun K hK => ?_
    go_simp
    try rw [heq]
    try go_simp
    refine hK _ _ ?_
    clear hK K
    refine wpList_step fun K hK => ?_
    go_simp
    refine hK _ _ ?_
    clear hK K
    refine wpList_step fun K hK => ?_
    go_simp
    refine hK _ _ ?_
    clear hK K
    go_wp2_with fail
    go_ret
    exact ⟨rfl, hbl⟩
set_option maxRecDepth 100000 in
set_option maxHeartbeats 2000000 in
theorem add_f (B b : Nat) (N : Int) (st : List On) (x : On) (hx : x.ok) (w : World) (h : BookAt w B b N st) (hn : 0 ≤ x.n) (hn2 : x.n < N) (hk1 : x.v.k = 1 ∨ x.v.k = 2) (y : On) (hfind : find st x.v.k x.n = some y) (hv : ¬ y.v = x.v) (hw : y.v.v = x.v.v) : Calls Try.prog 10 #[.pointer (some ⟨B, 0, none⟩), .int .i64 x.n, .agg x.v.cells.toArray, .agg (v8 x.t).toArray] w fun e w' => e = .returned (.int .i64 181) ∧ Below w.heap.size w w' := by
  have hx1 : x.v.cells.toArray.size = 36 := by simpa using hx.v.len
  have hT1 : (v8 x.t).toArray.size = 16 := by simpa using hx.tl
  have hiV : (Try.prog.info? 31).map (·.size) = some x.v.cells.length := by rw [hx.v.len]; exact iszV
  have hiT : (Try.prog.info? 33).map (·.size) = some (v8 x.t).length := by rw [v8_length, hx.tl]; exact iszT
  obtain ⟨n, xv, xt⟩ := x
  obtain ⟨k, ep, vw, sl, d⟩ := xv
  obtain ⟨u, hu⟩ : ∃ u, Hid ((Vt.mk k ep vw sl d).cells = u) := ⟨_, hide rfl⟩
  simp only at *
  have hb0 := two_box (w := w) (Vt.mk k ep vw sl d).cells (v8 xt) 31 33
  rw [hu.out] at hb0
  have c0k : (u)[0]? = some (.int .i64 k) := by rw [← hu.out]; rfl
  have c2v : (u)[2]? = some (.int .i64 vw) := by rw [← hu.out]; rfl
  have heqU := fun (z : Vt) (hz : z.ok) w => eqV z ⟨k, ep, vw, sl, d⟩ hz hx.v w
  simp only [hu.out] at heqU
  rw [hu.out] at hx1 hiV ⊢
  go_enter Try.func10, Try.ntmps10
  go_upto_region 1 with fail
  go_name_world w1 hw1
  rw [hw1] at hb0
  clear hw1
  obtain ⟨hB1, hR1, hR2, hsz1⟩ := hb0
  have k0 := hR1 0 _ c0k
  have k2 := hR1 2 _ c2v
  simp only [Nat.zero_add] at k0 k2
  have h1 := h.below hB1
  have cM := isMade_yes B b N st w1 h1
  have b0 := h1.c0
  have b1 := h1.c1
  go_wp2_with fail
  refine cM.mono ?_
  rintro _ wx ⟨rfl, hxx⟩
  obtain rfl := hxx.symm
  clear hxx cM
  have hkk : (k != 1) = false ∨ ((k != 1) = true ∧ (k != 2) = false) := by rcases hk1 with rfl | rfl <;> simp
  clear hk1
  rcases hkk with hkk | ⟨hkk, hkk2⟩
  all_goals
    have cO := of_yes B b N st k n hx.v.k hx.n w1 h1
    have hy := find_ok h.bk k n
    rw [hfind] at cO hy
    simp only [Option.getD_some, Option.isSome_some] at cO hy
    go_wp2_with fail
    refine cO.mono ?_
    rintro _ w2 ⟨rfl, hB2⟩
    clear cO
    have h2 := h1.below hB2
    have hR1 := range_below hR1 hB2 (by omega)
    have hR2 := range_below hR2 hB2 (by omega)
    have k0 := hR1 0 _ c0k
    have k2 := hR1 2 _ c2v
    simp only [Nat.zero_add] at k0 k2
    clear h1
    have hsz2 := hB2.size
    have q36 : y.v.cells.toArray.size = 36 := by simpa using hy.v.len
    have q16 : (v8 y.t).toArray.size = 16 := by simpa using hy.tl
    have q1 := all_one y.v.one
    have q2 := all_one (v8_one y.t)
    have iq1 : (Try.prog.info? 31).map (·.size) = some y.v.cells.toArray.size := by rw [q36]; exact iszV
    have iq2 : (Try.prog.info? 33).map (·.size) = some (v8 y.t).toArray.size := by rw [q16]; exact iszT
    have iq3 : (Try.prog.info? 31).map (·.size) = some y.v.cells.length := by rw [hy.v.len]; exact iszV
    have y2 : (y.v.cells)[2]? = some (.int .i64 y.v.v) := rfl
    have heq := heqU y.v hy.v
    obtain ⟨yc, hyc⟩ : ∃ yc, Hid (y.v.cells = yc) := ⟨_, hide rfl⟩
    obtain ⟨yt, hyt⟩ : ∃ yt, Hid (v8 y.t = yt) := ⟨_, hide rfl⟩
    rw [hyc.out] at q36 q1 iq1 iq3 y2 ⊢
    simp only [hyc.out] at heq
    rw [hyt.out] at q16 q2 iq2 ⊢
    obtain ⟨yv, hyv⟩ : ∃ yv, Hid (y.v.v = yv) := ⟨_, hide rfl⟩
    rw [hyv.out] at y2
    go_upto_region 8 with (first
      | (refine wpList_store_mid rfl 31 _ _ rfl _ 0 yc.toArray rfl rfl (two_thereA _ _ _ _ _ q36.symm) iq1 q1 ?_)
      | (refine wpList_store_mid rfl 33 _ _ rfl _ 0 yt.toArray rfl rfl (two_thereB _ _ _ _ _ _ q16.symm) iq2 q2 ?_))
    go_name_world w3 hw3
    have hF := two_filled hw3 (by simpa using q36) (by simpa using q16)
    obtain ⟨hB3, hY⟩ := hF
    have hY2 := hY 2 _ y2
    simp only [Nat.zero_add] at hY2
    clear hw3
    have hR1 := range_below hR1 hB3 (by omega)
    have hR2 := range_below hR2 hB3 (by omega)
    have k0 := hR1 0 _ c0k
    have k2 := hR1 2 _ c2v
    simp only [Nat.zero_add] at k0 k2
    have h3 := h2.below hB3
    have hbl : Below w.heap.size w w3 := hB1.trans ((hB2.trans (hB3.mono hsz2)).mono (by omega))
    clear h2
    have hde : decide (y.v = ⟨k, ep, vw, sl, d⟩) = false := decide_eq_false hv
    simp only [hde] at heq
    clear hv hde
    rw [hyv.out] at hw
    subst hw
    try simp only [Act.put]
    refine wp_region_list ?_
    refine wpList_step fun K hK => ?_
    go_simp
    refine hK _ _ ?_
    clear hK K
    refine wpList_step fun K hK => ?_
    go_simp
    refine hK _ _ ?_
    clear hK K
    refine wpList_load_g (by rfl) 31 _ rfl _ _ rfl yc _ hY Try.underlying31 rfl iq3 ?_
    refine wpList_load_g (by rfl) 31 _ rfl _ _ rfl u _ hR1 Try.underlying31 rfl hiV ?_
    refine wpList_step fun K hK => ?_
    go_simp
    try rw [heq]
    try go_simp
    refine hK _ _ ?_
    clear hK K
    refine wpList_step fun K hK => ?_
    go_simp
    refine hK _ _ ?_
    clear hK K
    refine wpList_step fun K hK => ?_
    go_simp
    refine hK _ _ ?_
    clear hK K
    go_wp2_with fail
    go_ret
    exact ⟨rfl, hbl⟩
set_option maxRecDepth 100000 in
set_option maxHeartbeats 2000000 in
theorem add_g (B b : Nat) (N : Int) (st : List On) (x : On) (hx : x.ok) (w : World) (h : BookAt w B b N st) (hn : 0 ≤ x.n) (hn2 : x.n < N) (hk1 : x.v.k = 1 ∨ x.v.k = 2) (y : On) (hfind : find st x.v.k x.n = some y) (hv : ¬ y.v = x.v) (hw : x.v.v < y.v.v) : Calls Try.prog 10 #[.pointer (some ⟨B, 0, none⟩), .int .i64 x.n, .agg x.v.cells.toArray, .agg (v8 x.t).toArray] w fun e w' => e = .returned (.int .i64 90) ∧ Below w.heap.size w w' := by
  have hx1 : x.v.cells.toArray.size = 36 := by simpa using hx.v.len
  have hT1 : (v8 x.t).toArray.size = 16 := by simpa using hx.tl
  have hiV : (Try.prog.info? 31).map (·.size) = some x.v.cells.length := by rw [hx.v.len]; exact iszV
  have hiT : (Try.prog.info? 33).map (·.size) = some (v8 x.t).length := by rw [v8_length, hx.tl]; exact iszT
  obtain ⟨n, xv, xt⟩ := x
  obtain ⟨k, ep, vw, sl, d⟩ := xv
  obtain ⟨u, hu⟩ : ∃ u, Hid ((Vt.mk k ep vw sl d).cells = u) := ⟨_, hide rfl⟩
  simp only at *
  have hb0 := two_box (w := w) (Vt.mk k ep vw sl d).cells (v8 xt) 31 33
  rw [hu.out] at hb0
  have c0k : (u)[0]? = some (.int .i64 k) := by rw [← hu.out]; rfl
  have c2v : (u)[2]? = some (.int .i64 vw) := by rw [← hu.out]; rfl
  have heqU := fun (z : Vt) (hz : z.ok) w => eqV z ⟨k, ep, vw, sl, d⟩ hz hx.v w
  simp only [hu.out] at heqU
  rw [hu.out] at hx1 hiV ⊢
  go_enter Try.func10, Try.ntmps10
  go_upto_region 1 with fail
  go_name_world w1 hw1
  rw [hw1] at hb0
  clear hw1
  obtain ⟨hB1, hR1, hR2, hsz1⟩ := hb0
  have k0 := hR1 0 _ c0k
  have k2 := hR1 2 _ c2v
  simp only [Nat.zero_add] at k0 k2
  have h1 := h.below hB1
  have cM := isMade_yes B b N st w1 h1
  have b0 := h1.c0
  have b1 := h1.c1
  go_wp2_with fail
  refine cM.mono ?_
  rintro _ wx ⟨rfl, hxx⟩
  obtain rfl := hxx.symm
  clear hxx cM
  have hkk : (k != 1) = false ∨ ((k != 1) = true ∧ (k != 2) = false) := by rcases hk1 with rfl | rfl <;> simp
  clear hk1
  rcases hkk with hkk | ⟨hkk, hkk2⟩
  all_goals
    have cO := of_yes B b N st k n hx.v.k hx.n w1 h1
    have hy := find_ok h.bk k n
    rw [hfind] at cO hy
    simp only [Option.getD_some, Option.isSome_some] at cO hy
    go_wp2_with fail
    refine cO.mono ?_
    rintro _ w2 ⟨rfl, hB2⟩
    clear cO
    have h2 := h1.below hB2
    have hR1 := range_below hR1 hB2 (by omega)
    have hR2 := range_below hR2 hB2 (by omega)
    have k0 := hR1 0 _ c0k
    have k2 := hR1 2 _ c2v
    simp only [Nat.zero_add] at k0 k2
    clear h1
    have hsz2 := hB2.size
    have q36 : y.v.cells.toArray.size = 36 := by simpa using hy.v.len
    have q16 : (v8 y.t).toArray.size = 16 := by simpa using hy.tl
    have q1 := all_one y.v.one
    have q2 := all_one (v8_one y.t)
    have iq1 : (Try.prog.info? 31).map (·.size) = some y.v.cells.toArray.size := by rw [q36]; exact iszV
    have iq2 : (Try.prog.info? 33).map (·.size) = some (v8 y.t).toArray.size := by rw [q16]; exact iszT
    have iq3 : (Try.prog.info? 31).map (·.size) = some y.v.cells.length := by rw [hy.v.len]; exact iszV
    have y2 : (y.v.cells)[2]? = some (.int .i64 y.v.v) := rfl
    have heq := heqU y.v hy.v
    obtain ⟨yc, hyc⟩ : ∃ yc, Hid (y.v.cells = yc) := ⟨_, hide rfl⟩
    obtain ⟨yt, hyt⟩ : ∃ yt, Hid (v8 y.t = yt) := ⟨_, hide rfl⟩
    rw [hyc.out] at q36 q1 iq1 iq3 y2 ⊢
    simp only [hyc.out] at heq
    rw [hyt.out] at q16 q2 iq2 ⊢
    obtain ⟨yv, hyv⟩ : ∃ yv, Hid (y.v.v = yv) := ⟨_, hide rfl⟩
    rw [hyv.out] at y2
    go_upto_region 8 with (first
      | (refine wpList_store_mid rfl 31 _ _ rfl _ 0 yc.toArray rfl rfl (two_thereA _ _ _ _ _ q36.symm) iq1 q1 ?_)
      | (refine wpList_store_mid rfl 33 _ _ rfl _ 0 yt.toArray rfl rfl (two_thereB _ _ _ _ _ _ q16.symm) iq2 q2 ?_))
    go_name_world w3 hw3
    have hF := two_filled hw3 (by simpa using q36) (by simpa using q16)
    obtain ⟨hB3, hY⟩ := hF
    have hY2 := hY 2 _ y2
    simp only [Nat.zero_add] at hY2
    clear hw3
    have hR1 := range_below hR1 hB3 (by omega)
    have hR2 := range_below hR2 hB3 (by omega)
    have k0 := hR1 0 _ c0k
    have k2 := hR1 2 _ c2v
    simp only [Nat.zero_add] at k0 k2
    have h3 := h2.below hB3
    have hbl : Below w.heap.size w w3 := hB1.trans ((hB2.trans (hB3.mono hsz2)).mono (by omega))
    clear h2
    have hde : decide (y.v = ⟨k, ep, vw, sl, d⟩) = false := decide_eq_false hv
    simp only [hde] at heq
    clear hv hde
    rw [hyv.out] at hw
    have hne : (yv == vw) = false := by simp; omega
    try simp only [Act.put]
    refine wp_region_list ?_
    refine wpList_step fun K hK => ?_
    go_simp
    refine hK _ _ ?_
    clear hK K
    refine wpList_step fun K hK => ?_
    go_simp
    refine hK _ _ ?_
    clear hK K
    refine wpList_load_g (by rfl) 31 _ rfl _ _ rfl yc _ hY Try.underlying31 rfl iq3 ?_
    refine wpList_load_g (by rfl) 31 _ rfl _ _ rfl u _ hR1 Try.underlying31 rfl hiV ?_
    refine wpList_step fun K hK => ?_
    go_simp
    try rw [heq]
    try go_simp
    refine hK _ _ ?_
    clear hK K
    refine wpList_step fun K hK => ?_
    go_simp
    refine hK _ _ ?_
    clear hK K
    refine wpList_step fun K hK => ?_
    go_simp
    refine hK _ _ ?_
    clear hK K
    go_wp2_with fail
    go_ret
    exact ⟨rfl, hbl⟩

end Go.Proofs.Ytogmkcabndgllaa
