/- both's act: Append and Sync of the journals; both's act: Lay; the chapter's example -/
import Derived.Test.YtfkchnjbbbhmjaaGreatXP10
import Derived.Test.YtfkchnjbbbhmjaaGreatXP9
namespace Go.Proofs.YtfkchnjbbbhmjaaGreat.Ty
open Go.RowKit
open Tal
set_option linter.unusedVariables false
set_option maxRecDepth 100000 in
set_option maxHeartbeats 8000000 in
theorem act_0 (n0 bq p r q q' : Nat) (k : Bool) (tu fs : Int) (R : Int) (A : Nat → Prop) (M : Mt) (y : Av) (w : World) (h : Bs n0 R A w bq p r M (some ⟨q, 0, none⟩) (some ⟨q', 0, none⟩)) (hj1 : JAt w ⟨q, p, (if k then 1 else 0), tu, fs⟩) (hj2 : JAt w ⟨q', r, (if k then 1 else 0), tu, fs⟩) (ha : (A q ∧ A q' ∧ n0 ≤ q ∧ n0 ≤ q') ∧ (¬ (q = q') ∧ ¬ (q = bq) ∧ ¬ (q' = bq)) ∧ 0 ≤ tu ∧ tu ≤ 1099511627776) (hy : y.ok n0 w) (hk : y.kind = 0) :
    Calls Tryz.prog 9 #[.pointer (some ⟨bq, 0, none⟩), .agg y.cells.toArray] w fun e w' => e = .returned (.bool true) ∧ Below n0 w w' ∧ ∃ A' M' jv' jr', Bs n0 R A' w' bq p r M' jv' jr' := by
  obtain ⟨⟨aq0, aq0', nq, nq'⟩, ⟨dq, dq1, dq2⟩, tu0, tu1⟩ := ha
  have hx := bx_new h hy
  have hXb0 : ¬ (w.heap.size = bq) := by have := h.box.lt; omega
  obtain ⟨w1, hw1⟩ : ∃ w1, w.alloc (.cells y.cells.toArray 38) = w1 := ⟨_, rfl⟩
  rw [hw1] at hx
  have aq : More A w w1 q := .inl aq0
  have aq' : More A w w1 q' := .inl aq0'
  generalize More A w w1 = A1 at hx aq aq'
  have y0 := hx.y0
  rw [hk] at y0
  have HX := hide hx
  have hXl : w.heap.size < w1.heap.size := hx.b.lt _ hx.a
  have hbl := hx.b.box.lt
  have zp := hx.b.box.cell 0 rfl
  have zr := hx.b.box.cell 2 rfl
  obtain ⟨u, hu⟩ : ∃ u, Hid (y.cells = u) := ⟨_, hide rfl⟩
  rw [hu.out] at hw1 ⊢
  clear hu h hy hk
  have zj := HX.out.b.box.cell 1 rfl
  have zk := HX.out.b.box.cell 3 rfl
  have hj11 := hj1.below HX.out.bel
  have hj21 := hj2.below HX.out.bel
  have hql : q < w.heap.size := hj1.lt
  have hql' : q' < w.heap.size := hj2.lt
  clear hx hj1 hj2 zp zr
  go_enter Tryz.func9, Tryz.ntmps9
  go_wp2_with fail
  try rw [hw1]
  obtain ⟨w8, hw8⟩ : ∃ w8, w1.drew = w8 := ⟨_, rfl⟩
  have B18 : Below w1.heap.size w1 w8 := by rw [← hw8]; exact (Below.refl _ _).drew
  have hn1 : n0 ≤ w1.heap.size := Nat.le_trans HX.out.hn HX.out.bel.size
  have hn8 : n0 ≤ w8.heap.size := Nat.le_trans hn1 B18.size
  have B08 : Below n0 w w8 := (HX.out.bel.mono HX.out.hn).trans (B18.mono hn1)
  obtain ⟨B, hAB, hBlt, hLB, hfirst⟩ := (HX.out.b.below B18).first
  have y1 := HX.out.y1
  have y2 := HX.out.y2
  have y3 := HX.out.y3
  have y4 := HX.out.y4
  have y8 := HX.out.ok.below ((B18.mono hn1))
  have hq8 : JAt w8 ⟨q, p, (if k then 1 else 0), tu, fs⟩ := hj11.below B18
  have hr8 : JAt w8 ⟨q', r, (if k then 1 else 0), tu, fs⟩ := hj21.below B18
  obtain ⟨ae, hae⟩ : ∃ ae, Hid (M.jappend ⟨q, p, (if k then 1 else 0), tu, fs⟩ y.rd.zs = ae) := ⟨_, hide rfl⟩
  have hae2 : Hid (M.jappend ⟨q', r, (if k then 1 else 0), tu, fs⟩ y.rd.zs = ae) := hide ((show M.jappend ⟨q', r, (if k then 1 else 0), tu, fs⟩ y.rd.zs = M.jappend ⟨q, p, (if k then 1 else 0), tu, fs⟩ y.rd.zs from rfl).trans hae.out)
  have kpe : Kp R ae.2 := by rw [← hae.out]; exact HX.out.b.kp.jappend _ _
  have cJ := jappend_any ⟨q, p, (if k then 1 else 0), tu, fs⟩ M B y.rd.a y.rd.cap y.rd.zs w8 hq8 hLB hBlt (hAB _ aq) y8.row
  rw [hae.out] at cJ
  unfold jptr at cJ
  simp only at cJ
  have cX : ∀ (wA : World) (C : Nat → Prop), RLive C wA r M → (∀ b, C b → b < wA.heap.size) → JAt wA ⟨q', r, (if k then 1 else 0), tu, fs⟩ → ¬ (q' = r) → y.ok n0 wA → Calls Tryz.prog 33 #[.pointer (some ⟨q', 0, none⟩), .slice y.rd.a y.rd.zs.length y.rd.cap] wA fun e w' => e = .returned (.int .i64 ae.1) ∧ RLive C w' r ae.2 ∧ JAt w' ⟨q', r, (if k then 1 else 0), tu, fs⟩ ∧ Off (fun b => b = r) wA w' := fun wA C h1 h2 h3 h4 h5 => by
    have := xappend_any ⟨q', r, (if k then 1 else 0), tu, fs⟩ M C y.rd.a y.rd.cap y.rd.zs wA h3 h1 h2 h4 h5.row
    rw [hae2.out] at this
    exact this
  refine hs_begin (S := (fun W : World => W.heap[w.heap.size]? = w1.heap[w.heap.size]? ∧ W.heap[bq]? = w1.heap[bq]?)) 16 rfl (by kernel_rfl) ?_
  rw [hw8]
  clear hw8
  have hS : (fun W : World => W.heap[w.heap.size]? = w1.heap[w.heap.size]? ∧ W.heap[bq]? = w1.heap[bq]?) w8 := ⟨B18.block _ hXl, B18.block _ hbl⟩
  refine hs_take (i := 0) (d := some 117) (v := ?_) rfl (by kernel_rfl) (by kernel_rfl) (by kernel_rfl) (by rfl) ?_ hS rfl ?_
  rotate_left
  · intro w' hw
    go_simp
    try with_reducible rfl
  simp only [Act.put, List.setIfInBounds_toArray, List.set_cons_zero, List.set_cons_succ]
  refine hs_take (i := 1) (d := some 118) (v := ?_) rfl (by kernel_rfl) (by kernel_rfl) (by kernel_rfl) (by rfl) ?_ hS rfl ?_
  rotate_left
  · intro w' hw
    go_simp
    try with_reducible rfl
  simp only [Act.put, List.setIfInBounds_toArray, List.set_cons_zero, List.set_cons_succ]
  refine hs_take (i := 2) (d := some 119) (v := ?_) rfl (by kernel_rfl) (by kernel_rfl) (by kernel_rfl) (by rfl) ?_ hS rfl ?_
  rotate_left
  · intro w' hw
    go_simp
    try with_reducible rfl
  simp only [Act.put, List.setIfInBounds_toArray, List.set_cons_zero, List.set_cons_succ]
  refine hs_take (i := 3) (d := some 120) (v := ?_) rfl (by kernel_rfl) (by kernel_rfl) (by kernel_rfl) (by rfl) ?_ hS rfl ?_
  rotate_left
  · intro w' hw
    have hc := cell_at zj hw.2
    go_simp
    try with_reducible rfl
  simp only [Act.put, List.setIfInBounds_toArray, List.set_cons_zero, List.set_cons_succ]
  refine hs_take (i := 4) (d := some 121) (v := ?_) rfl (by kernel_rfl) (by kernel_rfl) (by kernel_rfl) (by rfl) ?_ hS rfl ?_
  rotate_left
  · intro w' hw
    go_simp
    try with_reducible rfl
  simp only [Act.put, List.setIfInBounds_toArray, List.set_cons_zero, List.set_cons_succ]
  refine hs_take (i := 5) (d := some 122) (v := ?_) rfl (by kernel_rfl) (by kernel_rfl) (by kernel_rfl) (by rfl) ?_ hS rfl ?_
  rotate_left
  · intro w' hw
    have hc := cell_at y1 hw.1
    go_simp
    try with_reducible rfl
  simp only [Act.put, List.setIfInBounds_toArray, List.set_cons_zero, List.set_cons_succ]
  refine hs_take (i := 7) (d := some 124) (v := ?_) rfl (by kernel_rfl) (by kernel_rfl) (by kernel_rfl) (by rfl) ?_ hS rfl ?_
  rotate_left
  · intro w' hw
    go_simp
    try with_reducible rfl
  simp only [Act.put, List.setIfInBounds_toArray, List.set_cons_zero, List.set_cons_succ]
  refine hs_take (i := 8) (d := some 125) (v := ?_) rfl (by kernel_rfl) (by kernel_rfl) (by kernel_rfl) (by rfl) ?_ hS rfl ?_
  rotate_left
  · intro w' hw
    go_simp
    try with_reducible rfl
  simp only [Act.put, List.setIfInBounds_toArray, List.set_cons_zero, List.set_cons_succ]
  refine hs_take (i := 9) (d := some 126) (v := ?_) rfl (by kernel_rfl) (by kernel_rfl) (by kernel_rfl) (by rfl) ?_ hS rfl ?_
  rotate_left
  · intro w' hw
    go_simp
    try with_reducible rfl
  simp only [Act.put, List.setIfInBounds_toArray, List.set_cons_zero, List.set_cons_succ]
  refine hs_take (i := 10) (d := some 127) (v := ?_) rfl (by kernel_rfl) (by kernel_rfl) (by kernel_rfl) (by rfl) ?_ hS rfl ?_
  rotate_left
  · intro w' hw
    have hc := cell_at zk hw.2
    go_simp
    try with_reducible rfl
  simp only [Act.put, List.setIfInBounds_toArray, List.set_cons_zero, List.set_cons_succ]
  refine hs_take (i := 11) (d := some 128) (v := ?_) rfl (by kernel_rfl) (by kernel_rfl) (by kernel_rfl) (by rfl) ?_ hS rfl ?_
  rotate_left
  · intro w' hw
    go_simp
    try with_reducible rfl
  simp only [Act.put, List.setIfInBounds_toArray, List.set_cons_zero, List.set_cons_succ]
  refine hs_take (i := 12) (d := some 129) (v := ?_) rfl (by kernel_rfl) (by kernel_rfl) (by kernel_rfl) (by rfl) ?_ hS rfl ?_
  rotate_left
  · intro w' hw
    have hc := cell_at y1 hw.1
    go_simp
    try with_reducible rfl
  simp only [Act.put, List.setIfInBounds_toArray, List.set_cons_zero, List.set_cons_succ]
  refine hs_call (i := 6) (d := some 123) rfl (by kernel_rfl) (by rfl) (by go_simp; first | done | exact ⟨rfl, rfl⟩ | with_reducible rfl) rfl ?_
  refine (cJ).mono ?_
  rintro e' wA ⟨rfl, hTA, -, hOA⟩
  obtain ⟨A2, hA2, hm2, hoff2⟩ := hfirst wA _ hTA hOA
  obtain ⟨C, hAC, hClt, hLC, hsec⟩ := hm2.second
  have hS : (fun W : World => W.heap[w.heap.size]? = w1.heap[w.heap.size]? ∧ W.heap[bq]? = w1.heap[bq]?) wA := ⟨(hoff2.2 _ (Nat.lt_of_lt_of_le hXl B18.size) (fun z => z HX.out.a)).trans hS.1, (hoff2.2 _ (Nat.lt_of_lt_of_le hbl B18.size) (fun z => z HX.out.b.own)).trans hS.2⟩
  have hrA : JAt wA ⟨q', r, (if k then 1 else 0), tu, fs⟩ := hr8.at (hoff2.2 q' hr8.lt (fun z => z aq'))
  have hqr : ¬ (q' = r) := fun z => hm2.pr.ne.2.1 (by rw [← z]; exact hA2 _ aq')
  have yA := y8.below (hoff2.below hn8 (fun b hb z => z (HX.out.b.up b hb)))
  refine ⟨_, rfl, hS, ?_⟩
  simp only [Act.put, List.setIfInBounds_toArray, List.set_cons_zero, List.set_cons_succ]
  refine hs_call (i := 13) (d := some 130) rfl (by kernel_rfl) (by rfl) (by go_simp; first | done | exact ⟨rfl, rfl⟩ | with_reducible rfl) rfl ?_
  refine (cX wA C hLC hClt hrA hqr yA).mono ?_
  rintro e' wB ⟨rfl, hRB, -, hOB⟩
  obtain ⟨A3, hA3, hb3, hoff3⟩ := hsec wB (kpe) hRB hOB
  have hS : (fun W : World => W.heap[w.heap.size]? = w1.heap[w.heap.size]? ∧ W.heap[bq]? = w1.heap[bq]?) wB := ⟨(hoff3.2 _ (hm2.lt _ (hA2 _ HX.out.a)) (fun z => z (hA2 _ HX.out.a))).trans hS.1, (hoff3.2 _ hm2.box.lt (fun z => z hm2.own)).trans hS.2⟩
  have BB : Below n0 w wB := (B08.trans (hoff2.below hn8 (fun b hb z => z (HX.out.b.up b hb)))).trans (hoff3.below (Nat.le_trans hn8 hoff2.size) (fun b hb z => z (hm2.up b hb)))
  refine ⟨_, rfl, hS, ?_⟩
  simp only [Act.put, List.setIfInBounds_toArray, List.set_cons_zero, List.set_cons_succ]
  refine hs_take (i := 14) (d := some 131) (v := .bool true) rfl (by kernel_rfl) (by kernel_rfl) (by kernel_rfl) (by rfl) (fun w' hw => by go_simp) hS rfl ?_
  simp only [Act.put, List.setIfInBounds_toArray, List.set_cons_zero, List.set_cons_succ]
  refine hs_take (i := 15) (d := some 4) (v := ?_) rfl (by kernel_rfl) (by kernel_rfl) (by kernel_rfl) (by rfl) ?_ hS rfl ?_
  rotate_left
  · intro w' hw
    go_simp
    try with_reducible rfl
  simp only [Act.put, List.setIfInBounds_toArray, List.set_cons_zero, List.set_cons_succ]
  refine hs_done (by kernel_rfl) ?_
  have HE : Hid (Below n0 w wB ∧ ∃ A' M' jv' jr', Bs n0 R A' wB bq p r M' jv' jr') := hide ⟨BB, A3, _, _, _, hb3⟩
  clear hS hb3 hm2 hsec hfirst hLC hLB
  go_wp2_with fail
  go_ret
  exact ⟨rfl, HE.out⟩
set_option maxRecDepth 100000 in
set_option maxHeartbeats 8000000 in
theorem act_1 (n0 bq p r q q' : Nat) (k : Bool) (tu fs : Int) (R : Int) (A : Nat → Prop) (M : Mt) (y : Av) (w : World) (h : Bs n0 R A w bq p r M (some ⟨q, 0, none⟩) (some ⟨q', 0, none⟩)) (hj1 : JAt w ⟨q, p, (if k then 1 else 0), tu, fs⟩) (hj2 : JAt w ⟨q', r, (if k then 1 else 0), tu, fs⟩) (ha : (A q ∧ A q' ∧ n0 ≤ q ∧ n0 ≤ q') ∧ (¬ (q = q') ∧ ¬ (q = bq) ∧ ¬ (q' = bq)) ∧ 0 ≤ tu ∧ tu ≤ 1099511627776) (hy : y.ok n0 w) (hk : y.kind = 1) :
    Calls Tryz.prog 9 #[.pointer (some ⟨bq, 0, none⟩), .agg y.cells.toArray] w fun e w' => e = .returned (.bool true) ∧ Below n0 w w' ∧ ∃ A' M' jv' jr', Bs n0 R A' w' bq p r M' jv' jr' := by
  obtain ⟨⟨aq0, aq0', nq, nq'⟩, ⟨dq, dq1, dq2⟩, tu0, tu1⟩ := ha
  have hx := bx_new h hy
  have hXb0 : ¬ (w.heap.size = bq) := by have := h.box.lt; omega
  obtain ⟨w1, hw1⟩ : ∃ w1, w.alloc (.cells y.cells.toArray 38) = w1 := ⟨_, rfl⟩
  rw [hw1] at hx
  have aq : More A w w1 q := .inl aq0
  have aq' : More A w w1 q' := .inl aq0'
  generalize More A w w1 = A1 at hx aq aq'
  have y0 := hx.y0
  rw [hk] at y0
  have HX := hide hx
  have hXl : w.heap.size < w1.heap.size := hx.b.lt _ hx.a
  have hbl := hx.b.box.lt
  have zp := hx.b.box.cell 0 rfl
  have zr := hx.b.box.cell 2 rfl
  obtain ⟨u, hu⟩ : ∃ u, Hid (y.cells = u) := ⟨_, hide rfl⟩
  rw [hu.out] at hw1 ⊢
  clear hu h hy hk
  have zj := HX.out.b.box.cell 1 rfl
  have zk := HX.out.b.box.cell 3 rfl
  have hj11 := hj1.below HX.out.bel
  have hj21 := hj2.below HX.out.bel
  have hql : q < w.heap.size := hj1.lt
  have hql' : q' < w.heap.size := hj2.lt
  clear hx hj1 hj2 zp zr
  go_enter Tryz.func9, Tryz.ntmps9
  go_wp2_with fail
  try rw [hw1]
  obtain ⟨w8, hw8⟩ : ∃ w8, w1.drew = w8 := ⟨_, rfl⟩
  have B18 : Below w1.heap.size w1 w8 := by rw [← hw8]; exact (Below.refl _ _).drew
  have hn1 : n0 ≤ w1.heap.size := Nat.le_trans HX.out.hn HX.out.bel.size
  have hn8 : n0 ≤ w8.heap.size := Nat.le_trans hn1 B18.size
  have B08 : Below n0 w w8 := (HX.out.bel.mono HX.out.hn).trans (B18.mono hn1)
  obtain ⟨B, hAB, hBlt, hLB, hfirst⟩ := (HX.out.b.below B18).first
  have y1 := HX.out.y1
  have y2 := HX.out.y2
  have y3 := HX.out.y3
  have y4 := HX.out.y4
  have y8 := HX.out.ok.below ((B18.mono hn1))
  have hq8 : JAt w8 ⟨q, p, (if k then 1 else 0), tu, fs⟩ := hj11.below B18
  have hr8 : JAt w8 ⟨q', r, (if k then 1 else 0), tu, fs⟩ := hj21.below B18
  obtain ⟨ae, hae⟩ : ∃ ae, Hid (M.jsync ⟨q, p, (if k then 1 else 0), tu, fs⟩ = ae) := ⟨_, hide rfl⟩
  have hae2 : Hid (M.jsync ⟨q', r, (if k then 1 else 0), tu, fs⟩ = ae) := hide ((show M.jsync ⟨q', r, (if k then 1 else 0), tu, fs⟩ = M.jsync ⟨q, p, (if k then 1 else 0), tu, fs⟩ from rfl).trans hae.out)
  have kpe : Kp R ae.2 := by rw [← hae.out]; exact HX.out.b.kp.jsync _
  have cJ := jsync_any ⟨q, p, (if k then 1 else 0), tu, fs⟩ M B w8 hq8 hLB hBlt (hAB _ aq)
  rw [hae.out] at cJ
  unfold jptr at cJ
  simp only at cJ
  have cX : ∀ (wA : World) (C : Nat → Prop), RLive C wA r M → (∀ b, C b → b < wA.heap.size) → JAt wA ⟨q', r, (if k then 1 else 0), tu, fs⟩ → ¬ (q' = r) → y.ok n0 wA → Calls Tryz.prog 34 #[.pointer (some ⟨q', 0, none⟩)] wA fun e w' => e = .returned (.int .i64 ae.1) ∧ RLive C w' r ae.2 ∧ JAt w' ⟨q', r, (if k then 1 else 0), tu, fs⟩ ∧ Off (fun b => b = r) wA w' := fun wA C h1 h2 h3 h4 h5 => by
    have := xsync_any ⟨q', r, (if k then 1 else 0), tu, fs⟩ M C wA h3 h1 h2 h4
    rw [hae2.out] at this
    exact this
  refine hs_begin (S := (fun W : World => W.heap[w.heap.size]? = w1.heap[w.heap.size]? ∧ W.heap[bq]? = w1.heap[bq]?)) 12 rfl (by kernel_rfl) ?_
  rw [hw8]
  clear hw8
  have hS : (fun W : World => W.heap[w.heap.size]? = w1.heap[w.heap.size]? ∧ W.heap[bq]? = w1.heap[bq]?) w8 := ⟨B18.block _ hXl, B18.block _ hbl⟩
  refine hs_take (i := 0) (d := some 134) (v := ?_) rfl (by kernel_rfl) (by kernel_rfl) (by kernel_rfl) (by rfl) ?_ hS rfl ?_
  rotate_left
  · intro w' hw
    go_simp
    try with_reducible rfl
  simp only [Act.put, List.setIfInBounds_toArray, List.set_cons_zero, List.set_cons_succ]
  refine hs_take (i := 1) (d := some 135) (v := ?_) rfl (by kernel_rfl) (by kernel_rfl) (by kernel_rfl) (by rfl) ?_ hS rfl ?_
  rotate_left
  · intro w' hw
    go_simp
    try with_reducible rfl
  simp only [Act.put, List.setIfInBounds_toArray, List.set_cons_zero, List.set_cons_succ]
  refine hs_take (i := 2) (d := some 136) (v := ?_) rfl (by kernel_rfl) (by kernel_rfl) (by kernel_rfl) (by rfl) ?_ hS rfl ?_
  rotate_left
  · intro w' hw
    go_simp
    try with_reducible rfl
  simp only [Act.put, List.setIfInBounds_toArray, List.set_cons_zero, List.set_cons_succ]
  refine hs_take (i := 3) (d := some 137) (v := ?_) rfl (by kernel_rfl) (by kernel_rfl) (by kernel_rfl) (by rfl) ?_ hS rfl ?_
  rotate_left
  · intro w' hw
    have hc := cell_at zj hw.2
    go_simp
    try with_reducible rfl
  simp only [Act.put, List.setIfInBounds_toArray, List.set_cons_zero, List.set_cons_succ]
  refine hs_take (i := 5) (d := some 139) (v := ?_) rfl (by kernel_rfl) (by kernel_rfl) (by kernel_rfl) (by rfl) ?_ hS rfl ?_
  rotate_left
  · intro w' hw
    go_simp
    try with_reducible rfl
  simp only [Act.put, List.setIfInBounds_toArray, List.set_cons_zero, List.set_cons_succ]
  refine hs_take (i := 6) (d := some 140) (v := ?_) rfl (by kernel_rfl) (by kernel_rfl) (by kernel_rfl) (by rfl) ?_ hS rfl ?_
  rotate_left
  · intro w' hw
    go_simp
    try with_reducible rfl
  simp only [Act.put, List.setIfInBounds_toArray, List.set_cons_zero, List.set_cons_succ]
  refine hs_take (i := 7) (d := some 141) (v := ?_) rfl (by kernel_rfl) (by kernel_rfl) (by kernel_rfl) (by rfl) ?_ hS rfl ?_
  rotate_left
  · intro w' hw
    go_simp
    try with_reducible rfl
  simp only [Act.put, List.setIfInBounds_toArray, List.set_cons_zero, List.set_cons_succ]
  refine hs_take (i := 8) (d := some 142) (v := ?_) rfl (by kernel_rfl) (by kernel_rfl) (by kernel_rfl) (by rfl) ?_ hS rfl ?_
  rotate_left
  · intro w' hw
    have hc := cell_at zk hw.2
    go_simp
    try with_reducible rfl
  simp only [Act.put, List.setIfInBounds_toArray, List.set_cons_zero, List.set_cons_succ]
  refine hs_call (i := 4) (d := some 138) rfl (by kernel_rfl) (by rfl) (by go_simp; first | done | exact ⟨rfl, rfl⟩ | with_reducible rfl) rfl ?_
  refine (cJ).mono ?_
  rintro e' wA ⟨rfl, hTA, -, hOA⟩
  obtain ⟨A2, hA2, hm2, hoff2⟩ := hfirst wA _ hTA hOA
  obtain ⟨C, hAC, hClt, hLC, hsec⟩ := hm2.second
  have hS : (fun W : World => W.heap[w.heap.size]? = w1.heap[w.heap.size]? ∧ W.heap[bq]? = w1.heap[bq]?) wA := ⟨(hoff2.2 _ (Nat.lt_of_lt_of_le hXl B18.size) (fun z => z HX.out.a)).trans hS.1, (hoff2.2 _ (Nat.lt_of_lt_of_le hbl B18.size) (fun z => z HX.out.b.own)).trans hS.2⟩
  have hrA : JAt wA ⟨q', r, (if k then 1 else 0), tu, fs⟩ := hr8.at (hoff2.2 q' hr8.lt (fun z => z aq'))
  have hqr : ¬ (q' = r) := fun z => hm2.pr.ne.2.1 (by rw [← z]; exact hA2 _ aq')
  have yA := y8.below (hoff2.below hn8 (fun b hb z => z (HX.out.b.up b hb)))
  refine ⟨_, rfl, hS, ?_⟩
  simp only [Act.put, List.setIfInBounds_toArray, List.set_cons_zero, List.set_cons_succ]
  refine hs_call (i := 9) (d := some 143) rfl (by kernel_rfl) (by rfl) (by go_simp; first | done | exact ⟨rfl, rfl⟩ | with_reducible rfl) rfl ?_
  refine (cX wA C hLC hClt hrA hqr yA).mono ?_
  rintro e' wB ⟨rfl, hRB, -, hOB⟩
  obtain ⟨A3, hA3, hb3, hoff3⟩ := hsec wB (kpe) hRB hOB
  have hS : (fun W : World => W.heap[w.heap.size]? = w1.heap[w.heap.size]? ∧ W.heap[bq]? = w1.heap[bq]?) wB := ⟨(hoff3.2 _ (hm2.lt _ (hA2 _ HX.out.a)) (fun z => z (hA2 _ HX.out.a))).trans hS.1, (hoff3.2 _ hm2.box.lt (fun z => z hm2.own)).trans hS.2⟩
  have BB : Below n0 w wB := (B08.trans (hoff2.below hn8 (fun b hb z => z (HX.out.b.up b hb)))).trans (hoff3.below (Nat.le_trans hn8 hoff2.size) (fun b hb z => z (hm2.up b hb)))
  refine ⟨_, rfl, hS, ?_⟩
  simp only [Act.put, List.setIfInBounds_toArray, List.set_cons_zero, List.set_cons_succ]
  refine hs_take (i := 10) (d := some 144) (v := .bool true) rfl (by kernel_rfl) (by kernel_rfl) (by kernel_rfl) (by rfl) (fun w' hw => by go_simp) hS rfl ?_
  simp only [Act.put, List.setIfInBounds_toArray, List.set_cons_zero, List.set_cons_succ]
  refine hs_take (i := 11) (d := some 4) (v := ?_) rfl (by kernel_rfl) (by kernel_rfl) (by kernel_rfl) (by rfl) ?_ hS rfl ?_
  rotate_left
  · intro w' hw
    go_simp
    try with_reducible rfl
  simp only [Act.put, List.setIfInBounds_toArray, List.set_cons_zero, List.set_cons_succ]
  refine hs_done (by kernel_rfl) ?_
  have HE : Hid (Below n0 w wB ∧ ∃ A' M' jv' jr', Bs n0 R A' wB bq p r M' jv' jr') := hide ⟨BB, A3, _, _, _, hb3⟩
  clear hS hb3 hm2 hsec hfirst hLC hLB
  go_wp2_with fail
  go_ret
  exact ⟨rfl, HE.out⟩
end Go.Proofs.YtfkchnjbbbhmjaaGreat.Ty
namespace Go.Proofs.YtfkchnjbbbhmjaaGreat.Ty
open Go.RowKit
open Tal
set_option linter.unusedVariables false
set_option maxRecDepth 100000 in
set_option maxHeartbeats 8000000 in
theorem act_2 (n0 bq p r q q' : Nat) (k : Bool) (tu fs : Int) (R : Int) (A : Nat → Prop) (M : Mt) (y : Av) (w : World) (h : Bs n0 R A w bq p r M (some ⟨q, 0, none⟩) (some ⟨q', 0, none⟩)) (hj1 : JAt w ⟨q, p, (if k then 1 else 0), tu, fs⟩) (hj2 : JAt w ⟨q', r, (if k then 1 else 0), tu, fs⟩) (ha : (A q ∧ A q' ∧ n0 ≤ q ∧ n0 ≤ q') ∧ (¬ (q = q') ∧ ¬ (q = bq) ∧ ¬ (q' = bq)) ∧ 0 ≤ tu ∧ tu ≤ 1099511627776) (hy : y.ok n0 w) (hk : y.kind = 2) :
    Calls Tryz.prog 9 #[.pointer (some ⟨bq, 0, none⟩), .agg y.cells.toArray] w fun e w' => e = .returned (.bool true) ∧ Below n0 w w' ∧ ∃ A' M' jv' jr', Bs n0 R A' w' bq p r M' jv' jr' := by
  obtain ⟨⟨aq0, aq0', nq, nq'⟩, ⟨dq, dq1, dq2⟩, tu0, tu1⟩ := ha
  have hx := bx_new h hy
  have hXb0 : ¬ (w.heap.size = bq) := by have := h.box.lt; omega
  obtain ⟨w1, hw1⟩ : ∃ w1, w.alloc (.cells y.cells.toArray 38) = w1 := ⟨_, rfl⟩
  rw [hw1] at hx
  have aq : More A w w1 q := .inl aq0
  have aq' : More A w w1 q' := .inl aq0'
  generalize More A w w1 = A1 at hx aq aq'
  have y0 := hx.y0
  rw [hk] at y0
  have HX := hide hx
  have hXl : w.heap.size < w1.heap.size := hx.b.lt _ hx.a
  have hbl := hx.b.box.lt
  have zp := hx.b.box.cell 0 rfl
  have zr := hx.b.box.cell 2 rfl
  obtain ⟨u, hu⟩ : ∃ u, Hid (y.cells = u) := ⟨_, hide rfl⟩
  rw [hu.out] at hw1 ⊢
  clear hu h hy hk
  have zj := HX.out.b.box.cell 1 rfl
  have zk := HX.out.b.box.cell 3 rfl
  have hj11 := hj1.below HX.out.bel
  have hj21 := hj2.below HX.out.bel
  have hql : q < w.heap.size := hj1.lt
  have hql' : q' < w.heap.size := hj2.lt
  clear hx hj1 hj2 zp zr
  go_enter Tryz.func9, Tryz.ntmps9
  go_wp2_with fail
  try rw [hw1]
  obtain ⟨w8, hw8⟩ : ∃ w8, w1.drew = w8 := ⟨_, rfl⟩
  have B18 : Below w1.heap.size w1 w8 := by rw [← hw8]; exact (Below.refl _ _).drew
  have hn1 : n0 ≤ w1.heap.size := Nat.le_trans HX.out.hn HX.out.bel.size
  have hn8 : n0 ≤ w8.heap.size := Nat.le_trans hn1 B18.size
  have B08 : Below n0 w w8 := (HX.out.bel.mono HX.out.hn).trans (B18.mono hn1)
  have hb8 := HX.out.b.below B18
  obtain ⟨B, hAB, hBlt, hLB, hfirst⟩ := hb8.pr.tape hb8.lt
  have y1 := HX.out.y1
  have y2 := HX.out.y2
  have y3 := HX.out.y3
  have y4 := HX.out.y4
  have y8 := HX.out.ok.below ((B18.mono hn1))
  obtain ⟨Le, M', k', tu', hl1, hl2, tu0', tu1', hkp⟩ := layM_two M q p q' r k tu fs y.rs tu0 tu1
  have hq8 : JAt w8 ⟨q, p, (if k then 1 else 0), tu, fs⟩ := hj11.below B18
  have hr8 : JAt w8 ⟨q', r, (if k then 1 else 0), tu, fs⟩ := hj21.below B18
  have kk : Jv.ok ⟨q, p, (if k then 1 else 0), tu, fs⟩ := ⟨by show 0 ≤ (if k then 1 else 0 : Int); cases k <;> simp, by show (if k then 1 else 0 : Int) ≤ 1; cases k <;> simp, tu0, tu1⟩
  have kk' : Jv.ok ⟨q', r, (if k then 1 else 0), tu, fs⟩ := ⟨kk.a0, kk.a1, tu0, tu1⟩
  have cJ := jlay_any ⟨q, p, (if k then 1 else 0), tu, fs⟩ M B y.ra y.rc y.rs w8 hq8 kk hLB hBlt (hAB _ aq) y8.rows (by have := y8.len; unfold maxLen; omega) (y8.rsb.imp id (fun z x e => ⟨hAB _ (HX.out.b.up _ (z x e)), by have := z x e; show x.block ≠ q; omega⟩)) (fun x hx => ⟨(y8.each x hx).1, (y8.each x hx).2.imp id (fun z ad e => hAB _ (HX.out.b.up _ (z ad e)))⟩)
  rw [hl1] at cJ
  unfold jptr at cJ
  simp only at cJ
  have cX : ∀ (wA : World) (C : Nat → Prop), RLive C wA r M → (∀ b, C b → b < wA.heap.size) → C q' → JAt wA ⟨q', r, (if k then 1 else 0), tu, fs⟩ → ¬ (q' = r) → n0 ≤ r → y.ok n0 wA → Calls Tryz.prog 36 #[.pointer (some ⟨q', 0, none⟩), .slice y.ra y.rs.length y.rc] wA fun e w' => e = .returned (.int .i64 Le) ∧ RLive C w' r M' ∧ JAt w' ⟨q', r, (if k' then 1 else 0), tu', fs⟩ ∧ Off (fun b => b = r ∨ b = q') wA w' := fun wA C h1 h2 h3 h4 h5 h6 h7 => by
    have := xlay_any ⟨q', r, (if k then 1 else 0), tu, fs⟩ M C y.ra y.rc y.rs wA h4 kk' h1 h2 h3 h5 h7.rows (by have := h7.len; omega) (h7.rsb.imp id (fun z x e => by have := z x e; show x.block ≠ r; omega)) (fun x hx => ⟨(h7.each x hx).1, (h7.each x hx).2.imp id (fun z ad e => by have := z ad e; show ad.block ≠ r; omega)⟩)
    rw [hl2] at this
    exact this
  have kpe : Kp R M' := hkp R HX.out.b.kp
  clear hl1 hl2 hkp
  refine hs_begin (S := (fun W : World => W.heap[w.heap.size]? = w1.heap[w.heap.size]? ∧ W.heap[bq]? = w1.heap[bq]?)) 16 rfl (by kernel_rfl) ?_
  rw [hw8]
  clear hw8
  have hS : (fun W : World => W.heap[w.heap.size]? = w1.heap[w.heap.size]? ∧ W.heap[bq]? = w1.heap[bq]?) w8 := ⟨B18.block _ hXl, B18.block _ hbl⟩
  refine hs_take (i := 0) (d := some 147) (v := ?_) rfl (by kernel_rfl) (by kernel_rfl) (by kernel_rfl) (by rfl) ?_ hS rfl ?_
  rotate_left
  · intro w' hw
    go_simp
    try with_reducible rfl
  simp only [Act.put, List.setIfInBounds_toArray, List.set_cons_zero, List.set_cons_succ]
  refine hs_take (i := 1) (d := some 148) (v := ?_) rfl (by kernel_rfl) (by kernel_rfl) (by kernel_rfl) (by rfl) ?_ hS rfl ?_
  rotate_left
  · intro w' hw
    go_simp
    try with_reducible rfl
  simp only [Act.put, List.setIfInBounds_toArray, List.set_cons_zero, List.set_cons_succ]
  refine hs_take (i := 2) (d := some 149) (v := ?_) rfl (by kernel_rfl) (by kernel_rfl) (by kernel_rfl) (by rfl) ?_ hS rfl ?_
  rotate_left
  · intro w' hw
    go_simp
    try with_reducible rfl
  simp only [Act.put, List.setIfInBounds_toArray, List.set_cons_zero, List.set_cons_succ]
  refine hs_take (i := 3) (d := some 150) (v := ?_) rfl (by kernel_rfl) (by kernel_rfl) (by kernel_rfl) (by rfl) ?_ hS rfl ?_
  rotate_left
  · intro w' hw
    have hc := cell_at zj hw.2
    go_simp
    try with_reducible rfl
  simp only [Act.put, List.setIfInBounds_toArray, List.set_cons_zero, List.set_cons_succ]
  refine hs_take (i := 4) (d := some 151) (v := ?_) rfl (by kernel_rfl) (by kernel_rfl) (by kernel_rfl) (by rfl) ?_ hS rfl ?_
  rotate_left
  · intro w' hw
    go_simp
    try with_reducible rfl
  simp only [Act.put, List.setIfInBounds_toArray, List.set_cons_zero, List.set_cons_succ]
  refine hs_take (i := 5) (d := some 152) (v := ?_) rfl (by kernel_rfl) (by kernel_rfl) (by kernel_rfl) (by rfl) ?_ hS rfl ?_
  rotate_left
  · intro w' hw
    have hc := cell_at y2 hw.1
    go_simp
    try with_reducible rfl
  simp only [Act.put, List.setIfInBounds_toArray, List.set_cons_zero, List.set_cons_succ]
  refine hs_take (i := 7) (d := some 154) (v := ?_) rfl (by kernel_rfl) (by kernel_rfl) (by kernel_rfl) (by rfl) ?_ hS rfl ?_
  rotate_left
  · intro w' hw
    go_simp
    try with_reducible rfl
  simp only [Act.put, List.setIfInBounds_toArray, List.set_cons_zero, List.set_cons_succ]
  refine hs_take (i := 8) (d := some 155) (v := ?_) rfl (by kernel_rfl) (by kernel_rfl) (by kernel_rfl) (by rfl) ?_ hS rfl ?_
  rotate_left
  · intro w' hw
    go_simp
    try with_reducible rfl
  simp only [Act.put, List.setIfInBounds_toArray, List.set_cons_zero, List.set_cons_succ]
  refine hs_take (i := 9) (d := some 156) (v := ?_) rfl (by kernel_rfl) (by kernel_rfl) (by kernel_rfl) (by rfl) ?_ hS rfl ?_
  rotate_left
  · intro w' hw
    go_simp
    try with_reducible rfl
  simp only [Act.put, List.setIfInBounds_toArray, List.set_cons_zero, List.set_cons_succ]
  refine hs_take (i := 10) (d := some 157) (v := ?_) rfl (by kernel_rfl) (by kernel_rfl) (by kernel_rfl) (by rfl) ?_ hS rfl ?_
  rotate_left
  · intro w' hw
    have hc := cell_at zk hw.2
    go_simp
    try with_reducible rfl
  simp only [Act.put, List.setIfInBounds_toArray, List.set_cons_zero, List.set_cons_succ]
  refine hs_take (i := 11) (d := some 158) (v := ?_) rfl (by kernel_rfl) (by kernel_rfl) (by kernel_rfl) (by rfl) ?_ hS rfl ?_
  rotate_left
  · intro w' hw
    go_simp
    try with_reducible rfl
  simp only [Act.put, List.setIfInBounds_toArray, List.set_cons_zero, List.set_cons_succ]
  refine hs_take (i := 12) (d := some 159) (v := ?_) rfl (by kernel_rfl) (by kernel_rfl) (by kernel_rfl) (by rfl) ?_ hS rfl ?_
  rotate_left
  · intro w' hw
    have hc := cell_at y2 hw.1
    go_simp
    try with_reducible rfl
  simp only [Act.put, List.setIfInBounds_toArray, List.set_cons_zero, List.set_cons_succ]
  refine hs_call (i := 6) (d := some 153) rfl (by kernel_rfl) (by rfl) (by go_simp; first | done | exact ⟨rfl, rfl⟩ | with_reducible rfl) rfl ?_
  refine cJ.mono ?_
  rintro e' wA ⟨rfl, hTA, hJA, hOA⟩
  obtain ⟨A2, hA2, hA2B, -, hP2⟩ := hfirst wA M' B (fun _ z => z) hTA (hOA.mono (fun b _ z => z.elim (fun e => .inl (by rw [e]; exact aq)) .inr))
  have hoff2 : Off (fun b => b = q ∨ ¬ A1 b) w8 wA := hOA.mono (fun b _ z => z.elim .inl (fun z => .inr (fun z1 => z (hAB b z1))))
  have lt2 : ∀ b, A2 b → b < wA.heap.size := fun b z => Nat.lt_of_lt_of_le (hBlt b (hA2B b z)) hOA.size
  obtain ⟨C, hAC, hClt, hLC, hsec⟩ := hP2.doc lt2
  have nr := hP2.ne.2.1
  have B2 : Below n0 w8 wA := hoff2.below hn8 (fun b hb z => z.elim (by omega) (fun z => z (HX.out.b.up b hb)))
  have hS : (fun W : World => W.heap[w.heap.size]? = w1.heap[w.heap.size]? ∧ W.heap[bq]? = w1.heap[bq]?) wA := ⟨(hoff2.2 _ (Nat.lt_of_lt_of_le hXl B18.size) (fun z => z.elim (by omega) (fun z => z HX.out.a))).trans hS.1, (hoff2.2 _ (Nat.lt_of_lt_of_le hbl B18.size) (fun z => z.elim (fun e => dq1 e.symm) (fun z => z HX.out.b.own))).trans hS.2⟩
  have yA := y8.below B2
  have hrA : JAt wA ⟨q', r, (if k then 1 else 0), tu, fs⟩ := hr8.at (hoff2.2 q' hr8.lt (fun z => z.elim (fun e => dq e.symm) (fun z => z aq')))
  have hqr : ¬ (q' = r) := fun z => nr (by rw [← z]; exact hA2 _ aq')
  have hqr1 : ¬ (q = r) := fun z => nr (by rw [← z]; exact hA2 _ aq)
  have hnr : n0 ≤ r := Nat.le_of_not_lt (fun z => nr (hA2 _ (HX.out.b.up _ z)))
  have boxA := hb8.box.at (hoff2.2 _ hb8.box.lt (fun z => z.elim (fun e => dq1 e.symm) (fun z => z HX.out.b.own)))
  refine ⟨_, rfl, hS, ?_⟩
  simp only [Act.put, List.setIfInBounds_toArray, List.set_cons_zero, List.set_cons_succ]
  refine hs_call (i := 13) (d := some 160) rfl (by kernel_rfl) (by rfl) (by go_simp; first | done | exact ⟨rfl, rfl⟩ | with_reducible rfl) rfl ?_
  refine (cX wA C hLC hClt (hAC _ (hA2 _ aq')) hrA hqr hnr yA).mono ?_
  rintro e' wB ⟨rfl, hRB, hJB, hOB⟩
  obtain ⟨A3, hA3, hA3C, -, hP3⟩ := hsec wB M' C (fun _ z => z) hRB (hOB.mono (fun b _ z => z.elim .inl (fun e => .inr (by rw [e]; exact hA2 _ aq'))))
  have hXr : ¬ (w.heap.size = r) := fun z => nr (by rw [← z]; exact hA2 _ HX.out.a)
  have hbr : ¬ (bq = r) := fun z => nr (by rw [← z]; exact hA2 _ HX.out.b.own)
  have hS : (fun W : World => W.heap[w.heap.size]? = w1.heap[w.heap.size]? ∧ W.heap[bq]? = w1.heap[bq]?) wB := ⟨(hOB.2 _ (lt2 _ (hA2 _ HX.out.a)) (fun z => z.elim hXr (by omega))).trans hS.1, (hOB.2 _ boxA.lt (fun z => z.elim hbr (fun e => dq2 e.symm))).trans hS.2⟩
  have BB : Below n0 w wB := (B08.trans B2).trans (hOB.below (Nat.le_trans hn8 hOA.size) (fun b hb z => z.elim (by omega) (by omega)))
  have hb3 : Bs n0 R A3 wB bq p r M' (some ⟨q, 0, none⟩) (some ⟨q', 0, none⟩) := ⟨fun b z => Nat.lt_of_lt_of_le (hClt b (hA3C b z)) hOB.size, fun b z => hA3 _ (hA2 _ (HX.out.b.up b z)), HX.out.b.bq0, hA3 _ (hA2 _ HX.out.b.own), boxA.at (hOB.2 _ boxA.lt (fun z => z.elim hbr (fun e => dq2 e.symm))), hP3, .inr ⟨q, q', k', tu', fs, rfl, rfl, hJA.at (hOB.2 q hJA.lt (fun z => z.elim hqr1 dq)), hJB, ⟨hA3 _ (hA2 _ aq), hA3 _ (hA2 _ aq'), nq, nq'⟩, ⟨dq, dq1, dq2⟩, tu0', tu1'⟩, kpe, HX.out.b.small⟩
  refine ⟨_, rfl, hS, ?_⟩
  simp only [Act.put, List.setIfInBounds_toArray, List.set_cons_zero, List.set_cons_succ]
  refine hs_take (i := 14) (d := some 161) (v := .bool true) rfl (by kernel_rfl) (by kernel_rfl) (by kernel_rfl) (by rfl) (fun w' hw => by go_simp) hS rfl ?_
  simp only [Act.put, List.setIfInBounds_toArray, List.set_cons_zero, List.set_cons_succ]
  refine hs_take (i := 15) (d := some 4) (v := ?_) rfl (by kernel_rfl) (by kernel_rfl) (by kernel_rfl) (by rfl) ?_ hS rfl ?_
  rotate_left
  · intro w' hw
    go_simp
    try with_reducible rfl
  simp only [Act.put, List.setIfInBounds_toArray, List.set_cons_zero, List.set_cons_succ]
  refine hs_done (by kernel_rfl) ?_
  have HE : Hid (Below n0 w wB ∧ ∃ A' M' jv' jr', Bs n0 R A' wB bq p r M' jv' jr') := hide ⟨BB, A3, _, _, _, hb3⟩
  clear hS hb3 hsec hfirst hLC hLB
  go_wp2_with fail
  go_ret
  exact ⟨rfl, HE.out⟩
end Go.Proofs.YtfkchnjbbbhmjaaGreat.Ty
namespace Go.Proofs.YtfkchnjbbbhmjaaGreat.Ty
open Go.RowKit
open Tal
def W0 : Mt := Mt.new 1000
def W1 : Mt := (openL W0 0 0).M
theorem open0 (q p : Nat) : openL W0 q p = ⟨0, W1, ⟨q, p, 0, 1, 0⟩⟩ := by kernel_rfl
theorem rec0 : (findK W0 2).2.2 = [] := by kernel_rfl
def W2 : Mt := (W1.jappend ⟨0, 0, 0, 1, 0⟩ [97]).2
def W3 : Mt := (W2.jsync ⟨0, 0, 0, 1, 0⟩).2
def W4 : Mt := (W3.jappend ⟨0, 0, 0, 1, 0⟩ [98]).2
def W5 : Mt := (W4.fail 0).2
def W6 : Mt := { W5 with on := true }
def W7 : Mt := (openL W6 0 0).M
theorem app2 (q p : Nat) : W1.jappend ⟨q, p, 0, 1, 0⟩ [97] = (0, W2) := by kernel_rfl
theorem syn3 (q p : Nat) : W2.jsync ⟨q, p, 0, 1, 0⟩ = (0, W3) := by kernel_rfl
theorem app4 (q p : Nat) : W3.jappend ⟨q, p, 0, 1, 0⟩ [98] = (0, W4) := by kernel_rfl
theorem sur4 : decide (W4.sureOf 0 = W4.jbytes 0) = false := by kernel_rfl
theorem fai5 : W4.fail 0 = (0, W5) := by kernel_rfl
theorem open6 (q p : Nat) : openL W6 q p = ⟨0, W7, ⟨q, p, 1, 2, 1⟩⟩ := by kernel_rfl
theorem rec6 : (findK W6 2).2.2 = [[97]] := by kernel_rfl
theorem on6 : W6.on = true := by kernel_rfl
theorem rm6 : W6.room ≤ 100000000 := by
  have : W6.room = 1000 := by kernel_rfl
  omega
theorem a_str : strOf [97] = ⟨#[97]⟩ := by rfl
set_option maxRecDepth 100000 in
set_option maxHeartbeats 8000000 in
theorem lives16_any (w : World) : Calls Tryz.prog 5 #[] w fun e w' => e = .returned (.bool true) ∧ Below w.heap.size w w' := by
  have c1 := live_new 1000 w (by omega) (by omega)
  go_enter Tryz.func5, Tryz.ntmps5
  go_wp2_with fail
  refine c1.mono ?_
  rintro e w1 ⟨rfl, hB1, hT1⟩
  clear c1
  have lt0 : ∀ b, (fun b => b < w.heap.size) b → b < w1.heap.size := fun b hb => Nat.lt_of_lt_of_le hb hB1.size
  obtain ⟨p, hp⟩ : ∃ p, Hid (w.heap.size = p) := ⟨_, hide rfl⟩
  rw [hp.out] at hT1 lt0 ⊢
  have cO := open_on p W0 (fun b => b < p) w1 hT1 lt0 rfl (by show (1000 : Int) ≤ _; omega)
  simp only [open0, rec0] at cO
  go_wp2_with fail
  refine cO.mono ?_
  rintro e w2 ⟨q, A2, hOp⟩
  clear cO hT1
  obtain ⟨h2up, h2q, h2lt, -, h2off, -, hT2, hsaid⟩ := hOp
  simp only at hT2 hsaid
  rcases hsaid with ⟨h, -⟩ | ⟨-, hJ2, v, rs, rfl, hW, hzs, -⟩
  · exact absurd rfl h
  obtain rfl : rs = [] := by simpa using hzs
  obtain ⟨ra, rc, rfl, -, -, -⟩ := hW.recs (by simp)
  clear hW hzs lt0
  have hB2 : Below p w w2 := by
    rw [← hp.out]
    exact hB1.trans (h2off.below hB1.size (fun b hb q => q (by rw [← hp.out]; exact hb)))
  clear h2off hB1
  have cT := jturn_any _ w2 hJ2
  unfold jptr at cT
  simp only at cT
  go_wp2_with fail
  refine cT.mono ?_
  rintro e w2' ⟨rfl, hx⟩
  obtain rfl := hx.symm
  clear cT hx
  have kc := Lib.run_convert_bytes_const (P := Tryz.prog) w2 35 5 #[.int .u8 97] 1 1 Tryz.underlying35 Tryz.underlying5
  have hBa : Below w2.heap.size w2 (w2.alloc (.cells #[.int .u8 97] 5 (1, 2))) := (Below.refl _ _).alloc (Nat.le_refl _) _
  have hRa : RowAt (w2.alloc (.cells #[.int .u8 97] 5 (1, 2))) (some ⟨w2.heap.size, 0, none⟩) [97] := mark_row w2 [97] (1, 2) (by decide) (by decide) _ rfl
  have c3 := jappend_any _ W1 A2 _ 1 [97] _ (hJ2.below hBa) (hT2.below hBa) (fun b hb => Nat.lt_of_lt_of_le (h2lt b hb) hBa.size) h2q hRa
  rw [app2] at c3
  unfold jptr at c3
  simp only at c3
  go_wp2_with fail
  refine c3.mono ?_
  rintro e w3 ⟨rfl, hT3, hJ3, hO3⟩
  clear c3 kc hRa
  have hB3 : Below p w w3 := (hB2.trans (hBa.mono (by have := hB2.size; rw [hp.out] at this; exact this))).trans (hO3.below (by have := hB2.size; rw [hp.out] at this; have := hBa.size; omega) (fun b hb q => q (h2up b hb)))
  have lt3 : ∀ b, A2 b → b < w3.heap.size := fun b hb => Nat.lt_of_lt_of_le (h2lt b hb) (Nat.le_trans hBa.size hO3.size)
  clear hO3 hBa hT2 hJ2 hB2 h2lt
  have c4 := jsync_any _ W2 A2 w3 hJ3 hT3 lt3 h2q
  rw [syn3] at c4
  unfold jptr at c4
  simp only at c4
  go_wp2_with fail
  refine c4.mono ?_
  rintro e w4 ⟨rfl, hT4, hJ4, hO4⟩
  have hB4 : Below p w w4 := hB3.trans (hO4.below (by have := hB3.size; rw [hp.out] at this; exact this) (fun b hb q => q (h2up b hb)))
  have lt4 : ∀ b, A2 b → b < w4.heap.size := fun b hb => Nat.lt_of_lt_of_le (lt3 b hb) hO4.size
  clear c4 hO4 hT3 hJ3 hB3 lt3
  have kc := Lib.run_convert_bytes_const (P := Tryz.prog) w4 35 5 #[.int .u8 98] 1 1 Tryz.underlying35 Tryz.underlying5
  have hBa : Below w4.heap.size w4 (w4.alloc (.cells #[.int .u8 98] 5 (1, 2))) := (Below.refl _ _).alloc (Nat.le_refl _) _
  have hRa : RowAt (w4.alloc (.cells #[.int .u8 98] 5 (1, 2))) (some ⟨w4.heap.size, 0, none⟩) [98] := mark_row w4 [98] (1, 2) (by decide) (by decide) _ rfl
  have c3 := jappend_any _ W3 A2 _ 1 [98] _ (hJ4.below hBa) (hT4.below hBa) (fun b hb => Nat.lt_of_lt_of_le (lt4 b hb) hBa.size) h2q hRa
  rw [app4] at c3
  unfold jptr at c3
  simp only at c3
  go_wp2_with fail
  refine c3.mono ?_
  rintro e w5 ⟨rfl, hT5, hJ5, hO5⟩
  clear c3 kc hRa
  have hB5 : Below p w w5 := (hB4.trans (hBa.mono (by have := hB4.size; rw [hp.out] at this; exact this))).trans (hO5.below (by have := hB4.size; rw [hp.out] at this; have := hBa.size; omega) (fun b hb q => q (h2up b hb)))
  have lt5 : ∀ b, A2 b → b < w5.heap.size := fun b hb => Nat.lt_of_lt_of_le (lt4 b hb) (Nat.le_trans hBa.size hO5.size)
  clear hO5 hBa hT4 hJ4 hB4 lt4
  have c5 := jsure_any _ W4 A2 w5 hJ5 hT5
  simp only at c5
  rw [sur4] at c5
  unfold jptr at c5
  simp only at c5
  go_wp2_with fail
  refine c5.mono ?_
  rintro e w6 ⟨rfl, hBs⟩
  have hT6 := hT5.below hBs
  have hB6 : Below p w w6 := hB5.trans (hBs.mono (by have := hB5.size; rw [hp.out] at this; exact this))
  have lt6 : ∀ b, A2 b → b < w6.heap.size := fun b hb => Nat.lt_of_lt_of_le (lt5 b hb) hBs.size
  clear c5 hBs hT5 hJ5 hB5 lt5
  have c7 := live_fail hT6 lt6 0
  rw [fai5] at c7
  go_wp2_with fail
  refine c7.mono ?_
  rintro e w7 ⟨rfl, hT7, hO7⟩
  have hB7 : Below p w w7 := hB6.trans (hO7.below (by have := hB6.size; rw [hp.out] at this; exact this) (fun b hb q => q (h2up b hb)))
  have lt7 : ∀ b, A2 b → b < w7.heap.size := fun b hb => Nat.lt_of_lt_of_le (lt6 b hb) hO7.size
  clear c7 hO7 hT6 hB6 lt6
  have c8 := live_power hT7 lt7
  go_wp2_with fail
  refine c8.mono ?_
  rintro e w8 ⟨rfl, hT8, hO8⟩
  have hB8 : Below p w w8 := hB7.trans (hO8.below (by have := hB7.size; rw [hp.out] at this; exact this) (fun b hb q => q (h2up b hb)))
  have lt8 : ∀ b, A2 b → b < w8.heap.size := fun b hb => Nat.lt_of_lt_of_le (lt7 b hb) hO8.size
  have hT8 : Live A2 w8 p W6 := hT8
  clear c8 hO8 hT7 hB7 lt7
  have cO := open_on p W6 A2 w8 hT8 lt8 on6 rm6
  simp only [open6, rec6] at cO
  go_wp2_with fail
  refine cO.mono ?_
  rintro e w9 ⟨q9, A9, hOp⟩
  clear cO hT8
  obtain ⟨-, -, -, -, h9off, -, -, hsaid⟩ := hOp
  simp only at hsaid
  rcases hsaid with ⟨h, -⟩ | ⟨-, hJ9, v, rs, rfl, hW, hzs, -⟩
  · exact absurd rfl h
  obtain ⟨r, rfl⟩ : ∃ r, rs = [r] := by
    have hl : rs.length = 1 := by simpa using congrArg List.length hzs
    exact List.length_eq_one_iff.1 hl
  obtain ⟨xa, xc, xz⟩ := r
  simp only [List.map_cons, List.map_nil, List.cons.injEq, and_true] at hzs
  subst hzs
  obtain ⟨ra9, rc9, rfl, hR9, -, -⟩ := hW.recs (by simp)
  obtain ⟨b9, o9, hA9, -, hc9, hr9⟩ := hR9.get 0 (by simp)
  subst hA9
  simp only [List.getElem_cons_zero, Nat.add_zero] at hc9 hr9
  have hB9 : Below p w w9 := hB8.trans (h9off.below (by have := hB8.size; rw [hp.out] at this; exact this) (fun b hb q => q (h2up b hb)))
  have kr : (convert 35 9 (.slice xa 1 xc)).run Tryz.prog w9 = .ok (.string ⟨#[97]⟩) w9 := _root_.Go.Proofs.YtfkchnjbbbhmjaaGreat.row_str (cap := xc) hr9
  have cT := jturn_any _ w9 hJ9
  unfold jptr at cT
  simp only at cT
  clear hW hR9 hr9 h9off hJ9 hB8 lt8
  go_wp2_with fail
  refine cT.mono ?_
  rintro e w10 ⟨rfl, hx⟩
  obtain rfl := hx.symm
  clear cT hx
  go_wp2_with fail
  go_ret
  exact ⟨rfl, by rw [hp.out]; exact hB9⟩
end Go.Proofs.YtfkchnjbbbhmjaaGreat.Ty
