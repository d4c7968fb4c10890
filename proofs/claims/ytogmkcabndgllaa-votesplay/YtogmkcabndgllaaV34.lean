/- the document's Add: a later view -/
import Derived.Test.YtogmkcabndgllaaV33
namespace Go.Proofs.Ytogmkcabndgllaa
open Go.RowKit
theorem range_sets {b o : Nat} : ∀ (B' B A C : List Value) (w : World), w.rangeAt b o (A ++ B ++ C) → B.length = B'.length → (w.setCells b (o + A.length) B').rangeAt b o (A ++ B' ++ C)
  | [], B, A, C, w, h, hl => by
    have : B = [] := List.eq_nil_of_length_eq_zero hl
    subst this
    exact h
  | v :: vs, [], A, C, w, h, hl => by simp at hl
  | v :: vs, u :: us, A, C, w, h, hl => by
    have h1 := range_set h A.length v
    have e : (A ++ (u :: us) ++ C).set A.length v = (A ++ [v]) ++ us ++ C := by
      rw [List.append_assoc, List.set_append_right _ _ (Nat.le_refl _), Nat.sub_self]; simp
    rw [e] at h1
    have h2 := range_sets vs us (A ++ [v]) C _ h1 (by simpa using hl)
    rw [List.length_append, List.length_singleton, ← Nat.add_assoc] at h2
    rw [World.setCells]
    simpa using h2
theorem put_set {st : List On} {x : On} {i : Nat} (hu : Uniq st) (h : idxL st x.v.k x.n = some i) : putL st x = st.set i x := by
  obtain ⟨hi, hf⟩ := idx_some h
  obtain ⟨-, hq1, hq2⟩ := find_some hf
  unfold putL
  rw [hf]
  simp only [Option.isSome_some, if_true]
  refine List.ext_getElem (by simp) (fun j h1 h2 => ?_)
  rw [List.getElem_map, List.getElem_set]
  have hj : j < st.length := by simpa using h1
  by_cases e : i = j
  · subst e; rw [if_pos ⟨hq1, hq2⟩, if_pos rfl]
  · rw [if_neg e, if_neg]
    rintro ⟨p1, p2⟩
    have hp := List.pairwise_iff_getElem.1 hu
    rcases Nat.lt_or_gt_of_ne e with q | q
    · exact hp i j hi hj q ⟨by omega, by omega⟩
    · exact hp j i hj hi q ⟨by omega, by omega⟩
theorem flat_set {st : List On} {x : On} {i : Nat} (hi : i < st.length) : ∃ A B C, flatO st = A ++ B ++ C ∧ flatO (st.set i x) = A ++ x.cells ++ C ∧ A = flatO (st.take i) ∧ B = st[i].cells := by
  refine ⟨flatO (st.take i), st[i].cells, flatO (st.drop (i + 1)), ?_, ?_, rfl, rfl⟩
  · have e : st.take i ++ (st[i] :: st.drop (i + 1)) = st := by rw [← List.drop_eq_getElem_cons hi, List.take_append_drop]
    have e2 : flatO st = flatO (st.take i ++ (st[i] :: st.drop (i + 1))) := by rw [e]
    rw [e2]
    unfold flatO
    rw [List.flatMap_append, List.flatMap_cons, List.append_assoc]
  · rw [List.set_eq_take_append_cons_drop, if_pos hi]
    simp [flatO, List.flatMap_append, List.flatMap_cons, List.append_assoc]
theorem xadd_last {W : World} {X b cap : Nat} {N : Int} {st : List On} {x : On} {u : List Value} {i : Nat} (h : XAt W X (some ⟨b, 0, none⟩) cap N st) (hi : i < st.length) (hu : x.cells = u) (hx : x.ok) (hn : (0 ≤ x.n ∧ x.n < N) ∧ (x.v.k = 1 ∨ x.v.k = 2)) (hf : idxL st x.v.k x.n = some i) :
    XAt (W.setCells b (i * 53) u) X (some ⟨b, 0, none⟩) cap N (putL st x) := by
  have hp := put_set h.bk.uniq hf
  have hbk := h.bk.put hx hn.1 hn.2
  have hne := h.ne _ rfl
  have hl : (putL st x).length = st.length := by rw [hp]; simp
  have hX := set_other W b (i * 53) u X (fun e => hne e.symm)
  refine ⟨by rw [size_sets]; exact h.lt, ?_, ?_, ?_, by rw [hl]; exact h.le, h.ne, ?_, hbk⟩
  · rw [← h.c0]; simp [World.cell?, hX]
  · rw [hl, ← h.c1]; simp [World.cell?, hX]
  · rcases h.row with q | ⟨b', off, e, q1, q2⟩
    · subst q; simp at hi
    · cases e
      refine .inr ⟨b, 0, rfl, by rw [size_sets]; exact q1, ?_⟩
      obtain ⟨A, B, C, e1, e2, e3, e4⟩ := flat_set (x := x) hi
      have q3 : W.rangeAt b 0 (flatO st) := q2
      rw [e1] at q3
      have hA : A.length = i * 53 := by
        rw [e3, flatO_len (fun r hr => h.bk.ok r (List.mem_of_mem_take hr)), List.length_take, Nat.min_eq_left (Nat.le_of_lt hi)]
      have := range_sets u B A C W q3 (by rw [e4, (h.bk.ok _ (List.getElem_mem hi)).len, ← hu, hx.len])
      rw [hA, Nat.zero_add] at this
      show World.rangeAt _ b 0 (flatO (putL st x))
      rw [hp, e2, hu]
      exact this
  · intro j hj
    have := h.th j hj
    simpa [World.cell?, World.frozen?, hX] using this
theorem wpList_runX {P : Program} {ops : Array Oper} {rest : List Oper} {o : Oper} {a : Act} {w : World} {R : Value → World → Prop} {Q : Exit → Act → World → Prop} (hgd : o.guard = none) (hr : ∃ v w', (execOp a.eval o).run P w = .ok (.value v) w' ∧ R v w') (h : ∀ v w', R v w' → wpList P ops Q rest (a.put o.dst v) w') : wpList P ops Q (o :: rest) a w := by
  obtain ⟨v, w', h1, h2⟩ := hr
  exact wpList_run1 hgd h1 (h v w' h2)
theorem xadd_mid {w4 W : World} {X : Nat} {a : Option Addr} {cap : Nat} {N : Int} {st : List On} {vea : Option Addr} {vec L : Nat} (h : XAt w4 X a cap N st) (hL : st.length = L) (h0 : 0 < L) (hB : Below w4.heap.size w4 W) (hown : W.ownsRow w4.heap.size 67 53 (.slice vea L vec) L (flatO st)) :
    ∃ b, vea = some ⟨b, 0, none⟩ ∧ w4.heap.size ≤ b ∧ XAt (W.setCell ⟨X, 1, none⟩ (.slice vea L vec)) X vea vec N st ∧ (∀ i, i < L → (W.setCell ⟨X, 1, none⟩ (.slice vea L vec)).there b (i * 53) 53) := by
  subst hL
  have hW := h.below hB
  obtain ⟨r1, r2, r3⟩ := row_own hown
  have hXl := h.lt
  have hown2 := hown.2
  rcases hown2 with ⟨q0, q1⟩ | ⟨g, cap', cur, q0, hb, hg, hn, hcm, hcs, ht⟩
  · omega
  · cases q0
    refine ⟨g, rfl, hb, ⟨by simpa using hW.lt, ?_, World.cell?_setCell_same _ _ _ hW.c1, ?_, r2, fun y hy => by have := r3 y hy; omega, there_set hW.th _ _, h.bk⟩, fun i hi => ?_⟩
    · rw [World.cell?_setCell_other _ _ _ _ (by simp)]; exact hW.c0
    · rcases r1 with q | ⟨b, off, e, q1, q2⟩
      · exact .inl q
      · exact .inr ⟨b, off, e, by simpa using q1, range_other q2 _ _ (fun e' => by have := r3 _ e; simp at e' this; omega)⟩
    · refine there_set ?_ _ _
      intro j hj
      have hsz : cur.size = vec * 53 := by first | exact hcs | omega
      have hlt : i * 53 + j < cur.size := by rw [hsz]; have : (i + 1) * 53 ≤ vec * 53 := Nat.mul_le_mul_right 53 (by omega); omega
      refine ⟨?_, ?_⟩
      · simp [World.cell?, hg, hlt]
      · simp [World.frozen?, hg]
theorem xadd_off {w4 W : World} {X b o : Nat} {v : Value} {u : List Value} (hB : Below w4.heap.size w4 W) (hb : w4.heap.size ≤ b) : Off (fun b => b = X) w4 ((W.setCell ⟨X, 1, none⟩ v).drew.setCells b o u) := by
  have h1 := (Off.of_below (F := fun b => b = X) hB).trans (Off.of_setCell (F := fun b => b = X) W ⟨X, 1, none⟩ v rfl) (fun _ _ q => q)
  refine ⟨below_sets (Nat.zero_le _) u o _ h1.1.drew, fun c hc hF => ?_⟩
  rw [set_other _ _ _ _ _ (by omega)]
  exact h1.2 c hc hF
theorem wpList_run0 {P : Program} {ops : Array Oper} {rest : List Oper} {o : Oper} {a : Act} {w w' : World} {Q : Exit → Act → World → Prop} (hgd : o.guard = none) (hr : (execOp a.eval o).run P w = .ok .skip w') (h : wpList P ops Q rest (a.put o.dst undef) w') : wpList P ops Q (o :: rest) a w := by
  refine wpList_plain hgd fun K hK => ?_
  unfold Oper.wp
  rw [hr]
  exact hK _ _ h
set_option maxRecDepth 100000 in
set_option maxHeartbeats 4000000 in
theorem xadd_h (X : Nat) (a0 : Option Addr) (cap0 : Nat) (N : Int) (st : List On) (x : On) (hx : x.ok) (w : World) (h : XAt w X a0 cap0 N st) (hlen : st.length < 100000) (hn : 0 ≤ x.n) (hn2 : x.n < N) (hk1 : x.v.k = 1 ∨ x.v.k = 2) (i : Nat) (hidx : idxL st x.v.k x.n = some i) (hi : i < st.length) (HYV : Hid (¬ st[i].v = x.v ∧ st[i].v.v < x.v.v)) : Calls Try.prog 11 #[.pointer (some ⟨X, 0, none⟩), .int .i64 x.n, .agg x.v.cells.toArray, .agg (v8 x.t).toArray] w fun e w' => e = .returned (.int .i64 0) ∧ ∃ a' cap', XAt w' X a' cap' N (putL st x) ∧ Off (fun b => b = X) w w' := by
  have hnn : (0 ≤ x.n ∧ x.n < N) ∧ (x.v.k = 1 ∨ x.v.k = 2) := ⟨⟨hn, hn2⟩, hk1⟩
  have hiV : (Try.prog.info? 31).map (·.size) = some x.v.cells.length := by rw [hx.v.len]; exact iszV
  have hiT : (Try.prog.info? 33).map (·.size) = some (v8 x.t).length := by rw [v8_length, hx.tl]; exact iszT
  have cI := fun w' (h : XAt w' X a0 cap0 N st) => xat_any X a0 cap0 N st x.v.k x.n w' h (by omega)
  have hq53 : x.cells.toArray.size = 53 := by simpa using hx.len
  have hq1 := all_one x.one
  have hiA2 : (Try.prog.info? 67).map (·.size) = some x.cells.toArray.size := by rw [hq53]; exact iszO
  have hiA : (Try.prog.info? 67).map (·.size) = some x.cells.length := by rw [hx.len]; exact iszO
  have hbo : ∀ w' : World, (Instr.build 67 #[(0, .int .i64 x.n), (1, .agg x.v.cells.toArray), (2, .agg (v8 x.t).toArray)]).run Try.prog w' = .ok (.agg x.cells.toArray) w' := fun w' => build_one x hx w'
  have hb0 := two_box (w := w) x.v.cells (v8 x.t) 31 33
  have heqU := fun (z : Vt) (hz : z.ok) w => eqV z x.v hz hx.v w
  obtain ⟨n, xv, xt⟩ := x
  simp only at *
  obtain ⟨k, ep, vw, sl, d⟩ := xv
  simp only at *
  obtain ⟨u, hu⟩ : ∃ u, Hid ((Vt.mk k ep vw sl d).cells = u) := ⟨_, hide rfl⟩
  obtain ⟨g, hg⟩ : ∃ g, Hid (v8 xt = g) := ⟨_, hide rfl⟩
  obtain ⟨qc, hqc⟩ : ∃ q, Hid ((On.mk n ⟨k, ep, vw, sl, d⟩ xt).cells = q) := ⟨_, hide rfl⟩
  have c0k : (u)[0]? = some (.int .i64 k) := by rw [← hu.out]; rfl
  have c2v : (u)[2]? = some (.int .i64 vw) := by rw [← hu.out]; rfl
  simp only [hu.out, hg.out, hqc.out] at hiV hiT hbo hb0 hq53 hq1 hiA hiA2 heqU ⊢
  go_enter Try.func11, Try.ntmps11
  go_upto_region 1 with fail
  go_name_world w1 hw1
  rw [hw1] at hb0
  clear hw1
  obtain ⟨hB1, hR1, hR2, hsz1⟩ := hb0
  have k0 := hR1 0 _ c0k
  have k2 := hR1 2 _ c2v
  simp only [Nat.zero_add] at k0 k2
  have h1 := h.below hB1
  have b0 := h1.c0
  have hkk : (k != 1) = false ∨ ((k != 1) = true ∧ (k != 2) = false) := by rcases hk1 with rfl | rfl <;> simp
  have hn0 : ¬ n < 0 := by omega
  have hn3 : ¬ n ≥ N := by omega
  clear hk1
  rcases hkk with hkk | ⟨hkk, hkk2⟩
  all_goals
    have cI1 := cI w1 h1
    rw [hidx] at cI1
    simp only [idxV] at cI1
    go_wp2_with fail
    refine cI1.mono ?_
    rintro _ w2 ⟨rfl, hB2⟩
    clear cI1 cI
    have h2 := h1.below hB2
    have hR1 := range_below hR1 hB2 (by omega)
    have hR2 := range_below hR2 hB2 (by omega)
    have hs2 := hB2.size
    clear h1
    go_upto_region 5 with (first
      | (refine wpList_load_mid rfl 31 _ rfl _ _ rfl u _ hR1 Try.underlying31 rfl hiV ?_)
      | (refine wpList_load_mid rfl 33 _ rfl _ _ rfl g _ hR2 Try.underlying33 rfl hiT ?_)
      | (refine wpList_build rfl 67 [(0, .tmp 37), (1, .tmp 38), (2, .tmp 39)] rfl [(0, .int .i64 n), (1, .agg u.toArray), (2, .agg g.toArray)] (.agg qc.toArray) rfl (hbo _) ?_)
      | (refine wpList_store_mid rfl 67 _ _ rfl _ 0 qc.toArray rfl rfl (there_newN _ _ _ hq53.symm) hiA2 hq1 ?_))
    go_name_world w3 hw3
    obtain ⟨hB3, hQ3, hlt3, -⟩ := one_filled hw3 (by simpa using hq53)
    clear hw3
    have h3 := h2.below hB3
    have hR1 := range_below hR1 hB3 (by omega)
    have k2 := hR1 2 _ c2v
    simp only [Nat.zero_add] at k2
    have hb3 : Below w.heap.size w w3 := hB1.trans ((hB2.trans (hB3.mono hs2)).mono (by omega))
    have hs3 := hB3.size
    have b1 := h3.c1
    clear h2
    obtain ⟨rb, roff, rfl, hrbl, hrr⟩ := h3.row.elem (fun y hy => (h.bk.ok y hy).len) i hi
    have hy := h.bk.ok _ (List.getElem_mem hi)
    have hle := h.le
    have hiI : (i : Int) < (st.length : Int) := by omega
    obtain ⟨y, hye⟩ : ∃ y, Hid (st[i] = y) := ⟨_, hide rfl⟩
    have hyv := HYV.out
    rw [hye.out] at hyv hy hrr
    obtain ⟨-, q2, -⟩ := On.parts hy hrr
    have q36 : y.v.cells.toArray.size = 36 := by simpa using hy.v.len
    have q1 := all_one y.v.one
    have iq1 : (Try.prog.info? 31).map (·.size) = some y.v.cells.toArray.size := by rw [q36]; exact iszV
    have iq3 : (Try.prog.info? 31).map (·.size) = some y.v.cells.length := by rw [hy.v.len]; exact iszV
    have y2 : (y.v.cells)[2]? = some (.int .i64 y.v.v) := rfl
    have heq := heqU y.v hy.v
    obtain ⟨yc, hyc⟩ : ∃ yc, Hid (y.v.cells = yc) := ⟨_, hide rfl⟩
    rw [hyc.out] at q36 q1 iq1 iq3 y2 q2
    simp only [hyc.out] at heq
    obtain ⟨yv, hyvv⟩ : ∃ yv, Hid (y.v.v = yv) := ⟨_, hide rfl⟩
    rw [hyvv.out] at y2
    try rw [hyvv.out] at hyv
    obtain ⟨L, hL⟩ : ∃ L, Hid (st.length = L) := ⟨_, hide rfl⟩
    rw [hL.out] at hiI hle b1
    have hiL : i < L := by omega
    go_upto_region 9 with (first
      | (refine wpList_load_mid rfl 31 _ rfl _ _ rfl yc _ q2 Try.underlying31 rfl iq3 ?_)
      | (refine wpList_store_mid rfl 31 _ _ rfl _ 0 yc.toArray rfl rfl (there_newN _ _ _ q36.symm) iq1 q1 ?_))
    go_name_world w4 hw4
    obtain ⟨hB4, hY, hlt4, -⟩ := one_filled hw4 (by simpa using q36)
    clear hw4
    have hY2 := hY 2 _ y2
    simp only [Nat.zero_add] at hY2
    have hR1 := range_below hR1 hB4 (by omega)
    have k2 := hR1 2 _ c2v
    simp only [Nat.zero_add] at k2
    have hbl : Below w.heap.size w w4 := hb3.trans (hB4.mono hb3.size)
    have hde : decide (y.v = ⟨k, ep, vw, sl, d⟩) = false := decide_eq_false hyv.1
    have hyw := hyv.2
    simp only [hde] at heq
    clear hyv hde
    have hne : (yv == vw) = false := by simp; omega
    have hgt : ¬ yv > vw := by omega
    have h4 := h3.below hB4
    have hXl := h.lt
    have hX2 : w.heap.size ≤ w2.heap.size := by have := hB1.size; omega
    have hQ4 := range_below hQ3 hB4 hlt3
    have hlt34 := Nat.lt_of_lt_of_le hlt3 hB4.size
    clear h3 hQ3
    try simp only [Act.put]
    refine wp_region_list ?_
    refine wpList_load_mid rfl 31 _ rfl _ _ rfl yc _ hY Try.underlying31 rfl iq3 ?_
    refine wpList_load_mid rfl 31 _ rfl _ _ rfl u _ hR1 Try.underlying31 rfl hiV ?_
    refine wpList_step fun K hK => ?_
    go_simp
    try rw [heq]
    try go_simp
    refine hK _ _ ?_
    clear hK K
    go_upto_region 15 with fail
    have hB : Below w4.heap.size w4 w4 := Below.refl _ _
    have b1 := h4.c1
    rw [hL.out] at b1
    try simp only [Act.put]
    refine wp_region_list ?_
    refine wpList_step fun K hK => ?_
    go_simp
    refine hK _ _ ?_
    clear hK K
    refine wpList_runX rfl (ex_bs0 rfl) ?_
    rintro vB W' ⟨hbW, hown⟩
    have hB := hB.trans (hbW.mono hB.size)
    clear hbW
    have h5 := h4.below hB
    have b1 := h5.c1
    rw [hL.out] at b1
    refine wpList_step fun K hK => ?_
    go_simp
    refine hK _ _ ?_
    clear hK K
    refine wpList_step fun K hK => ?_
    go_simp
    refine hK _ _ ?_
    clear hK K
    refine wpList_step fun K hK => ?_
    go_simp
    refine hK _ _ ?_
    clear hK K
    refine wpList_step fun K hK => ?_
    go_simp
    refine hK _ _ ?_
    clear hK K
    refine wpList_runX rfl (ex_append (L := st) (cap := cap0) (ra := some ⟨rb, roff, none⟩) rfl rfl (by rw [hL.out]; rfl) hown hB.size h4.bk.ok h5.row (by omega)) ?_
    rintro vD W2 ⟨hownD, hgrD, hapD⟩
    have hB := hB.grown hgrD hB.size (owns_base hown)
    rw [hL.out] at hownD
    obtain ⟨vea, vec, rfl⟩ := owns_slice hownD
    refine wpList_step fun K hK => ?_
    go_simp
    refine hK _ _ ?_
    clear hK K
    refine wpList_step fun K hK => ?_
    go_simp
    refine hK _ _ ?_
    clear hK K
    have hthX := (h4.below hB).th
    have hst := run_store1 (P := Try.prog) _ X 1 59 (.slice vea L vec) (by have := there_part hthX 1 1 (by omega); rwa [Nat.zero_add] at this) iszR rfl
    refine wpList_run0 rfl (exec_store rfl rfl rfl hst) ?_
    obtain ⟨b, rfl, hbn, h7, ht7⟩ := xadd_mid h4 hL.out (by omega) hB hownD
    have HOFF := hide (xadd_off (X := X) (b := b) (o := i * 53) (v := .slice (some ⟨b, 0, none⟩) L vec) (u := qc) hB hbn)
    have hQ8 : ((W2.setCell ⟨X, 1, none⟩ (.slice (some ⟨b, 0, none⟩) L vec)).drew).rangeAt w2.heap.size 0 qc := range_at (range_below hQ4 hB hlt34) ((Off.of_setCell (F := fun b => b = X) W2 ⟨X, 1, none⟩ (.slice (some ⟨b, 0, none⟩) L vec) rfl).2 _ (Nat.lt_of_lt_of_le hlt34 hB.size) (fun e => by have e2 : w2.heap.size = X := e; omega))
    go_upto_region 16 with fail
    obtain ⟨w8, hw8⟩ : ∃ w8, (W2.setCell ⟨X, 1, none⟩ (.slice (some ⟨b, 0, none⟩) L vec)).drew = w8 := ⟨_, rfl⟩
    have h8 : XAt w8 X (some ⟨b, 0, none⟩) vec N st := by rw [← hw8]; exact h7.below (Below.refl _ _).drew
    have ht8 : w8.there b (i * 53) 53 := by rw [← hw8]; exact ht7 i hiL
    rw [hw8] at hQ8 HOFF
    have hS : (fun w' : World => w'.cell? ⟨X, 1, none⟩ = some (.slice (some ⟨b, 0, none⟩) L vec) ∧ w'.rangeAt w2.heap.size 0 qc) w8 := ⟨by have := h8.c1; rwa [hL.out] at this, hQ8⟩
    refine hs_begin (S := (fun w' : World => w'.cell? ⟨X, 1, none⟩ = some (.slice (some ⟨b, 0, none⟩) L vec) ∧ w'.rangeAt w2.heap.size 0 qc)) 8 rfl (by kernel_rfl) ?_
    rw [hw8]
    clear hw8
    refine hs_take (i := 0) (d := some 85) (v := ?_) rfl (by kernel_rfl) (by kernel_rfl) (by kernel_rfl) (by rfl) ?_ hS rfl ?_
    rotate_left
    · intro w' hw
      go_simp
      try with_reducible rfl
    simp only [Act.put, List.setIfInBounds_toArray, List.set_cons_zero, List.set_cons_succ]
    refine hs_take (i := 1) (d := some 86) (v := ?_) rfl (by kernel_rfl) (by kernel_rfl) (by kernel_rfl) (by rfl) ?_ hS rfl ?_
    rotate_left
    · intro w' hw
      go_simp
      try with_reducible rfl
    simp only [Act.put, List.setIfInBounds_toArray, List.set_cons_zero, List.set_cons_succ]
    refine hs_take (i := 2) (d := some 87) (v := ?_) rfl (by kernel_rfl) (by kernel_rfl) (by kernel_rfl) (by rfl) ?_ hS rfl ?_
    rotate_left
    · intro w' hw
      go_simp
      try with_reducible rfl
    simp only [Act.put, List.setIfInBounds_toArray, List.set_cons_zero, List.set_cons_succ]
    refine hs_take (i := 3) (d := some 88) (v := .slice (some ⟨b, 0, none⟩) L vec) rfl (by kernel_rfl) (by kernel_rfl) (by kernel_rfl) (by rfl) (fun w' hw => exec_load rfl rfl (load_oneV w' hw.1 Try.underlying59 rfl)) hS rfl ?_
    simp only [Act.put, List.setIfInBounds_toArray, List.set_cons_zero, List.set_cons_succ]
    refine hs_take (i := 4) (d := some 89) (v := ?_) rfl (by kernel_rfl) (by kernel_rfl) (by kernel_rfl) (by rfl) ?_ hS rfl ?_
    rotate_left
    · intro w' hw
      go_simp
      try with_reducible rfl
    simp only [Act.put, List.setIfInBounds_toArray, List.set_cons_zero, List.set_cons_succ]
    refine hs_take (i := 5) (d := some 90) (v := .agg qc.toArray) rfl (by kernel_rfl) (by kernel_rfl) (by kernel_rfl) (by rfl) (fun w' hw => exec_load rfl rfl (run_loadVar_mid (P := Try.prog) w' w2.heap.size 0 67 qc _ hw.2 Try.underlying67 rfl hiA)) hS rfl ?_
    simp only [Act.put, List.setIfInBounds_toArray, List.set_cons_zero, List.set_cons_succ]
    refine hs_take (i := 6) (d := some 91) (v := ?_) rfl (by kernel_rfl) (by kernel_rfl) (by kernel_rfl) (by rfl) ?_ hS rfl ?_
    rotate_left
    · intro w' hw
      go_simp
      try with_reducible rfl
    simp only [Act.put, List.setIfInBounds_toArray, List.set_cons_zero, List.set_cons_succ]
    have hst := run_storeVar_mid (P := Try.prog) w8 b (i * 53) 67 qc.toArray (by rw [hq53]; exact ht8) hiA2 hq1
    have hne8 := h8.ne _ rfl
    have hS9 : (fun w' : World => w'.cell? ⟨X, 1, none⟩ = some (.slice (some ⟨b, 0, none⟩) L vec) ∧ w'.rangeAt w2.heap.size 0 qc) (w8.setCells b (i * 53) qc) := ⟨by rw [cell_sets _ _ _ _ _ _ (fun e => hne8 e.symm)]; exact hS.1, range_at hQ8 (set_other _ _ _ _ _ (by omega))⟩
    refine hs_store (i := 7) rfl (by kernel_rfl) (by rfl) (exec_store rfl rfl rfl hst) rfl hS9 ?_
    refine hs_done (by kernel_rfl) ?_
    have HFIN := hide (xadd_last h8 hi hqc.out hx hnn hidx)
    go_wp2_with fail
    go_ret
    first | exact ⟨rfl, ⟨some ⟨b, 0, none⟩, vec, HFIN.out⟩, (Off.of_below hbl).trans HOFF.out (fun _ _ q => q)⟩ | exact ⟨rfl, some ⟨b, 0, none⟩, vec, HFIN.out, (Off.of_below hbl).trans HOFF.out (fun _ _ q => q)⟩
end Go.Proofs.Ytogmkcabndgllaa
