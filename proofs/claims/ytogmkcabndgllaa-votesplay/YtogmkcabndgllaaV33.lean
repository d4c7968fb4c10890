/- the document's Add: what is put in -/
import Derived.Test.YtogmkcabndgllaaV32
namespace Go.Proofs.Ytogmkcabndgllaa
open Go.RowKit
theorem owns_slice {w : World} {B : Nat} {e : TypeId} {v : Value} {n : Nat} {xs : List Value} {sz : Nat} (h : w.ownsRow B e sz v n xs) : ∃ a c, v = .slice a n c := by
  rcases h.2 with ⟨rfl, h0⟩ | ⟨g, cap, cur, rfl, _⟩
  · exact ⟨none, 0, by rw [h0]⟩
  · exact ⟨_, _, rfl⟩
theorem owns_base {w : World} {B : Nat} {e : TypeId} {v : Value} {n sz : Nat} {xs : List Value} (h : w.ownsRow B e sz v n xs) (g : Nat) (hg : v.ownBlock = some g) : B ≤ g := (h.lt g hg).1
theorem owns_weak {w : World} {B B' : Nat} {e : TypeId} {v : Value} {n sz : Nat} {xs : List Value} (h : w.ownsRow B e sz v n xs) (hb : B' ≤ B) : w.ownsRow B' e sz v n xs := by
  refine ⟨h.1, ?_⟩
  rcases h.2 with h | ⟨g, cap, cur, hv, hg, r⟩
  · exact .inl h
  · exact .inr ⟨g, cap, cur, hv, Nat.le_trans hb hg, r⟩
theorem ownsB {w w' : World} {B : Nat} {e : TypeId} {v : Value} {n sz : Nat} {xs : List Value} (h : w.ownsRow B e sz v n xs) (hb : Below w.heap.size w w') : w'.ownsRow B e sz v n xs := owns_at h (fun g hg => hb.block g (owns_lt h hg))
theorem iszR : (Try.prog.info? 59).map (·.size) = some 1 := by kernel_rfl
theorem run_store1 {P : Program} (w : World) (b o : Nat) (ty : TypeId) (v : Value) (ht : w.there b o 1) (hi : (P.info? ty).map (·.size) = some 1) (h1 : v.oneCell' = true) :
    (storeVar ty ⟨b, o, none⟩ v).run P w = .ok () (w.setCell ⟨b, o, none⟩ v) := by
  have hc : v.cells = #[v] := by cases v <;> first | rfl | simp [Value.oneCell'] at h1
  have := run_storeCells_cells (P := P) b o [v] 0 w (fun j hj => by simpa using (ht j (by simpa using hj)).1) (fun j hj => by simpa using (ht j (by simpa using hj)).2)
    (fun x hx => by simp at hx; subst hx; exact h1)
  cases hq : P.info? ty with
  | none => simp [hq] at hi
  | some i =>
    have hs : i.size = 1 := by simp [hq] at hi; omega
    simp only [Nat.add_zero] at this
    simp [storeVar, sizeOf, typeInfo, hq, hc, hs, this, World.setCells]
theorem put_new {st : List On} {x : On} (h : find st x.v.k x.n = none) : putL st x = st ++ [x] := by unfold putL; rw [h]; rfl
theorem row_own {W : World} {B : Nat} {v : Option Addr} {c : Nat} {rs : List On} (h : W.ownsRow B 67 53 (.slice v rs.length c) rs.length (flatO rs)) : RowOf On.cells W v rs ∧ rs.length ≤ c ∧ ∀ x, v = some x → B ≤ x.block := by
  rcases h.2 with ⟨h0, h1⟩ | ⟨g, cap, cur, h0, hb, hg, hn, hcm, hcs, ht⟩
  · have : rs = [] := List.eq_nil_of_length_eq_zero h1
    subst this
    cases h0
    exact ⟨.inl rfl, Nat.zero_le _, fun x hx => by cases hx⟩
  · cases h0
    refine ⟨.inr ⟨g, 0, rfl, (Array.getElem?_eq_some_iff.1 hg).1, fun j u hu => ?_⟩, hn, fun x hx => by cases hx; exact hb⟩
    have := h.cells (g := g) rfl j u hu
    rwa [Addr.add_mid] at this
theorem xadd_fin {w9 W : World} {X : Nat} {a : Option Addr} {cap : Nat} {N : Int} {st : List On} {x : On} {u : List Value} {vea : Option Addr} {vec : Nat} (h : XAt w9 X a cap N st) (hB : Below w9.heap.size w9 W) (hown : W.ownsRow w9.heap.size 67 53 (.slice vea (st.length + 1) vec) (st.length + 1) (flatO st ++ u)) (hu : x.cells = u) (hx : x.ok) (hn : (0 ≤ x.n ∧ x.n < N) ∧ (x.v.k = 1 ∨ x.v.k = 2)) (hf : find st x.v.k x.n = none) :
    XAt (W.setCell ⟨X, 1, none⟩ (.slice vea (st.length + 1) vec)) X vea vec N (putL st x) := by
  have hW := h.below hB
  have hp := put_new hf
  have hfl : flatO (st ++ [x]) = flatO st ++ u := by unfold flatO; rw [List.flatMap_append, List.flatMap_singleton, hu]
  have hl : (st ++ [x]).length = st.length + 1 := by simp
  rw [← hfl, ← hl] at hown
  obtain ⟨r1, r2, r3⟩ := row_own hown
  rw [hp]
  have hXl := h.lt
  refine ⟨by simpa using hW.lt, ?_, ?_, ?_, r2, fun y hy => by have := r3 y hy; omega, there_set hW.th _ _, by have := h.bk.put hx hn.1 hn.2; rwa [hp] at this⟩
  · rw [World.cell?_setCell_other _ _ _ _ (by simp)]; exact hW.c0
  · rw [hl]; exact World.cell?_setCell_same _ _ _ hW.c1
  · rcases r1 with q | ⟨b, off, rfl, q1, q2⟩
    · exact .inl q
    · exact .inr ⟨b, off, rfl, by simpa using q1, range_other q2 _ _ (fun e => by have := r3 _ rfl; simp at e this; omega)⟩
set_option maxRecDepth 100000 in
set_option maxHeartbeats 4000000 in
theorem xadd_d (X : Nat) (a0 : Option Addr) (cap0 : Nat) (N : Int) (st : List On) (x : On) (hx : x.ok) (w : World) (h : XAt w X a0 cap0 N st) (hlen : st.length < 100000) (hn : 0 ≤ x.n) (hn2 : x.n < N) (hk1 : x.v.k = 1 ∨ x.v.k = 2) (hfind : find st x.v.k x.n = none) (hidx : idxL st x.v.k x.n = none) : Calls Try.prog 11 #[.pointer (some ⟨X, 0, none⟩), .int .i64 x.n, .agg x.v.cells.toArray, .agg (v8 x.t).toArray] w fun e w' => e = .returned (.int .i64 0) ∧ ∃ a' cap', XAt w' X a' cap' N (putL st x) ∧ Off (fun b => b = X) w w' := by
  have hnn : (0 ≤ x.n ∧ x.n < N) ∧ (x.v.k = 1 ∨ x.v.k = 2) := ⟨⟨hn, hn2⟩, hk1⟩
  have hu1 := x.one
  have hiV : (Try.prog.info? 31).map (·.size) = some x.v.cells.length := by rw [hx.v.len]; exact iszV
  have hiT : (Try.prog.info? 33).map (·.size) = some (v8 x.t).length := by rw [v8_length, hx.tl]; exact iszT
  have cI := fun w' (h : XAt w' X a0 cap0 N st) => xat_any X a0 cap0 N st x.v.k x.n w' h (by omega)
  have hq53 : x.cells.toArray.size = 53 := by simpa using hx.len
  have hq1 := all_one x.one
  have hiA2 : (Try.prog.info? 67).map (·.size) = some x.cells.toArray.size := by rw [hq53]; exact iszO
  have hiA : (Try.prog.info? 67).map (·.size) = some x.cells.length := by rw [hx.len]; exact iszO
  have hbo : ∀ w' : World, (Instr.build 67 #[(0, .int .i64 x.n), (1, .agg x.v.cells.toArray), (2, .agg (v8 x.t).toArray)]).run Try.prog w' = .ok (.agg x.cells.toArray) w' := fun w' => build_one x hx w'
  have hb0 := two_box (w := w) x.v.cells (v8 x.t) 31 33
  have heqU := fun (z : Vt) (hz : z.ok) w => eqV z x.v hz hx.v w
  obtain ⟨n, xv, xt⟩ := x
  simp only at *
  obtain ⟨k, ep, vw, sl, d⟩ := xv
  simp only at *
  obtain ⟨u, hu⟩ : ∃ u, Hid ((Vt.mk k ep vw sl d).cells = u) := ⟨_, hide rfl⟩
  obtain ⟨g, hg⟩ : ∃ g, Hid (v8 xt = g) := ⟨_, hide rfl⟩
  obtain ⟨qc, hqc⟩ : ∃ q, Hid ((On.mk n ⟨k, ep, vw, sl, d⟩ xt).cells = q) := ⟨_, hide rfl⟩
  have c0k : (u)[0]? = some (.int .i64 k) := by rw [← hu.out]; rfl
  have c2v : (u)[2]? = some (.int .i64 vw) := by rw [← hu.out]; rfl
  simp only [hqc.out] at hu1
  simp only [hu.out, hg.out, hqc.out] at hiV hiT hbo hb0 hq53 hq1 hiA hiA2 heqU ⊢
  go_enter Try.func11, Try.ntmps11
  go_upto_region 1 with fail
  go_name_world w1 hw1
  rw [hw1] at hb0
  clear hw1
  obtain ⟨hB1, hR1, hR2, hsz1⟩ := hb0
  have k0 := hR1 0 _ c0k
  have k2 := hR1 2 _ c2v
  simp only [Nat.zero_add] at k0 k2
  have h1 := h.below hB1
  have b0 := h1.c0
  have hkk : (k != 1) = false ∨ ((k != 1) = true ∧ (k != 2) = false) := by rcases hk1 with rfl | rfl <;> simp
  have hn0 : ¬ n < 0 := by omega
  have hn3 : ¬ n ≥ N := by omega
  clear hk1
  rcases hkk with hkk | ⟨hkk, hkk2⟩
  all_goals
    have cI1 := cI w1 h1
    rw [hidx] at cI1
    simp only [idxV] at cI1
    go_wp2_with fail
    refine cI1.mono ?_
    rintro _ w2 ⟨rfl, hB2⟩
    clear cI1 cI
    have h2 := h1.below hB2
    have hR1 := range_below hR1 hB2 (by omega)
    have hR2 := range_below hR2 hB2 (by omega)
    have hs2 := hB2.size
    clear h1
    go_upto_region 5 with (first
      | (refine wpList_load_mid rfl 31 _ rfl _ _ rfl u _ hR1 Try.underlying31 rfl hiV ?_)
      | (refine wpList_load_mid rfl 33 _ rfl _ _ rfl g _ hR2 Try.underlying33 rfl hiT ?_)
      | (refine wpList_build rfl 67 [(0, .tmp 37), (1, .tmp 38), (2, .tmp 39)] rfl [(0, .int .i64 n), (1, .agg u.toArray), (2, .agg g.toArray)] (.agg qc.toArray) rfl (hbo _) ?_)
      | (refine wpList_store_mid rfl 67 _ _ rfl _ 0 qc.toArray rfl rfl (there_newN _ _ _ hq53.symm) hiA2 hq1 ?_))
    go_name_world w3 hw3
    obtain ⟨hB3, hQ3, hlt3, -⟩ := one_filled hw3 (by simpa using hq53)
    clear hw3
    have h3 := h2.below hB3
    have hR1 := range_below hR1 hB3 (by omega)
    have k2 := hR1 2 _ c2v
    simp only [Nat.zero_add] at k2
    have hb3 : Below w.heap.size w w3 := hB1.trans ((hB2.trans (hB3.mono hs2)).mono (by omega))
    have hs3 := hB3.size
    have b1 := h3.c1
    clear h2
    go_wp2_with fail
    obtain ⟨w9, hw9⟩ : ∃ w9, w3.drew = w9 := ⟨_, rfl⟩
    have hRf9 : XAt w9 X a0 cap0 N st := by rw [← hw9]; exact h3.below (Below.refl _ _).drew
    have hB9 : Below w.heap.size w w9 := by rw [← hw9]; exact hb3.drew
    have hq9 : w9.rangeAt w2.heap.size 0 qc := by rw [← hw9]; exact (World.rangeAt_drew _ _ _ _).2 hQ3
    have hl9 : w2.heap.size < w9.heap.size := by rw [← hw9]; exact hlt3
    have hXl := h.lt
    have kx : ∀ w', Off (fun b => b = X) w9 w' → w'.rangeAt w2.heap.size 0 qc := fun w' hw => range_at hq9 (hw.2 _ hl9 (by omega))
    have hul : qc.length = 53 := by simpa using hq53
    have hS : (Off (fun b => b = X) w9) w9 := Off.refl _ _
    have hB : Below w9.heap.size w9 w9 := Below.refl _ _
    clear h3 hb3 hQ3 hR1 hR2 k0 k2 b0 b1
    refine hs_begin (S := (Off (fun b => b = X) w9)) 13 rfl (by kernel_rfl) ?_
    rw [hw9]
    clear hw9
    refine hs_take (i := 0) (d := some 43) (v := ?_) rfl (by kernel_rfl) (by kernel_rfl) (by kernel_rfl) (by rfl) ?_ hS rfl ?_
    rotate_left
    · intro w' hw
      go_simp
      try with_reducible rfl
    simp only [Act.put, List.setIfInBounds_toArray, List.set_cons_zero, List.set_cons_succ]
    refine hs_take (i := 2) (d := some 45) (v := ?_) rfl (by kernel_rfl) (by kernel_rfl) (by kernel_rfl) (by rfl) ?_ hS rfl ?_
    rotate_left
    · intro w' hw
      go_simp
      try with_reducible rfl
    simp only [Act.put, List.setIfInBounds_toArray, List.set_cons_zero, List.set_cons_succ]
    refine hs_take (i := 3) (d := some 46) (v := ?_) rfl (by kernel_rfl) (by kernel_rfl) (by kernel_rfl) (by rfl) ?_ hS rfl ?_
    rotate_left
    · intro w' hw
      go_simp
      try with_reducible rfl
    simp only [Act.put, List.setIfInBounds_toArray, List.set_cons_zero, List.set_cons_succ]
    refine hs_take (i := 4) (d := some 47) (v := ?_) rfl (by kernel_rfl) (by kernel_rfl) (by kernel_rfl) (by rfl) ?_ hS rfl ?_
    rotate_left
    · intro w' hw
      go_simp
      try with_reducible rfl
    simp only [Act.put, List.setIfInBounds_toArray, List.set_cons_zero, List.set_cons_succ]
    refine hs_take (i := 7) (d := some 50) (v := .agg qc.toArray) rfl (by kernel_rfl) (by kernel_rfl) (by kernel_rfl) (by rfl) (fun w' hw => exec_load rfl rfl (run_loadVar_mid (P := Try.prog) w' w2.heap.size 0 67 qc _ (kx w' hw) Try.underlying67 rfl hiA)) hS rfl ?_
    simp only [Act.put, List.setIfInBounds_toArray, List.set_cons_zero, List.set_cons_succ]
    refine hs_forkL (l := [1, 5, 8]) (by kernel_rfl) (by simp) ?_
    intro ii hii
    simp only [List.mem_cons, List.not_mem_nil, or_false] at hii
    rcases hii with rfl | rfl | rfl
    · refine st_runX (i := 1) (d := some 44) rfl (by rfl) rfl (ex_bs0 rfl) ?_
      rintro vB W' ⟨hbW, hown0⟩
      have hown := owns_weak hown0 hB.size
      have hB := hB.trans (hbW.mono hB.size)
      clear hbW hown0
      refine ⟨Off.of_below hB, ?_⟩
      simp only [Act.put, List.setIfInBounds_toArray, List.set_cons_zero, List.set_cons_succ]
      refine hs_forkL (l := [5, 8]) (by kernel_rfl) (by simp) ?_
      intro ii hii
      simp only [List.mem_cons, List.not_mem_nil, or_false] at hii
      rcases hii with rfl | rfl
      · refine st_runX (i := 5) (d := some 48) rfl (by rfl) rfl (ex_load rfl rfl (hRf9.below hB).c1) ?_
        rintro vA W' ⟨rfl, hx⟩
        obtain rfl := hx.symm
        clear hx
        refine ⟨Off.of_below hB, ?_⟩
        simp only [Act.put, List.setIfInBounds_toArray, List.set_cons_zero, List.set_cons_succ]
        refine hs_forkL (l := [6, 8]) (by kernel_rfl) (by simp) ?_
        intro ii hii
        simp only [List.mem_cons, List.not_mem_nil, or_false] at hii
        rcases hii with rfl | rfl
        · refine st_runX (i := 6) (d := some 49) rfl (by rfl) rfl (ex_append rfl rfl rfl hown hB.size hRf9.bk.ok (hRf9.below hB).row (by omega)) ?_
          rintro vD W' ⟨hownD, hgrD, hapD⟩
          have hB := hB.grown hgrD hB.size (owns_base hown)
          clear hown hgrD hapD
          have hown := hownD
          obtain ⟨vB, hvB⟩ : ∃ x, x = vD := ⟨_, rfl⟩
          rw [← hvB] at hown ⊢
          clear hvB hownD
          refine ⟨Off.of_below hB, ?_⟩
          simp only [Act.put, List.setIfInBounds_toArray, List.set_cons_zero, List.set_cons_succ]
          refine hs_runX (i := 8) (d := some 51) rfl (by kernel_rfl) (by rfl) rfl (ex_bs1 rfl rfl hul) ?_
          rintro vC W' ⟨cb, rfl, hrC, hlC, hgC, hbW⟩
          have hgC2 := Nat.le_trans hB.size hgC
          have hnB : ∀ g, vB.ownBlock = some g → g ≠ cb := fun g hg => by have := owns_lt hown hg; omega
          have hown := ownsB hown hbW
          have hB := hB.trans (hbW.mono hB.size)
          clear hbW hgC
          refine ⟨Off.of_below hB, ?_⟩
          simp only [Act.put, List.setIfInBounds_toArray, List.set_cons_zero, List.set_cons_succ]
          refine hs_runX (i := 9) (d := some 52) rfl (by kernel_rfl) (by rfl) rfl (ex_append1 rfl rfl rfl hown hB.size hrC hul hu1 (by omega)) ?_
          rintro vE W' ⟨hownE, hgrE, hapE⟩
          have hB := hB.grown hgrE hB.size (owns_base hown)
          refine ⟨Off.of_below hB, ?_⟩
          have hS : (Off (fun b => b = X) w9) _ := Off.of_below hB
          simp only [Act.put, List.setIfInBounds_toArray, List.set_cons_zero, List.set_cons_succ]
          refine hs_take (i := 10) (d := some 53) (v := ?_) rfl (by kernel_rfl) (by kernel_rfl) (by kernel_rfl) (by rfl) ?_ hS rfl ?_
          rotate_left
          · intro w' hw
            go_simp
            try with_reducible rfl
          simp only [Act.put, List.setIfInBounds_toArray, List.set_cons_zero, List.set_cons_succ]
          refine hs_take (i := 11) (d := some 54) (v := ?_) rfl (by kernel_rfl) (by kernel_rfl) (by kernel_rfl) (by rfl) ?_ hS rfl ?_
          rotate_left
          · intro w' hw
            go_simp
            try with_reducible rfl
          simp only [Act.put, List.setIfInBounds_toArray, List.set_cons_zero, List.set_cons_succ]
          obtain ⟨vea, vec, rfl⟩ := owns_slice hownE
          have hthX := (hRf9.below hB).th
          have hst := run_store1 (P := Try.prog) _ X 1 59 (.slice vea (st.length + 1) vec) (by have := there_part hthX 1 1 (by omega); rwa [Nat.zero_add] at this) iszR rfl
          have hSF := (Off.of_below (F := fun b => b = X) hB).trans (Off.of_setCell (F := fun b => b = X) _ ⟨X, 1, none⟩ (.slice vea (st.length + 1) vec) rfl) (fun _ _ q => q)
          refine hs_store (i := 12) rfl (by kernel_rfl) (by rfl) (exec_store rfl rfl rfl hst) rfl hSF ?_
          refine hs_done (by kernel_rfl) ?_
          have HFIN := hide (xadd_fin hRf9 hB hownE hqc.out hx hnn hfind)
          go_wp2_with fail
          go_ret
          exact ⟨rfl, vea, vec, HFIN.out, (Off.of_below hB9).trans hSF (fun _ _ q => q)⟩
        · refine st_runX (i := 8) (d := some 51) rfl (by rfl) rfl (ex_bs1 rfl rfl hul) ?_
          rintro vC W' ⟨cb, rfl, hrC, hlC, hgC, hbW⟩
          have hgC2 := Nat.le_trans hB.size hgC
          have hnB : ∀ g, vB.ownBlock = some g → g ≠ cb := fun g hg => by have := owns_lt hown hg; omega
          have hown := ownsB hown hbW
          have hB := hB.trans (hbW.mono hB.size)
          clear hbW hgC
          refine ⟨Off.of_below hB, ?_⟩
          simp only [Act.put, List.setIfInBounds_toArray, List.set_cons_zero, List.set_cons_succ]
          refine hs_runX (i := 6) (d := some 49) rfl (by kernel_rfl) (by rfl) rfl (ex_append rfl rfl rfl hown hB.size hRf9.bk.ok (hRf9.below hB).row (by omega)) ?_
          rintro vD W' ⟨hownD, hgrD, hapD⟩
          have hrC := range_at hrC (hgrD.block _ hlC (fun e => hnB _ e.symm rfl))
          have hnD : ∀ g, vD.ownBlock = some g → g ≠ cb := fun g hg => by
            rcases hapD g hg with q | q
            · exact hnB g q
            · omega
          have hlC := Nat.lt_of_lt_of_le hlC hgrD.size
          have hB := hB.grown hgrD hB.size (owns_base hown)
          clear hown hgrD hapD
          have hown := hownD
          have hnB := hnD
          obtain ⟨vB, hvB⟩ : ∃ x, x = vD := ⟨_, rfl⟩
          rw [← hvB] at hown ⊢
          rw [← hvB] at hnB
          clear hvB hownD
          refine ⟨Off.of_below hB, ?_⟩
          simp only [Act.put, List.setIfInBounds_toArray, List.set_cons_zero, List.set_cons_succ]
          refine hs_runX (i := 9) (d := some 52) rfl (by kernel_rfl) (by rfl) rfl (ex_append1 rfl rfl rfl hown hB.size hrC hul hu1 (by omega)) ?_
          rintro vE W' ⟨hownE, hgrE, hapE⟩
          have hB := hB.grown hgrE hB.size (owns_base hown)
          refine ⟨Off.of_below hB, ?_⟩
          have hS : (Off (fun b => b = X) w9) _ := Off.of_below hB
          simp only [Act.put, List.setIfInBounds_toArray, List.set_cons_zero, List.set_cons_succ]
          refine hs_take (i := 10) (d := some 53) (v := ?_) rfl (by kernel_rfl) (by kernel_rfl) (by kernel_rfl) (by rfl) ?_ hS rfl ?_
          rotate_left
          · intro w' hw
            go_simp
            try with_reducible rfl
          simp only [Act.put, List.setIfInBounds_toArray, List.set_cons_zero, List.set_cons_succ]
          refine hs_take (i := 11) (d := some 54) (v := ?_) rfl (by kernel_rfl) (by kernel_rfl) (by kernel_rfl) (by rfl) ?_ hS rfl ?_
          rotate_left
          · intro w' hw
            go_simp
            try with_reducible rfl
          simp only [Act.put, List.setIfInBounds_toArray, List.set_cons_zero, List.set_cons_succ]
          obtain ⟨vea, vec, rfl⟩ := owns_slice hownE
          have hthX := (hRf9.below hB).th
          have hst := run_store1 (P := Try.prog) _ X 1 59 (.slice vea (st.length + 1) vec) (by have := there_part hthX 1 1 (by omega); rwa [Nat.zero_add] at this) iszR rfl
          have hSF := (Off.of_below (F := fun b => b = X) hB).trans (Off.of_setCell (F := fun b => b = X) _ ⟨X, 1, none⟩ (.slice vea (st.length + 1) vec) rfl) (fun _ _ q => q)
          refine hs_store (i := 12) rfl (by kernel_rfl) (by rfl) (exec_store rfl rfl rfl hst) rfl hSF ?_
          refine hs_done (by kernel_rfl) ?_
          have HFIN := hide (xadd_fin hRf9 hB hownE hqc.out hx hnn hfind)
          go_wp2_with fail
          go_ret
          exact ⟨rfl, vea, vec, HFIN.out, (Off.of_below hB9).trans hSF (fun _ _ q => q)⟩
      · refine st_runX (i := 8) (d := some 51) rfl (by rfl) rfl (ex_bs1 rfl rfl hul) ?_
        rintro vC W' ⟨cb, rfl, hrC, hlC, hgC, hbW⟩
        have hgC2 := Nat.le_trans hB.size hgC
        have hnB : ∀ g, vB.ownBlock = some g → g ≠ cb := fun g hg => by have := owns_lt hown hg; omega
        have hown := ownsB hown hbW
        have hB := hB.trans (hbW.mono hB.size)
        clear hbW hgC
        refine ⟨Off.of_below hB, ?_⟩
        simp only [Act.put, List.setIfInBounds_toArray, List.set_cons_zero, List.set_cons_succ]
        refine hs_runX (i := 5) (d := some 48) rfl (by kernel_rfl) (by rfl) rfl (ex_load rfl rfl (hRf9.below hB).c1) ?_
        rintro vA W' ⟨rfl, hx⟩
        obtain rfl := hx.symm
        clear hx
        refine ⟨Off.of_below hB, ?_⟩
        simp only [Act.put, List.setIfInBounds_toArray, List.set_cons_zero, List.set_cons_succ]
        refine hs_runX (i := 6) (d := some 49) rfl (by kernel_rfl) (by rfl) rfl (ex_append rfl rfl rfl hown hB.size hRf9.bk.ok (hRf9.below hB).row (by omega)) ?_
        rintro vD W' ⟨hownD, hgrD, hapD⟩
        have hrC := range_at hrC (hgrD.block _ hlC (fun e => hnB _ e.symm rfl))
        have hnD : ∀ g, vD.ownBlock = some g → g ≠ cb := fun g hg => by
          rcases hapD g hg with q | q
          · exact hnB g q
          · omega
        have hlC := Nat.lt_of_lt_of_le hlC hgrD.size
        have hB := hB.grown hgrD hB.size (owns_base hown)
        clear hown hgrD hapD
        have hown := hownD
        have hnB := hnD
        obtain ⟨vB, hvB⟩ : ∃ x, x = vD := ⟨_, rfl⟩
        rw [← hvB] at hown ⊢
        rw [← hvB] at hnB
        clear hvB hownD
        refine ⟨Off.of_below hB, ?_⟩
        simp only [Act.put, List.setIfInBounds_toArray, List.set_cons_zero, List.set_cons_succ]
        refine hs_runX (i := 9) (d := some 52) rfl (by kernel_rfl) (by rfl) rfl (ex_append1 rfl rfl rfl hown hB.size hrC hul hu1 (by omega)) ?_
        rintro vE W' ⟨hownE, hgrE, hapE⟩
        have hB := hB.grown hgrE hB.size (owns_base hown)
        refine ⟨Off.of_below hB, ?_⟩
        have hS : (Off (fun b => b = X) w9) _ := Off.of_below hB
        simp only [Act.put, List.setIfInBounds_toArray, List.set_cons_zero, List.set_cons_succ]
        refine hs_take (i := 10) (d := some 53) (v := ?_) rfl (by kernel_rfl) (by kernel_rfl) (by kernel_rfl) (by rfl) ?_ hS rfl ?_
        rotate_left
        · intro w' hw
          go_simp
          try with_reducible rfl
        simp only [Act.put, List.setIfInBounds_toArray, List.set_cons_zero, List.set_cons_succ]
        refine hs_take (i := 11) (d := some 54) (v := ?_) rfl (by kernel_rfl) (by kernel_rfl) (by kernel_rfl) (by rfl) ?_ hS rfl ?_
        rotate_left
        · intro w' hw
          go_simp
          try with_reducible rfl
        simp only [Act.put, List.setIfInBounds_toArray, List.set_cons_zero, List.set_cons_succ]
        obtain ⟨vea, vec, rfl⟩ := owns_slice hownE
        have hthX := (hRf9.below hB).th
        have hst := run_store1 (P := Try.prog) _ X 1 59 (.slice vea (st.length + 1) vec) (by have := there_part hthX 1 1 (by omega); rwa [Nat.zero_add] at this) iszR rfl
        have hSF := (Off.of_below (F := fun b => b = X) hB).trans (Off.of_setCell (F := fun b => b = X) _ ⟨X, 1, none⟩ (.slice vea (st.length + 1) vec) rfl) (fun _ _ q => q)
        refine hs_store (i := 12) rfl (by kernel_rfl) (by rfl) (exec_store rfl rfl rfl hst) rfl hSF ?_
        refine hs_done (by kernel_rfl) ?_
        have HFIN := hide (xadd_fin hRf9 hB hownE hqc.out hx hnn hfind)
        go_wp2_with fail
        go_ret
        exact ⟨rfl, vea, vec, HFIN.out, (Off.of_below hB9).trans hSF (fun _ _ q => q)⟩
    · refine st_runX (i := 5) (d := some 48) rfl (by rfl) rfl (ex_load rfl rfl (hRf9.below hB).c1) ?_
      rintro vA W' ⟨rfl, hx⟩
      obtain rfl := hx.symm
      clear hx
      refine ⟨Off.of_below hB, ?_⟩
      simp only [Act.put, List.setIfInBounds_toArray, List.set_cons_zero, List.set_cons_succ]
      refine hs_forkL (l := [1, 8]) (by kernel_rfl) (by simp) ?_
      intro ii hii
      simp only [List.mem_cons, List.not_mem_nil, or_false] at hii
      rcases hii with rfl | rfl
      · refine st_runX (i := 1) (d := some 44) rfl (by rfl) rfl (ex_bs0 rfl) ?_
        rintro vB W' ⟨hbW, hown0⟩
        have hown := owns_weak hown0 hB.size
        have hB := hB.trans (hbW.mono hB.size)
        clear hbW hown0
        refine ⟨Off.of_below hB, ?_⟩
        simp only [Act.put, List.setIfInBounds_toArray, List.set_cons_zero, List.set_cons_succ]
        refine hs_forkL (l := [6, 8]) (by kernel_rfl) (by simp) ?_
        intro ii hii
        simp only [List.mem_cons, List.not_mem_nil, or_false] at hii
        rcases hii with rfl | rfl
        · refine st_runX (i := 6) (d := some 49) rfl (by rfl) rfl (ex_append rfl rfl rfl hown hB.size hRf9.bk.ok (hRf9.below hB).row (by omega)) ?_
          rintro vD W' ⟨hownD, hgrD, hapD⟩
          have hB := hB.grown hgrD hB.size (owns_base hown)
          clear hown hgrD hapD
          have hown := hownD
          obtain ⟨vB, hvB⟩ : ∃ x, x = vD := ⟨_, rfl⟩
          rw [← hvB] at hown ⊢
          clear hvB hownD
          refine ⟨Off.of_below hB, ?_⟩
          simp only [Act.put, List.setIfInBounds_toArray, List.set_cons_zero, List.set_cons_succ]
          refine hs_runX (i := 8) (d := some 51) rfl (by kernel_rfl) (by rfl) rfl (ex_bs1 rfl rfl hul) ?_
          rintro vC W' ⟨cb, rfl, hrC, hlC, hgC, hbW⟩
          have hgC2 := Nat.le_trans hB.size hgC
          have hnB : ∀ g, vB.ownBlock = some g → g ≠ cb := fun g hg => by have := owns_lt hown hg; omega
          have hown := ownsB hown hbW
          have hB := hB.trans (hbW.mono hB.size)
          clear hbW hgC
          refine ⟨Off.of_below hB, ?_⟩
          simp only [Act.put, List.setIfInBounds_toArray, List.set_cons_zero, List.set_cons_succ]
          refine hs_runX (i := 9) (d := some 52) rfl (by kernel_rfl) (by rfl) rfl (ex_append1 rfl rfl rfl hown hB.size hrC hul hu1 (by omega)) ?_
          rintro vE W' ⟨hownE, hgrE, hapE⟩
          have hB := hB.grown hgrE hB.size (owns_base hown)
          refine ⟨Off.of_below hB, ?_⟩
          have hS : (Off (fun b => b = X) w9) _ := Off.of_below hB
          simp only [Act.put, List.setIfInBounds_toArray, List.set_cons_zero, List.set_cons_succ]
          refine hs_take (i := 10) (d := some 53) (v := ?_) rfl (by kernel_rfl) (by kernel_rfl) (by kernel_rfl) (by rfl) ?_ hS rfl ?_
          rotate_left
          · intro w' hw
            go_simp
            try with_reducible rfl
          simp only [Act.put, List.setIfInBounds_toArray, List.set_cons_zero, List.set_cons_succ]
          refine hs_take (i := 11) (d := some 54) (v := ?_) rfl (by kernel_rfl) (by kernel_rfl) (by kernel_rfl) (by rfl) ?_ hS rfl ?_
          rotate_left
          · intro w' hw
            go_simp
            try with_reducible rfl
          simp only [Act.put, List.setIfInBounds_toArray, List.set_cons_zero, List.set_cons_succ]
          obtain ⟨vea, vec, rfl⟩ := owns_slice hownE
          have hthX := (hRf9.below hB).th
          have hst := run_store1 (P := Try.prog) _ X 1 59 (.slice vea (st.length + 1) vec) (by have := there_part hthX 1 1 (by omega); rwa [Nat.zero_add] at this) iszR rfl
          have hSF := (Off.of_below (F := fun b => b = X) hB).trans (Off.of_setCell (F := fun b => b = X) _ ⟨X, 1, none⟩ (.slice vea (st.length + 1) vec) rfl) (fun _ _ q => q)
          refine hs_store (i := 12) rfl (by kernel_rfl) (by rfl) (exec_store rfl rfl rfl hst) rfl hSF ?_
          refine hs_done (by kernel_rfl) ?_
          have HFIN := hide (xadd_fin hRf9 hB hownE hqc.out hx hnn hfind)
          go_wp2_with fail
          go_ret
          exact ⟨rfl, vea, vec, HFIN.out, (Off.of_below hB9).trans hSF (fun _ _ q => q)⟩
        · refine st_runX (i := 8) (d := some 51) rfl (by rfl) rfl (ex_bs1 rfl rfl hul) ?_
          rintro vC W' ⟨cb, rfl, hrC, hlC, hgC, hbW⟩
          have hgC2 := Nat.le_trans hB.size hgC
          have hnB : ∀ g, vB.ownBlock = some g → g ≠ cb := fun g hg => by have := owns_lt hown hg; omega
          have hown := ownsB hown hbW
          have hB := hB.trans (hbW.mono hB.size)
          clear hbW hgC
          refine ⟨Off.of_below hB, ?_⟩
          simp only [Act.put, List.setIfInBounds_toArray, List.set_cons_zero, List.set_cons_succ]
          refine hs_runX (i := 6) (d := some 49) rfl (by kernel_rfl) (by rfl) rfl (ex_append rfl rfl rfl hown hB.size hRf9.bk.ok (hRf9.below hB).row (by omega)) ?_
          rintro vD W' ⟨hownD, hgrD, hapD⟩
          have hrC := range_at hrC (hgrD.block _ hlC (fun e => hnB _ e.symm rfl))
          have hnD : ∀ g, vD.ownBlock = some g → g ≠ cb := fun g hg => by
            rcases hapD g hg with q | q
            · exact hnB g q
            · omega
          have hlC := Nat.lt_of_lt_of_le hlC hgrD.size
          have hB := hB.grown hgrD hB.size (owns_base hown)
          clear hown hgrD hapD
          have hown := hownD
          have hnB := hnD
          obtain ⟨vB, hvB⟩ : ∃ x, x = vD := ⟨_, rfl⟩
          rw [← hvB] at hown ⊢
          rw [← hvB] at hnB
          clear hvB hownD
          refine ⟨Off.of_below hB, ?_⟩
          simp only [Act.put, List.setIfInBounds_toArray, List.set_cons_zero, List.set_cons_succ]
          refine hs_runX (i := 9) (d := some 52) rfl (by kernel_rfl) (by rfl) rfl (ex_append1 rfl rfl rfl hown hB.size hrC hul hu1 (by omega)) ?_
          rintro vE W' ⟨hownE, hgrE, hapE⟩
          have hB := hB.grown hgrE hB.size (owns_base hown)
          refine ⟨Off.of_below hB, ?_⟩
          have hS : (Off (fun b => b = X) w9) _ := Off.of_below hB
          simp only [Act.put, List.setIfInBounds_toArray, List.set_cons_zero, List.set_cons_succ]
          refine hs_take (i := 10) (d := some 53) (v := ?_) rfl (by kernel_rfl) (by kernel_rfl) (by kernel_rfl) (by rfl) ?_ hS rfl ?_
          rotate_left
          · intro w' hw
            go_simp
            try with_reducible rfl
          simp only [Act.put, List.setIfInBounds_toArray, List.set_cons_zero, List.set_cons_succ]
          refine hs_take (i := 11) (d := some 54) (v := ?_) rfl (by kernel_rfl) (by kernel_rfl) (by kernel_rfl) (by rfl) ?_ hS rfl ?_
          rotate_left
          · intro w' hw
            go_simp
            try with_reducible rfl
          simp only [Act.put, List.setIfInBounds_toArray, List.set_cons_zero, List.set_cons_succ]
          obtain ⟨vea, vec, rfl⟩ := owns_slice hownE
          have hthX := (hRf9.below hB).th
          have hst := run_store1 (P := Try.prog) _ X 1 59 (.slice vea (st.length + 1) vec) (by have := there_part hthX 1 1 (by omega); rwa [Nat.zero_add] at this) iszR rfl
          have hSF := (Off.of_below (F := fun b => b = X) hB).trans (Off.of_setCell (F := fun b => b = X) _ ⟨X, 1, none⟩ (.slice vea (st.length + 1) vec) rfl) (fun _ _ q => q)
          refine hs_store (i := 12) rfl (by kernel_rfl) (by rfl) (exec_store rfl rfl rfl hst) rfl hSF ?_
          refine hs_done (by kernel_rfl) ?_
          have HFIN := hide (xadd_fin hRf9 hB hownE hqc.out hx hnn hfind)
          go_wp2_with fail
          go_ret
          exact ⟨rfl, vea, vec, HFIN.out, (Off.of_below hB9).trans hSF (fun _ _ q => q)⟩
      · refine st_runX (i := 8) (d := some 51) rfl (by rfl) rfl (ex_bs1 rfl rfl hul) ?_
        rintro vC W' ⟨cb, rfl, hrC, hlC, hgC, hbW⟩
        have hgC2 := Nat.le_trans hB.size hgC
        have hB := hB.trans (hbW.mono hB.size)
        clear hbW hgC
        refine ⟨Off.of_below hB, ?_⟩
        simp only [Act.put, List.setIfInBounds_toArray, List.set_cons_zero, List.set_cons_succ]
        refine hs_runX (i := 1) (d := some 44) rfl (by kernel_rfl) (by rfl) rfl (ex_bs0 rfl) ?_
        rintro vB W' ⟨hbW, hown0⟩
        have hown := owns_weak hown0 hB.size
        have hB := hB.trans (hbW.mono hB.size)
        have hrC := range_below hrC hbW hlC
        have hnB : ∀ g, vB.ownBlock = some g → g ≠ cb := fun g hg => by have := owns_base hown0 g hg; omega
        have hlC := Nat.lt_of_lt_of_le hlC hbW.size
        clear hbW hown0
        refine ⟨Off.of_below hB, ?_⟩
        simp only [Act.put, List.setIfInBounds_toArray, List.set_cons_zero, List.set_cons_succ]
        refine hs_runX (i := 6) (d := some 49) rfl (by kernel_rfl) (by rfl) rfl (ex_append rfl rfl rfl hown hB.size hRf9.bk.ok (hRf9.below hB).row (by omega)) ?_
        rintro vD W' ⟨hownD, hgrD, hapD⟩
        have hrC := range_at hrC (hgrD.block _ hlC (fun e => hnB _ e.symm rfl))
        have hnD : ∀ g, vD.ownBlock = some g → g ≠ cb := fun g hg => by
          rcases hapD g hg with q | q
          · exact hnB g q
          · omega
        have hlC := Nat.lt_of_lt_of_le hlC hgrD.size
        have hB := hB.grown hgrD hB.size (owns_base hown)
        clear hown hgrD hapD
        have hown := hownD
        have hnB := hnD
        obtain ⟨vB, hvB⟩ : ∃ x, x = vD := ⟨_, rfl⟩
        rw [← hvB] at hown ⊢
        rw [← hvB] at hnB
        clear hvB hownD
        refine ⟨Off.of_below hB, ?_⟩
        simp only [Act.put, List.setIfInBounds_toArray, List.set_cons_zero, List.set_cons_succ]
        refine hs_runX (i := 9) (d := some 52) rfl (by kernel_rfl) (by rfl) rfl (ex_append1 rfl rfl rfl hown hB.size hrC hul hu1 (by omega)) ?_
        rintro vE W' ⟨hownE, hgrE, hapE⟩
        have hB := hB.grown hgrE hB.size (owns_base hown)
        refine ⟨Off.of_below hB, ?_⟩
        have hS : (Off (fun b => b = X) w9) _ := Off.of_below hB
        simp only [Act.put, List.setIfInBounds_toArray, List.set_cons_zero, List.set_cons_succ]
        refine hs_take (i := 10) (d := some 53) (v := ?_) rfl (by kernel_rfl) (by kernel_rfl) (by kernel_rfl) (by rfl) ?_ hS rfl ?_
        rotate_left
        · intro w' hw
          go_simp
          try with_reducible rfl
        simp only [Act.put, List.setIfInBounds_toArray, List.set_cons_zero, List.set_cons_succ]
        refine hs_take (i := 11) (d := some 54) (v := ?_) rfl (by kernel_rfl) (by kernel_rfl) (by kernel_rfl) (by rfl) ?_ hS rfl ?_
        rotate_left
        · intro w' hw
          go_simp
          try with_reducible rfl
        simp only [Act.put, List.setIfInBounds_toArray, List.set_cons_zero, List.set_cons_succ]
        obtain ⟨vea, vec, rfl⟩ := owns_slice hownE
        have hthX := (hRf9.below hB).th
        have hst := run_store1 (P := Try.prog) _ X 1 59 (.slice vea (st.length + 1) vec) (by have := there_part hthX 1 1 (by omega); rwa [Nat.zero_add] at this) iszR rfl
        have hSF := (Off.of_below (F := fun b => b = X) hB).trans (Off.of_setCell (F := fun b => b = X) _ ⟨X, 1, none⟩ (.slice vea (st.length + 1) vec) rfl) (fun _ _ q => q)
        refine hs_store (i := 12) rfl (by kernel_rfl) (by rfl) (exec_store rfl rfl rfl hst) rfl hSF ?_
        refine hs_done (by kernel_rfl) ?_
        have HFIN := hide (xadd_fin hRf9 hB hownE hqc.out hx hnn hfind)
        go_wp2_with fail
        go_ret
        exact ⟨rfl, vea, vec, HFIN.out, (Off.of_below hB9).trans hSF (fun _ _ q => q)⟩
    · refine st_runX (i := 8) (d := some 51) rfl (by rfl) rfl (ex_bs1 rfl rfl hul) ?_
      rintro vC W' ⟨cb, rfl, hrC, hlC, hgC, hbW⟩
      have hgC2 := Nat.le_trans hB.size hgC
      have hB := hB.trans (hbW.mono hB.size)
      clear hbW hgC
      refine ⟨Off.of_below hB, ?_⟩
      simp only [Act.put, List.setIfInBounds_toArray, List.set_cons_zero, List.set_cons_succ]
      refine hs_forkL (l := [1, 5]) (by kernel_rfl) (by simp) ?_
      intro ii hii
      simp only [List.mem_cons, List.not_mem_nil, or_false] at hii
      rcases hii with rfl | rfl
      · refine st_runX (i := 1) (d := some 44) rfl (by rfl) rfl (ex_bs0 rfl) ?_
        rintro vB W' ⟨hbW, hown0⟩
        have hown := owns_weak hown0 hB.size
        have hB := hB.trans (hbW.mono hB.size)
        have hrC := range_below hrC hbW hlC
        have hnB : ∀ g, vB.ownBlock = some g → g ≠ cb := fun g hg => by have := owns_base hown0 g hg; omega
        have hlC := Nat.lt_of_lt_of_le hlC hbW.size
        clear hbW hown0
        refine ⟨Off.of_below hB, ?_⟩
        simp only [Act.put, List.setIfInBounds_toArray, List.set_cons_zero, List.set_cons_succ]
        refine hs_runX (i := 5) (d := some 48) rfl (by kernel_rfl) (by rfl) rfl (ex_load rfl rfl (hRf9.below hB).c1) ?_
        rintro vA W' ⟨rfl, hx⟩
        obtain rfl := hx.symm
        clear hx
        refine ⟨Off.of_below hB, ?_⟩
        simp only [Act.put, List.setIfInBounds_toArray, List.set_cons_zero, List.set_cons_succ]
        refine hs_runX (i := 6) (d := some 49) rfl (by kernel_rfl) (by rfl) rfl (ex_append rfl rfl rfl hown hB.size hRf9.bk.ok (hRf9.below hB).row (by omega)) ?_
        rintro vD W' ⟨hownD, hgrD, hapD⟩
        have hrC := range_at hrC (hgrD.block _ hlC (fun e => hnB _ e.symm rfl))
        have hnD : ∀ g, vD.ownBlock = some g → g ≠ cb := fun g hg => by
          rcases hapD g hg with q | q
          · exact hnB g q
          · omega
        have hlC := Nat.lt_of_lt_of_le hlC hgrD.size
        have hB := hB.grown hgrD hB.size (owns_base hown)
        clear hown hgrD hapD
        have hown := hownD
        have hnB := hnD
        obtain ⟨vB, hvB⟩ : ∃ x, x = vD := ⟨_, rfl⟩
        rw [← hvB] at hown ⊢
        rw [← hvB] at hnB
        clear hvB hownD
        refine ⟨Off.of_below hB, ?_⟩
        simp only [Act.put, List.setIfInBounds_toArray, List.set_cons_zero, List.set_cons_succ]
        refine hs_runX (i := 9) (d := some 52) rfl (by kernel_rfl) (by rfl) rfl (ex_append1 rfl rfl rfl hown hB.size hrC hul hu1 (by omega)) ?_
        rintro vE W' ⟨hownE, hgrE, hapE⟩
        have hB := hB.grown hgrE hB.size (owns_base hown)
        refine ⟨Off.of_below hB, ?_⟩
        have hS : (Off (fun b => b = X) w9) _ := Off.of_below hB
        simp only [Act.put, List.setIfInBounds_toArray, List.set_cons_zero, List.set_cons_succ]
        refine hs_take (i := 10) (d := some 53) (v := ?_) rfl (by kernel_rfl) (by kernel_rfl) (by kernel_rfl) (by rfl) ?_ hS rfl ?_
        rotate_left
        · intro w' hw
          go_simp
          try with_reducible rfl
        simp only [Act.put, List.setIfInBounds_toArray, List.set_cons_zero, List.set_cons_succ]
        refine hs_take (i := 11) (d := some 54) (v := ?_) rfl (by kernel_rfl) (by kernel_rfl) (by kernel_rfl) (by rfl) ?_ hS rfl ?_
        rotate_left
        · intro w' hw
          go_simp
          try with_reducible rfl
        simp only [Act.put, List.setIfInBounds_toArray, List.set_cons_zero, List.set_cons_succ]
        obtain ⟨vea, vec, rfl⟩ := owns_slice hownE
        have hthX := (hRf9.below hB).th
        have hst := run_store1 (P := Try.prog) _ X 1 59 (.slice vea (st.length + 1) vec) (by have := there_part hthX 1 1 (by omega); rwa [Nat.zero_add] at this) iszR rfl
        have hSF := (Off.of_below (F := fun b => b = X) hB).trans (Off.of_setCell (F := fun b => b = X) _ ⟨X, 1, none⟩ (.slice vea (st.length + 1) vec) rfl) (fun _ _ q => q)
        refine hs_store (i := 12) rfl (by kernel_rfl) (by rfl) (exec_store rfl rfl rfl hst) rfl hSF ?_
        refine hs_done (by kernel_rfl) ?_
        have HFIN := hide (xadd_fin hRf9 hB hownE hqc.out hx hnn hfind)
        go_wp2_with fail
        go_ret
        exact ⟨rfl, vea, vec, HFIN.out, (Off.of_below hB9).trans hSF (fun _ _ q => q)⟩
      · refine st_runX (i := 5) (d := some 48) rfl (by rfl) rfl (ex_load rfl rfl (hRf9.below hB).c1) ?_
        rintro vA W' ⟨rfl, hx⟩
        obtain rfl := hx.symm
        clear hx
        refine ⟨Off.of_below hB, ?_⟩
        simp only [Act.put, List.setIfInBounds_toArray, List.set_cons_zero, List.set_cons_succ]
        refine hs_runX (i := 1) (d := some 44) rfl (by kernel_rfl) (by rfl) rfl (ex_bs0 rfl) ?_
        rintro vB W' ⟨hbW, hown0⟩
        have hown := owns_weak hown0 hB.size
        have hB := hB.trans (hbW.mono hB.size)
        have hrC := range_below hrC hbW hlC
        have hnB : ∀ g, vB.ownBlock = some g → g ≠ cb := fun g hg => by have := owns_base hown0 g hg; omega
        have hlC := Nat.lt_of_lt_of_le hlC hbW.size
        clear hbW hown0
        refine ⟨Off.of_below hB, ?_⟩
        simp only [Act.put, List.setIfInBounds_toArray, List.set_cons_zero, List.set_cons_succ]
        refine hs_runX (i := 6) (d := some 49) rfl (by kernel_rfl) (by rfl) rfl (ex_append rfl rfl rfl hown hB.size hRf9.bk.ok (hRf9.below hB).row (by omega)) ?_
        rintro vD W' ⟨hownD, hgrD, hapD⟩
        have hrC := range_at hrC (hgrD.block _ hlC (fun e => hnB _ e.symm rfl))
        have hnD : ∀ g, vD.ownBlock = some g → g ≠ cb := fun g hg => by
          rcases hapD g hg with q | q
          · exact hnB g q
          · omega
        have hlC := Nat.lt_of_lt_of_le hlC hgrD.size
        have hB := hB.grown hgrD hB.size (owns_base hown)
        clear hown hgrD hapD
        have hown := hownD
        have hnB := hnD
        obtain ⟨vB, hvB⟩ : ∃ x, x = vD := ⟨_, rfl⟩
        rw [← hvB] at hown ⊢
        rw [← hvB] at hnB
        clear hvB hownD
        refine ⟨Off.of_below hB, ?_⟩
        simp only [Act.put, List.setIfInBounds_toArray, List.set_cons_zero, List.set_cons_succ]
        refine hs_runX (i := 9) (d := some 52) rfl (by kernel_rfl) (by rfl) rfl (ex_append1 rfl rfl rfl hown hB.size hrC hul hu1 (by omega)) ?_
        rintro vE W' ⟨hownE, hgrE, hapE⟩
        have hB := hB.grown hgrE hB.size (owns_base hown)
        refine ⟨Off.of_below hB, ?_⟩
        have hS : (Off (fun b => b = X) w9) _ := Off.of_below hB
        simp only [Act.put, List.setIfInBounds_toArray, List.set_cons_zero, List.set_cons_succ]
        refine hs_take (i := 10) (d := some 53) (v := ?_) rfl (by kernel_rfl) (by kernel_rfl) (by kernel_rfl) (by rfl) ?_ hS rfl ?_
        rotate_left
        · intro w' hw
          go_simp
          try with_reducible rfl
        simp only [Act.put, List.setIfInBounds_toArray, List.set_cons_zero, List.set_cons_succ]
        refine hs_take (i := 11) (d := some 54) (v := ?_) rfl (by kernel_rfl) (by kernel_rfl) (by kernel_rfl) (by rfl) ?_ hS rfl ?_
        rotate_left
        · intro w' hw
          go_simp
          try with_reducible rfl
        simp only [Act.put, List.setIfInBounds_toArray, List.set_cons_zero, List.set_cons_succ]
        obtain ⟨vea, vec, rfl⟩ := owns_slice hownE
        have hthX := (hRf9.below hB).th
        have hst := run_store1 (P := Try.prog) _ X 1 59 (.slice vea (st.length + 1) vec) (by have := there_part hthX 1 1 (by omega); rwa [Nat.zero_add] at this) iszR rfl
        have hSF := (Off.of_below (F := fun b => b = X) hB).trans (Off.of_setCell (F := fun b => b = X) _ ⟨X, 1, none⟩ (.slice vea (st.length + 1) vec) rfl) (fun _ _ q => q)
        refine hs_store (i := 12) rfl (by kernel_rfl) (by rfl) (exec_store rfl rfl rfl hst) rfl hSF ?_
        refine hs_done (by kernel_rfl) ?_
        have HFIN := hide (xadd_fin hRf9 hB hownE hqc.out hx hnn hfind)
        go_wp2_with fail
        go_ret
        exact ⟨rfl, vea, vec, HFIN.out, (Off.of_below hB9).trans hSF (fun _ _ q => q)⟩
end Go.Proofs.Ytogmkcabndgllaa
