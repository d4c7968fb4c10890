/- the document's Add: what is refused, or there already -/
import Derived.Test.YtogmkcabndgllaaV31
namespace Go.Proofs.Ytogmkcabndgllaa
open Go.RowKit
theorem iszO : (Try.prog.info? 67).map (·.size) = some 53 := by kernel_rfl
theorem fill_three {pl : Array (Nat × Nat)} {n m l : Nat} {z1 z2 z3 c1 c2 c3 : List Value} {v1 v2 v3 : Value} (h0 : pl[0]? = some (0, n)) (h1 : pl[1]? = some (n, m)) (h2 : pl[2]? = some (n + m, l)) (l1 : z1.length = n) (l2 : z2.length = m) (l3 : z3.length = l) (k1 : c1.length = n) (k2 : c2.length = m) (k3 : c3.length = l) (e1 : v1.cells = c1.toArray) (e2 : v2.cells = c2.toArray) (e3 : v3.cells = c3.toArray) :
    Instr.fill (pl[·]?) (z1 ++ (z2 ++ z3)).toArray [(0, v1), (1, v2), (2, v3)] = some (c1 ++ (c2 ++ c3)).toArray := by
  have s1 : z1 ++ (z2 ++ z3) = [] ++ (z1 ++ (z2 ++ z3)) := rfl
  rw [s1, fill_step (off := 0) (n := n) (vs := c1) h0 l1 rfl e1 k1]
  rw [List.nil_append, fill_step (off := n) (n := m) (vs := c2) h1 l2 k1 e2 k2]
  have s2 : c1 ++ (c2 ++ z3) = (c1 ++ c2) ++ (z3 ++ []) := by simp
  rw [s2, fill_step (off := n + m) (n := l) (vs := c3) h2 l3 (by rw [List.length_append, k1, k2]) e3 k3]
  simp [Instr.fill]
set_option maxRecDepth 100000 in
theorem zeroOn (w : World) : (zeroValue 67).run Try.prog w = .ok (.agg ([Value.int .i64 0] ++ (vt0.cells ++ v8 (List.replicate 16 0))).toArray) w := by kernel_rfl
set_option maxRecDepth 100000 in
theorem build_one (x : On) (hx : x.ok) (w : World) : (Instr.build 67 #[(0, .int .i64 x.n), (1, .agg x.v.cells.toArray), (2, .agg (v8 x.t).toArray)]).run Try.prog w = .ok (.agg x.cells.toArray) w :=
  build_fill (zs := [Value.int .i64 0] ++ (vt0.cells ++ v8 (List.replicate 16 0))) (pl := #[(0, 1), (1, 36), (37, 16)]) (zeroOn w) (by kernel_rfl) (by kernel_rfl) _ _ (fill_three (c1 := [.int .i64 x.n]) rfl rfl rfl rfl vt0_ok.len rfl rfl hx.v.len (by rw [v8_length, hx.tl]) rfl rfl rfl)
set_option maxRecDepth 100000 in
set_option maxHeartbeats 4000000 in
theorem xadd_a (X : Nat) (a0 : Option Addr) (cap0 : Nat) (N : Int) (st : List On) (x : On) (hx : x.ok) (w : World) (h : XAt w X a0 cap0 N st) (hlen : st.length < 100000) (hn : x.n < 0) : Calls Try.prog 11 #[.pointer (some ⟨X, 0, none⟩), .int .i64 x.n, .agg x.v.cells.toArray, .agg (v8 x.t).toArray] w fun e w' => e = .returned (.int .i64 2) ∧ Below w.heap.size w w' := by
  have hiV : (Try.prog.info? 31).map (·.size) = some x.v.cells.length := by rw [hx.v.len]; exact iszV
  have hiT : (Try.prog.info? 33).map (·.size) = some (v8 x.t).length := by rw [v8_length, hx.tl]; exact iszT
  have cI := fun w' (h : XAt w' X a0 cap0 N st) => xat_any X a0 cap0 N st x.v.k x.n w' h (by omega)
  have hq53 : x.cells.toArray.size = 53 := by simpa using hx.len
  have hq1 := all_one x.one
  have hiA2 : (Try.prog.info? 67).map (·.size) = some x.cells.toArray.size := by rw [hq53]; exact iszO
  have hiA : (Try.prog.info? 67).map (·.size) = some x.cells.length := by rw [hx.len]; exact iszO
  have hbo : ∀ w' : World, (Instr.build 67 #[(0, .int .i64 x.n), (1, .agg x.v.cells.toArray), (2, .agg (v8 x.t).toArray)]).run Try.prog w' = .ok (.agg x.cells.toArray) w' := fun w' => build_one x hx w'
  have hb0 := two_box (w := w) x.v.cells (v8 x.t) 31 33
  have heqU := fun (z : Vt) (hz : z.ok) w => eqV z x.v hz hx.v w
  obtain ⟨n, xv, xt⟩ := x
  simp only at *
  obtain ⟨k, ep, vw, sl, d⟩ := xv
  simp only at *
  obtain ⟨u, hu⟩ : ∃ u, Hid ((Vt.mk k ep vw sl d).cells = u) := ⟨_, hide rfl⟩
  obtain ⟨g, hg⟩ : ∃ g, Hid (v8 xt = g) := ⟨_, hide rfl⟩
  obtain ⟨qc, hqc⟩ : ∃ q, Hid ((On.mk n ⟨k, ep, vw, sl, d⟩ xt).cells = q) := ⟨_, hide rfl⟩
  have c0k : (u)[0]? = some (.int .i64 k) := by rw [← hu.out]; rfl
  have c2v : (u)[2]? = some (.int .i64 vw) := by rw [← hu.out]; rfl
  simp only [hu.out, hg.out, hqc.out] at hiV hiT hbo hb0 hq53 hq1 hiA hiA2 heqU ⊢
  go_enter Try.func11, Try.ntmps11
  go_upto_region 1 with fail
  go_name_world w1 hw1
  rw [hw1] at hb0
  clear hw1
  obtain ⟨hB1, hR1, hR2, hsz1⟩ := hb0
  have k0 := hR1 0 _ c0k
  have k2 := hR1 2 _ c2v
  simp only [Nat.zero_add] at k0 k2
  have h1 := h.below hB1
  have b0 := h1.c0
  go_wp2_with fail
  go_ret
  exact ⟨rfl, hB1⟩
set_option maxRecDepth 100000 in
set_option maxHeartbeats 4000000 in
theorem xadd_b (X : Nat) (a0 : Option Addr) (cap0 : Nat) (N : Int) (st : List On) (x : On) (hx : x.ok) (w : World) (h : XAt w X a0 cap0 N st) (hlen : st.length < 100000) (hn : 0 ≤ x.n) (hn2 : N ≤ x.n) : Calls Try.prog 11 #[.pointer (some ⟨X, 0, none⟩), .int .i64 x.n, .agg x.v.cells.toArray, .agg (v8 x.t).toArray] w fun e w' => e = .returned (.int .i64 2) ∧ Below w.heap.size w w' := by
  have hiV : (Try.prog.info? 31).map (·.size) = some x.v.cells.length := by rw [hx.v.len]; exact iszV
  have hiT : (Try.prog.info? 33).map (·.size) = some (v8 x.t).length := by rw [v8_length, hx.tl]; exact iszT
  have cI := fun w' (h : XAt w' X a0 cap0 N st) => xat_any X a0 cap0 N st x.v.k x.n w' h (by omega)
  have hq53 : x.cells.toArray.size = 53 := by simpa using hx.len
  have hq1 := all_one x.one
  have hiA2 : (Try.prog.info? 67).map (·.size) = some x.cells.toArray.size := by rw [hq53]; exact iszO
  have hiA : (Try.prog.info? 67).map (·.size) = some x.cells.length := by rw [hx.len]; exact iszO
  have hbo : ∀ w' : World, (Instr.build 67 #[(0, .int .i64 x.n), (1, .agg x.v.cells.toArray), (2, .agg (v8 x.t).toArray)]).run Try.prog w' = .ok (.agg x.cells.toArray) w' := fun w' => build_one x hx w'
  have hb0 := two_box (w := w) x.v.cells (v8 x.t) 31 33
  have heqU := fun (z : Vt) (hz : z.ok) w => eqV z x.v hz hx.v w
  obtain ⟨n, xv, xt⟩ := x
  simp only at *
  obtain ⟨k, ep, vw, sl, d⟩ := xv
  simp only at *
  obtain ⟨u, hu⟩ : ∃ u, Hid ((Vt.mk k ep vw sl d).cells = u) := ⟨_, hide rfl⟩
  obtain ⟨g, hg⟩ : ∃ g, Hid (v8 xt = g) := ⟨_, hide rfl⟩
  obtain ⟨qc, hqc⟩ : ∃ q, Hid ((On.mk n ⟨k, ep, vw, sl, d⟩ xt).cells = q) := ⟨_, hide rfl⟩
  have c0k : (u)[0]? = some (.int .i64 k) := by rw [← hu.out]; rfl
  have c2v : (u)[2]? = some (.int .i64 vw) := by rw [← hu.out]; rfl
  simp only [hu.out, hg.out, hqc.out] at hiV hiT hbo hb0 hq53 hq1 hiA hiA2 heqU ⊢
  go_enter Try.func11, Try.ntmps11
  go_upto_region 1 with fail
  go_name_world w1 hw1
  rw [hw1] at hb0
  clear hw1
  obtain ⟨hB1, hR1, hR2, hsz1⟩ := hb0
  have k0 := hR1 0 _ c0k
  have k2 := hR1 2 _ c2v
  simp only [Nat.zero_add] at k0 k2
  have h1 := h.below hB1
  have b0 := h1.c0
  have hge : n ≥ N := hn2
  go_wp2_with fail
  go_ret
  exact ⟨rfl, hB1⟩
set_option maxRecDepth 100000 in
set_option maxHeartbeats 4000000 in
theorem xadd_c (X : Nat) (a0 : Option Addr) (cap0 : Nat) (N : Int) (st : List On) (x : On) (hx : x.ok) (w : World) (h : XAt w X a0 cap0 N st) (hlen : st.length < 100000) (hn : 0 ≤ x.n) (hn2 : x.n < N) (hk1 : (x.v.k != 1) = true) (hk2 : (x.v.k != 2) = true) : Calls Try.prog 11 #[.pointer (some ⟨X, 0, none⟩), .int .i64 x.n, .agg x.v.cells.toArray, .agg (v8 x.t).toArray] w fun e w' => e = .returned (.int .i64 2) ∧ Below w.heap.size w w' := by
  have hiV : (Try.prog.info? 31).map (·.size) = some x.v.cells.length := by rw [hx.v.len]; exact iszV
  have hiT : (Try.prog.info? 33).map (·.size) = some (v8 x.t).length := by rw [v8_length, hx.tl]; exact iszT
  have cI := fun w' (h : XAt w' X a0 cap0 N st) => xat_any X a0 cap0 N st x.v.k x.n w' h (by omega)
  have hq53 : x.cells.toArray.size = 53 := by simpa using hx.len
  have hq1 := all_one x.one
  have hiA2 : (Try.prog.info? 67).map (·.size) = some x.cells.toArray.size := by rw [hq53]; exact iszO
  have hiA : (Try.prog.info? 67).map (·.size) = some x.cells.length := by rw [hx.len]; exact iszO
  have hbo : ∀ w' : World, (Instr.build 67 #[(0, .int .i64 x.n), (1, .agg x.v.cells.toArray), (2, .agg (v8 x.t).toArray)]).run Try.prog w' = .ok (.agg x.cells.toArray) w' := fun w' => build_one x hx w'
  have hb0 := two_box (w := w) x.v.cells (v8 x.t) 31 33
  have heqU := fun (z : Vt) (hz : z.ok) w => eqV z x.v hz hx.v w
  obtain ⟨n, xv, xt⟩ := x
  simp only at *
  obtain ⟨k, ep, vw, sl, d⟩ := xv
  simp only at *
  obtain ⟨u, hu⟩ : ∃ u, Hid ((Vt.mk k ep vw sl d).cells = u) := ⟨_, hide rfl⟩
  obtain ⟨g, hg⟩ : ∃ g, Hid (v8 xt = g) := ⟨_, hide rfl⟩
  obtain ⟨qc, hqc⟩ : ∃ q, Hid ((On.mk n ⟨k, ep, vw, sl, d⟩ xt).cells = q) := ⟨_, hide rfl⟩
  have c0k : (u)[0]? = some (.int .i64 k) := by rw [← hu.out]; rfl
  have c2v : (u)[2]? = some (.int .i64 vw) := by rw [← hu.out]; rfl
  simp only [hu.out, hg.out, hqc.out] at hiV hiT hbo hb0 hq53 hq1 hiA hiA2 heqU ⊢
  go_enter Try.func11, Try.ntmps11
  go_upto_region 1 with fail
  go_name_world w1 hw1
  rw [hw1] at hb0
  clear hw1
  obtain ⟨hB1, hR1, hR2, hsz1⟩ := hb0
  have k0 := hR1 0 _ c0k
  have k2 := hR1 2 _ c2v
  simp only [Nat.zero_add] at k0 k2
  have h1 := h.below hB1
  have b0 := h1.c0
  have hn0 : ¬ n < 0 := by omega
  have hn3 : ¬ n ≥ N := by omega
  go_wp2_with fail
  go_ret
  exact ⟨rfl, hB1⟩
set_option maxRecDepth 100000 in
set_option maxHeartbeats 4000000 in
theorem xadd_e (X : Nat) (a0 : Option Addr) (cap0 : Nat) (N : Int) (st : List On) (x : On) (hx : x.ok) (w : World) (h : XAt w X a0 cap0 N st) (hlen : st.length < 100000) (hn : 0 ≤ x.n) (hn2 : x.n < N) (hk1 : x.v.k = 1 ∨ x.v.k = 2) (i : Nat) (hidx : idxL st x.v.k x.n = some i) (hi : i < st.length) (HYV : Hid (st[i].v = x.v)) : Calls Try.prog 11 #[.pointer (some ⟨X, 0, none⟩), .int .i64 x.n, .agg x.v.cells.toArray, .agg (v8 x.t).toArray] w fun e w' => e = .returned (.int .i64 0) ∧ Below w.heap.size w w' := by
  have hiV : (Try.prog.info? 31).map (·.size) = some x.v.cells.length := by rw [hx.v.len]; exact iszV
  have hiT : (Try.prog.info? 33).map (·.size) = some (v8 x.t).length := by rw [v8_length, hx.tl]; exact iszT
  have cI := fun w' (h : XAt w' X a0 cap0 N st) => xat_any X a0 cap0 N st x.v.k x.n w' h (by omega)
  have hq53 : x.cells.toArray.size = 53 := by simpa using hx.len
  have hq1 := all_one x.one
  have hiA2 : (Try.prog.info? 67).map (·.size) = some x.cells.toArray.size := by rw [hq53]; exact iszO
  have hiA : (Try.prog.info? 67).map (·.size) = some x.cells.length := by rw [hx.len]; exact iszO
  have hbo : ∀ w' : World, (Instr.build 67 #[(0, .int .i64 x.n), (1, .agg x.v.cells.toArray), (2, .agg (v8 x.t).toArray)]).run Try.prog w' = .ok (.agg x.cells.toArray) w' := fun w' => build_one x hx w'
  have hb0 := two_box (w := w) x.v.cells (v8 x.t) 31 33
  have heqU := fun (z : Vt) (hz : z.ok) w => eqV z x.v hz hx.v w
  obtain ⟨n, xv, xt⟩ := x
  simp only at *
  obtain ⟨k, ep, vw, sl, d⟩ := xv
  simp only at *
  obtain ⟨u, hu⟩ : ∃ u, Hid ((Vt.mk k ep vw sl d).cells = u) := ⟨_, hide rfl⟩
  obtain ⟨g, hg⟩ : ∃ g, Hid (v8 xt = g) := ⟨_, hide rfl⟩
  obtain ⟨qc, hqc⟩ : ∃ q, Hid ((On.mk n ⟨k, ep, vw, sl, d⟩ xt).cells = q) := ⟨_, hide rfl⟩
  have c0k : (u)[0]? = some (.int .i64 k) := by rw [← hu.out]; rfl
  have c2v : (u)[2]? = some (.int .i64 vw) := by rw [← hu.out]; rfl
  simp only [hu.out, hg.out, hqc.out] at hiV hiT hbo hb0 hq53 hq1 hiA hiA2 heqU ⊢
  go_enter Try.func11, Try.ntmps11
  go_upto_region 1 with fail
  go_name_world w1 hw1
  rw [hw1] at hb0
  clear hw1
  obtain ⟨hB1, hR1, hR2, hsz1⟩ := hb0
  have k0 := hR1 0 _ c0k
  have k2 := hR1 2 _ c2v
  simp only [Nat.zero_add] at k0 k2
  have h1 := h.below hB1
  have b0 := h1.c0
  have hkk : (k != 1) = false ∨ ((k != 1) = true ∧ (k != 2) = false) := by rcases hk1 with rfl | rfl <;> simp
  have hn0 : ¬ n < 0 := by omega
  have hn3 : ¬ n ≥ N := by omega
  clear hk1
  rcases hkk with hkk | ⟨hkk, hkk2⟩
  all_goals
    have cI1 := cI w1 h1
    rw [hidx] at cI1
    simp only [idxV] at cI1
    go_wp2_with fail
    refine cI1.mono ?_
    rintro _ w2 ⟨rfl, hB2⟩
    clear cI1 cI
    have h2 := h1.below hB2
    have hR1 := range_below hR1 hB2 (by omega)
    have hR2 := range_below hR2 hB2 (by omega)
    have hs2 := hB2.size
    clear h1
    go_upto_region 5 with (first
      | (refine wpList_load_mid rfl 31 _ rfl _ _ rfl u _ hR1 Try.underlying31 rfl hiV ?_)
      | (refine wpList_load_mid rfl 33 _ rfl _ _ rfl g _ hR2 Try.underlying33 rfl hiT ?_)
      | (refine wpList_build rfl 67 [(0, .tmp 37), (1, .tmp 38), (2, .tmp 39)] rfl [(0, .int .i64 n), (1, .agg u.toArray), (2, .agg g.toArray)] (.agg qc.toArray) rfl (hbo _) ?_)
      | (refine wpList_store_mid rfl 67 _ _ rfl _ 0 qc.toArray rfl rfl (there_newN _ _ _ hq53.symm) hiA2 hq1 ?_))
    go_name_world w3 hw3
    obtain ⟨hB3, hQ3, hlt3, -⟩ := one_filled hw3 (by simpa using hq53)
    clear hw3
    have h3 := h2.below hB3
    have hR1 := range_below hR1 hB3 (by omega)
    have k2 := hR1 2 _ c2v
    simp only [Nat.zero_add] at k2
    have hb3 : Below w.heap.size w w3 := hB1.trans ((hB2.trans (hB3.mono hs2)).mono (by omega))
    have hs3 := hB3.size
    have b1 := h3.c1
    clear h2
    obtain ⟨rb, roff, rfl, hrbl, hrr⟩ := h3.row.elem (fun y hy => (h.bk.ok y hy).len) i hi
    have hy := h.bk.ok _ (List.getElem_mem hi)
    have hle := h.le
    have hiI : (i : Int) < (st.length : Int) := by omega
    obtain ⟨y, hye⟩ : ∃ y, Hid (st[i] = y) := ⟨_, hide rfl⟩
    have hyv := HYV.out
    rw [hye.out] at hyv hy hrr
    obtain ⟨-, q2, -⟩ := On.parts hy hrr
    have q36 : y.v.cells.toArray.size = 36 := by simpa using hy.v.len
    have q1 := all_one y.v.one
    have iq1 : (Try.prog.info? 31).map (·.size) = some y.v.cells.toArray.size := by rw [q36]; exact iszV
    have iq3 : (Try.prog.info? 31).map (·.size) = some y.v.cells.length := by rw [hy.v.len]; exact iszV
    have y2 : (y.v.cells)[2]? = some (.int .i64 y.v.v) := rfl
    have heq := heqU y.v hy.v
    obtain ⟨yc, hyc⟩ : ∃ yc, Hid (y.v.cells = yc) := ⟨_, hide rfl⟩
    rw [hyc.out] at q36 q1 iq1 iq3 y2 q2
    simp only [hyc.out] at heq
    obtain ⟨yv, hyvv⟩ : ∃ yv, Hid (y.v.v = yv) := ⟨_, hide rfl⟩
    rw [hyvv.out] at y2
    try rw [hyvv.out] at hyv
    obtain ⟨L, hL⟩ : ∃ L, Hid (st.length = L) := ⟨_, hide rfl⟩
    rw [hL.out] at hiI hle b1
    have hiL : i < L := by omega
    go_upto_region 9 with (first
      | (refine wpList_load_mid rfl 31 _ rfl _ _ rfl yc _ q2 Try.underlying31 rfl iq3 ?_)
      | (refine wpList_store_mid rfl 31 _ _ rfl _ 0 yc.toArray rfl rfl (there_newN _ _ _ q36.symm) iq1 q1 ?_))
    go_name_world w4 hw4
    obtain ⟨hB4, hY, hlt4, -⟩ := one_filled hw4 (by simpa using q36)
    clear hw4
    have hY2 := hY 2 _ y2
    simp only [Nat.zero_add] at hY2
    have hR1 := range_below hR1 hB4 (by omega)
    have k2 := hR1 2 _ c2v
    simp only [Nat.zero_add] at k2
    have hbl : Below w.heap.size w w4 := hb3.trans (hB4.mono hb3.size)
    have hde : decide (y.v = ⟨k, ep, vw, sl, d⟩) = true := decide_eq_true hyv
    simp only [hde] at heq
    clear hyv hde
    try simp only [Act.put]
    refine wp_region_list ?_
    refine wpList_load_mid rfl 31 _ rfl _ _ rfl yc _ hY Try.underlying31 rfl iq3 ?_
    refine wpList_load_mid rfl 31 _ rfl _ _ rfl u _ hR1 Try.underlying31 rfl hiV ?_
    refine wpList_step fun K hK => ?_
    go_simp
    try rw [heq]
    try go_simp
    refine hK _ _ ?_
    clear hK K
    go_wp2_with fail
    go_ret
    exact ⟨rfl, hbl⟩
set_option maxRecDepth 100000 in
set_option maxHeartbeats 4000000 in
theorem xadd_f (X : Nat) (a0 : Option Addr) (cap0 : Nat) (N : Int) (st : List On) (x : On) (hx : x.ok) (w : World) (h : XAt w X a0 cap0 N st) (hlen : st.length < 100000) (hn : 0 ≤ x.n) (hn2 : x.n < N) (hk1 : x.v.k = 1 ∨ x.v.k = 2) (i : Nat) (hidx : idxL st x.v.k x.n = some i) (hi : i < st.length) (HYV : Hid (¬ st[i].v = x.v ∧ st[i].v.v = x.v.v)) : Calls Try.prog 11 #[.pointer (some ⟨X, 0, none⟩), .int .i64 x.n, .agg x.v.cells.toArray, .agg (v8 x.t).toArray] w fun e w' => e = .returned (.int .i64 181) ∧ Below w.heap.size w w' := by
  have hiV : (Try.prog.info? 31).map (·.size) = some x.v.cells.length := by rw [hx.v.len]; exact iszV
  have hiT : (Try.prog.info? 33).map (·.size) = some (v8 x.t).length := by rw [v8_length, hx.tl]; exact iszT
  have cI := fun w' (h : XAt w' X a0 cap0 N st) => xat_any X a0 cap0 N st x.v.k x.n w' h (by omega)
  have hq53 : x.cells.toArray.size = 53 := by simpa using hx.len
  have hq1 := all_one x.one
  have hiA2 : (Try.prog.info? 67).map (·.size) = some x.cells.toArray.size := by rw [hq53]; exact iszO
  have hiA : (Try.prog.info? 67).map (·.size) = some x.cells.length := by rw [hx.len]; exact iszO
  have hbo : ∀ w' : World, (Instr.build 67 #[(0, .int .i64 x.n), (1, .agg x.v.cells.toArray), (2, .agg (v8 x.t).toArray)]).run Try.prog w' = .ok (.agg x.cells.toArray) w' := fun w' => build_one x hx w'
  have hb0 := two_box (w := w) x.v.cells (v8 x.t) 31 33
  have heqU := fun (z : Vt) (hz : z.ok) w => eqV z x.v hz hx.v w
  obtain ⟨n, xv, xt⟩ := x
  simp only at *
  obtain ⟨k, ep, vw, sl, d⟩ := xv
  simp only at *
  obtain ⟨u, hu⟩ : ∃ u, Hid ((Vt.mk k ep vw sl d).cells = u) := ⟨_, hide rfl⟩
  obtain ⟨g, hg⟩ : ∃ g, Hid (v8 xt = g) := ⟨_, hide rfl⟩
  obtain ⟨qc, hqc⟩ : ∃ q, Hid ((On.mk n ⟨k, ep, vw, sl, d⟩ xt).cells = q) := ⟨_, hide rfl⟩
  have c0k : (u)[0]? = some (.int .i64 k) := by rw [← hu.out]; rfl
  have c2v : (u)[2]? = some (.int .i64 vw) := by rw [← hu.out]; rfl
  simp only [hu.out, hg.out, hqc.out] at hiV hiT hbo hb0 hq53 hq1 hiA hiA2 heqU ⊢
  go_enter Try.func11, Try.ntmps11
  go_upto_region 1 with fail
  go_name_world w1 hw1
  rw [hw1] at hb0
  clear hw1
  obtain ⟨hB1, hR1, hR2, hsz1⟩ := hb0
  have k0 := hR1 0 _ c0k
  have k2 := hR1 2 _ c2v
  simp only [Nat.zero_add] at k0 k2
  have h1 := h.below hB1
  have b0 := h1.c0
  have hkk : (k != 1) = false ∨ ((k != 1) = true ∧ (k != 2) = false) := by rcases hk1 with rfl | rfl <;> simp
  have hn0 : ¬ n < 0 := by omega
  have hn3 : ¬ n ≥ N := by omega
  clear hk1
  rcases hkk with hkk | ⟨hkk, hkk2⟩
  all_goals
    have cI1 := cI w1 h1
    rw [hidx] at cI1
    simp only [idxV] at cI1
    go_wp2_with fail
    refine cI1.mono ?_
    rintro _ w2 ⟨rfl, hB2⟩
    clear cI1 cI
    have h2 := h1.below hB2
    have hR1 := range_below hR1 hB2 (by omega)
    have hR2 := range_below hR2 hB2 (by omega)
    have hs2 := hB2.size
    clear h1
    go_upto_region 5 with (first
      | (refine wpList_load_mid rfl 31 _ rfl _ _ rfl u _ hR1 Try.underlying31 rfl hiV ?_)
      | (refine wpList_load_mid rfl 33 _ rfl _ _ rfl g _ hR2 Try.underlying33 rfl hiT ?_)
      | (refine wpList_build rfl 67 [(0, .tmp 37), (1, .tmp 38), (2, .tmp 39)] rfl [(0, .int .i64 n), (1, .agg u.toArray), (2, .agg g.toArray)] (.agg qc.toArray) rfl (hbo _) ?_)
      | (refine wpList_store_mid rfl 67 _ _ rfl _ 0 qc.toArray rfl rfl (there_newN _ _ _ hq53.symm) hiA2 hq1 ?_))
    go_name_world w3 hw3
    obtain ⟨hB3, hQ3, hlt3, -⟩ := one_filled hw3 (by simpa using hq53)
    clear hw3
    have h3 := h2.below hB3
    have hR1 := range_below hR1 hB3 (by omega)
    have k2 := hR1 2 _ c2v
    simp only [Nat.zero_add] at k2
    have hb3 : Below w.heap.size w w3 := hB1.trans ((hB2.trans (hB3.mono hs2)).mono (by omega))
    have hs3 := hB3.size
    have b1 := h3.c1
    clear h2
    obtain ⟨rb, roff, rfl, hrbl, hrr⟩ := h3.row.elem (fun y hy => (h.bk.ok y hy).len) i hi
    have hy := h.bk.ok _ (List.getElem_mem hi)
    have hle := h.le
    have hiI : (i : Int) < (st.length : Int) := by omega
    obtain ⟨y, hye⟩ : ∃ y, Hid (st[i] = y) := ⟨_, hide rfl⟩
    have hyv := HYV.out
    rw [hye.out] at hyv hy hrr
    obtain ⟨-, q2, -⟩ := On.parts hy hrr
    have q36 : y.v.cells.toArray.size = 36 := by simpa using hy.v.len
    have q1 := all_one y.v.one
    have iq1 : (Try.prog.info? 31).map (·.size) = some y.v.cells.toArray.size := by rw [q36]; exact iszV
    have iq3 : (Try.prog.info? 31).map (·.size) = some y.v.cells.length := by rw [hy.v.len]; exact iszV
    have y2 : (y.v.cells)[2]? = some (.int .i64 y.v.v) := rfl
    have heq := heqU y.v hy.v
    obtain ⟨yc, hyc⟩ : ∃ yc, Hid (y.v.cells = yc) := ⟨_, hide rfl⟩
    rw [hyc.out] at q36 q1 iq1 iq3 y2 q2
    simp only [hyc.out] at heq
    obtain ⟨yv, hyvv⟩ : ∃ yv, Hid (y.v.v = yv) := ⟨_, hide rfl⟩
    rw [hyvv.out] at y2
    try rw [hyvv.out] at hyv
    obtain ⟨L, hL⟩ : ∃ L, Hid (st.length = L) := ⟨_, hide rfl⟩
    rw [hL.out] at hiI hle b1
    have hiL : i < L := by omega
    go_upto_region 9 with (first
      | (refine wpList_load_mid rfl 31 _ rfl _ _ rfl yc _ q2 Try.underlying31 rfl iq3 ?_)
      | (refine wpList_store_mid rfl 31 _ _ rfl _ 0 yc.toArray rfl rfl (there_newN _ _ _ q36.symm) iq1 q1 ?_))
    go_name_world w4 hw4
    obtain ⟨hB4, hY, hlt4, -⟩ := one_filled hw4 (by simpa using q36)
    clear hw4
    have hY2 := hY 2 _ y2
    simp only [Nat.zero_add] at hY2
    have hR1 := range_below hR1 hB4 (by omega)
    have k2 := hR1 2 _ c2v
    simp only [Nat.zero_add] at k2
    have hbl : Below w.heap.size w w4 := hb3.trans (hB4.mono hb3.size)
    have hde : decide (y.v = ⟨k, ep, vw, sl, d⟩) = false := decide_eq_false hyv.1
    have hyw := hyv.2
    simp only [hde] at heq
    clear hyv hde
    subst hyw
    try simp only [Act.put]
    refine wp_region_list ?_
    refine wpList_load_mid rfl 31 _ rfl _ _ rfl yc _ hY Try.underlying31 rfl iq3 ?_
    refine wpList_load_mid rfl 31 _ rfl _ _ rfl u _ hR1 Try.underlying31 rfl hiV ?_
    refine wpList_step fun K hK => ?_
    go_simp
    try rw [heq]
    try go_simp
    refine hK _ _ ?_
    clear hK K
    go_wp2_with fail
    go_ret
    exact ⟨rfl, hbl⟩
set_option maxRecDepth 100000 in
set_option maxHeartbeats 4000000 in
theorem xadd_g (X : Nat) (a0 : Option Addr) (cap0 : Nat) (N : Int) (st : List On) (x : On) (hx : x.ok) (w : World) (h : XAt w X a0 cap0 N st) (hlen : st.length < 100000) (hn : 0 ≤ x.n) (hn2 : x.n < N) (hk1 : x.v.k = 1 ∨ x.v.k = 2) (i : Nat) (hidx : idxL st x.v.k x.n = some i) (hi : i < st.length) (HYV : Hid (¬ st[i].v = x.v ∧ x.v.v < st[i].v.v)) : Calls Try.prog 11 #[.pointer (some ⟨X, 0, none⟩), .int .i64 x.n, .agg x.v.cells.toArray, .agg (v8 x.t).toArray] w fun e w' => e = .returned (.int .i64 90) ∧ Below w.heap.size w w' := by
  have hiV : (Try.prog.info? 31).map (·.size) = some x.v.cells.length := by rw [hx.v.len]; exact iszV
  have hiT : (Try.prog.info? 33).map (·.size) = some (v8 x.t).length := by rw [v8_length, hx.tl]; exact iszT
  have cI := fun w' (h : XAt w' X a0 cap0 N st) => xat_any X a0 cap0 N st x.v.k x.n w' h (by omega)
  have hq53 : x.cells.toArray.size = 53 := by simpa using hx.len
  have hq1 := all_one x.one
  have hiA2 : (Try.prog.info? 67).map (·.size) = some x.cells.toArray.size := by rw [hq53]; exact iszO
  have hiA : (Try.prog.info? 67).map (·.size) = some x.cells.length := by rw [hx.len]; exact iszO
  have hbo : ∀ w' : World, (Instr.build 67 #[(0, .int .i64 x.n), (1, .agg x.v.cells.toArray), (2, .agg (v8 x.t).toArray)]).run Try.prog w' = .ok (.agg x.cells.toArray) w' := fun w' => build_one x hx w'
  have hb0 := two_box (w := w) x.v.cells (v8 x.t) 31 33
  have heqU := fun (z : Vt) (hz : z.ok) w => eqV z x.v hz hx.v w
  obtain ⟨n, xv, xt⟩ := x
  simp only at *
  obtain ⟨k, ep, vw, sl, d⟩ := xv
  simp only at *
  obtain ⟨u, hu⟩ : ∃ u, Hid ((Vt.mk k ep vw sl d).cells = u) := ⟨_, hide rfl⟩
  obtain ⟨g, hg⟩ : ∃ g, Hid (v8 xt = g) := ⟨_, hide rfl⟩
  obtain ⟨qc, hqc⟩ : ∃ q, Hid ((On.mk n ⟨k, ep, vw, sl, d⟩ xt).cells = q) := ⟨_, hide rfl⟩
  have c0k : (u)[0]? = some (.int .i64 k) := by rw [← hu.out]; rfl
  have c2v : (u)[2]? = some (.int .i64 vw) := by rw [← hu.out]; rfl
  simp only [hu.out, hg.out, hqc.out] at hiV hiT hbo hb0 hq53 hq1 hiA hiA2 heqU ⊢
  go_enter Try.func11, Try.ntmps11
  go_upto_region 1 with fail
  go_name_world w1 hw1
  rw [hw1] at hb0
  clear hw1
  obtain ⟨hB1, hR1, hR2, hsz1⟩ := hb0
  have k0 := hR1 0 _ c0k
  have k2 := hR1 2 _ c2v
  simp only [Nat.zero_add] at k0 k2
  have h1 := h.below hB1
  have b0 := h1.c0
  have hkk : (k != 1) = false ∨ ((k != 1) = true ∧ (k != 2) = false) := by rcases hk1 with rfl | rfl <;> simp
  have hn0 : ¬ n < 0 := by omega
  have hn3 : ¬ n ≥ N := by omega
  clear hk1
  rcases hkk with hkk | ⟨hkk, hkk2⟩
  all_goals
    have cI1 := cI w1 h1
    rw [hidx] at cI1
    simp only [idxV] at cI1
    go_wp2_with fail
    refine cI1.mono ?_
    rintro _ w2 ⟨rfl, hB2⟩
    clear cI1 cI
    have h2 := h1.below hB2
    have hR1 := range_below hR1 hB2 (by omega)
    have hR2 := range_below hR2 hB2 (by omega)
    have hs2 := hB2.size
    clear h1
    go_upto_region 5 with (first
      | (refine wpList_load_mid rfl 31 _ rfl _ _ rfl u _ hR1 Try.underlying31 rfl hiV ?_)
      | (refine wpList_load_mid rfl 33 _ rfl _ _ rfl g _ hR2 Try.underlying33 rfl hiT ?_)
      | (refine wpList_build rfl 67 [(0, .tmp 37), (1, .tmp 38), (2, .tmp 39)] rfl [(0, .int .i64 n), (1, .agg u.toArray), (2, .agg g.toArray)] (.agg qc.toArray) rfl (hbo _) ?_)
      | (refine wpList_store_mid rfl 67 _ _ rfl _ 0 qc.toArray rfl rfl (there_newN _ _ _ hq53.symm) hiA2 hq1 ?_))
    go_name_world w3 hw3
    obtain ⟨hB3, hQ3, hlt3, -⟩ := one_filled hw3 (by simpa using hq53)
    clear hw3
    have h3 := h2.below hB3
    have hR1 := range_below hR1 hB3 (by omega)
    have k2 := hR1 2 _ c2v
    simp only [Nat.zero_add] at k2
    have hb3 : Below w.heap.size w w3 := hB1.trans ((hB2.trans (hB3.mono hs2)).mono (by omega))
    have hs3 := hB3.size
    have b1 := h3.c1
    clear h2
    obtain ⟨rb, roff, rfl, hrbl, hrr⟩ := h3.row.elem (fun y hy => (h.bk.ok y hy).len) i hi
    have hy := h.bk.ok _ (List.getElem_mem hi)
    have hle := h.le
    have hiI : (i : Int) < (st.length : Int) := by omega
    obtain ⟨y, hye⟩ : ∃ y, Hid (st[i] = y) := ⟨_, hide rfl⟩
    have hyv := HYV.out
    rw [hye.out] at hyv hy hrr
    obtain ⟨-, q2, -⟩ := On.parts hy hrr
    have q36 : y.v.cells.toArray.size = 36 := by simpa using hy.v.len
    have q1 := all_one y.v.one
    have iq1 : (Try.prog.info? 31).map (·.size) = some y.v.cells.toArray.size := by rw [q36]; exact iszV
    have iq3 : (Try.prog.info? 31).map (·.size) = some y.v.cells.length := by rw [hy.v.len]; exact iszV
    have y2 : (y.v.cells)[2]? = some (.int .i64 y.v.v) := rfl
    have heq := heqU y.v hy.v
    obtain ⟨yc, hyc⟩ : ∃ yc, Hid (y.v.cells = yc) := ⟨_, hide rfl⟩
    rw [hyc.out] at q36 q1 iq1 iq3 y2 q2
    simp only [hyc.out] at heq
    obtain ⟨yv, hyvv⟩ : ∃ yv, Hid (y.v.v = yv) := ⟨_, hide rfl⟩
    rw [hyvv.out] at y2
    try rw [hyvv.out] at hyv
    obtain ⟨L, hL⟩ : ∃ L, Hid (st.length = L) := ⟨_, hide rfl⟩
    rw [hL.out] at hiI hle b1
    have hiL : i < L := by omega
    go_upto_region 9 with (first
      | (refine wpList_load_mid rfl 31 _ rfl _ _ rfl yc _ q2 Try.underlying31 rfl iq3 ?_)
      | (refine wpList_store_mid rfl 31 _ _ rfl _ 0 yc.toArray rfl rfl (there_newN _ _ _ q36.symm) iq1 q1 ?_))
    go_name_world w4 hw4
    obtain ⟨hB4, hY, hlt4, -⟩ := one_filled hw4 (by simpa using q36)
    clear hw4
    have hY2 := hY 2 _ y2
    simp only [Nat.zero_add] at hY2
    have hR1 := range_below hR1 hB4 (by omega)
    have k2 := hR1 2 _ c2v
    simp only [Nat.zero_add] at k2
    have hbl : Below w.heap.size w w4 := hb3.trans (hB4.mono hb3.size)
    have hde : decide (y.v = ⟨k, ep, vw, sl, d⟩) = false := decide_eq_false hyv.1
    have hyw := hyv.2
    simp only [hde] at heq
    clear hyv hde
    have hne : (yv == vw) = false := by simp; omega
    have hgt : yv > vw := hyw
    try simp only [Act.put]
    refine wp_region_list ?_
    refine wpList_load_mid rfl 31 _ rfl _ _ rfl yc _ hY Try.underlying31 rfl iq3 ?_
    refine wpList_load_mid rfl 31 _ rfl _ _ rfl u _ hR1 Try.underlying31 rfl hiV ?_
    refine wpList_step fun K hK => ?_
    go_simp
    try rw [heq]
    try go_simp
    refine hK _ _ ?_
    clear hK K
    go_wp2_with fail
    go_ret
    exact ⟨rfl, hbl⟩
end Go.Proofs.Ytogmkcabndgllaa
