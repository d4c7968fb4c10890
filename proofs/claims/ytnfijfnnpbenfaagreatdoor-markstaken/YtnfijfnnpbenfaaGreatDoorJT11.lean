/- the document's reading: what lies in a box; Parse (the document's) -/
import Derived.Test.YtnfijfnnpbenfaaGreatDoorJT0
import Derived.Test.YtnfijfnnpbenfaaGreatDoorJT8
import Derived.Test.YtnfijfnnpbenfaaGreatDoorJT7
import Derived.Test.YtnfijfnnpbenfaaGreatDoorJT6
namespace Go.Proofs.YtnfijfnnpbenfaaGreatDoor
open Go.RowKit
open Sha Tal
set_option linter.unusedVariables false
set_option linter.unusedSimpArgs false
theorem RSt.belowN {D n : Nat} {w w' : World} {X : Nat} {rest : List Int} {e : Int} (h : RSt D w X rest e) (hb : Below n w w') (hn : X < n) : RSt D w' X rest e := by
 obtain ⟨zs, p, ⟨hX, ⟨a, cap, c0, hc, hm, hr, hbb⟩, c1, c2, f0, f1, f2, hp, hl⟩, hd⟩ := h
 have k := hb.block X hn
 refine ⟨zs, p, ⟨Nat.lt_of_lt_of_le hX hb.size, ⟨a, cap, (cell_block k).1.trans c0, hc, hm, ⟨hr.1, hr.2.1, ?_⟩, hbb⟩, (cell_block k).1.trans c1, (cell_block k).1.trans c2, (cell_block k).2.trans f0, (cell_block k).2.trans f1, (cell_block k).2.trans f2, hp, hl⟩, hd⟩
 rcases hr.2.2 with q | ⟨b, off, e, h1, h2⟩
 ·exact .inl q
 ·have := (hbb _ e).2
  simp only at this
  exact .inr ⟨b, off, e, Nat.lt_of_lt_of_le h1 hb.size, range_blk h2 (hb.block b (by omega))⟩
theorem RowAt.put {w : World} {a : Option Addr} {zs : List Int} {B o : Nat} {vs : List Value} (h : RowAt w a zs) (hne : ∀ x, a = some x → x.block ≠ B) : RowAt (w.setCells B o vs) a zs := by
 refine ⟨h.1, h.2.1, ?_⟩
 rcases h.2.2 with q | ⟨b, off, e, h1, h2⟩
 ·exact .inl q
 ·exact .inr ⟨b, off, e, by rw [size_sets]; exact h1, range_blk h2 (blk_sets (hne _ e))⟩
structure Xb (D : Nat) (w : World) (R B : Nat) (q : Rq0) (s : Rs) (W : World) : Prop where
 row : W.rangeAt B 0 q.cells
 box : W.there B 0 37
 gr : w.grownBy W (some R)
 st : RSt D W R s.1 s.2
 lb : B < W.heap.size
 ab : w.heap.size ≤ B
 lx : R < w.heap.size
 dl : q.d.length = 32
 db : ∀ z ∈ q.d, 0 ≤ z ∧ z < 256
 wo : W.ownsRow (B + 1) 79 2 q.wv q.ws.length (q.ws.flatMap WdE.f)
 po : W.ownsRow (B + 1) 3 1 q.pv q.ps.length (q.ps.flatMap PnE.f)
 ne : ∀ g, q.wv.ownBlock = some g → q.pv.ownBlock ≠ some g
 wk : ∀ y ∈ q.ws, Wd.ok y
 pk : ∀ z ∈ q.ps, PnOk z
theorem Xb.on {w W W' : World} {D R B : Nat} {q : Rq0} {s s' : Rs} (h : Xb D w R B q s W) (g : W.grownBy W' (some R)) (hs : RSt D W' R s'.1 s'.2) : Xb D w R B q s' W' := by
 obtain ⟨h1, h2, h4, h5, h6, h7, h8, h9, h10, h11, h12, h13, h14, h15⟩ := h
 exact ⟨range_gbR h1 g h6 (by omega), there_gbR h2 g h6 (by omega), gb_trans h4 g, hs, Nat.lt_of_lt_of_le h6 g.size, h7, h8, h9, h10, own_gb h11 g (by omega), own_gb h12 g (by omega), h13, h14, h15⟩
theorem Xb.below {w W W' : World} {D R B : Nat} {q : Rq0} {s : Rs} (h : Xb D w R B q s W) (hb : Below W.heap.size W W') : Xb D w R B q s W' := by
 obtain ⟨h1, h2, h4, h5, h6, h7, h8, h9, h10, h11, h12, h13, h14, h15⟩ := h
 exact ⟨range_below h1 hb h6, there_below h2 hb h6, gb_onR h4 hb h4.size, h5.below hb, Nat.lt_of_lt_of_le h6 hb.size, h7, h8, h9, h10, own_belowR h11 hb (Nat.le_refl _), own_belowR h12 hb (Nat.le_refl _), h13, h14, h15⟩
theorem Xb.put {w W : World} {D R B : Nat} {q q' : Rq0} {s : Rs} (h : Xb D w R B q s W) (hd : q'.d.length = 32) (hd2 : ∀ z ∈ q'.d, 0 ≤ z ∧ z < 256) (ew : q'.wv = q.wv) (ep : q'.pv = q.pv) (es : q'.ws = q.ws) (et : q'.ps = q.ps) (pre mid vs post : List Value) (e1 : q.cells = pre ++ (mid ++ post)) (e2 : q'.cells = pre ++ (vs ++ post)) (o : Nat) (ho : pre.length = o) (hl : vs.length = mid.length) (hn : o + vs.length ≤ 37) : Xb D w R B q' s (W.setCells B o vs) := by
 obtain ⟨h1, h2, h4, h5, h6, h7, h8, h9, h10, h11, h12, h13, h14, h15⟩ := h
 have hb : Below B W (W.setCells B o vs) := below_sets (Nat.le_refl _) vs o _ (Below.refl _ _)
 exact ⟨by rw [e2]; exact range_put (by rw [← e1]; exact h1) o ho (there_part1 h2 hn) hl, World.there_setCells h2 _ _ _, gb_onR h4 hb (by omega), h5.belowN hb (by omega), by rw [size_sets]; exact h6, h7, h8, hd, hd2, by rw [ew, es]; exact own_gb h11 (gb_setsR W B vs o) (by omega), by rw [ep, et]; exact own_gb h12 (gb_setsR W B vs o) (by omega), by rw [ew, ep]; exact h13, by rw [es]; exact h14, by rw [et]; exact h15⟩
theorem Xb.setE {w W : World} {D R B : Nat} {q : Rq0} {s : Rs} (h : Xb D w R B q s W) (x : Int) : Xb D w R B { q with e := x } s (W.setCells B 0 [.int .i64 x]) :=
 h.put (q' := { q with e := x }) h.dl h.db rfl rfl rfl rfl [] [.int .i64 q.e] [.int .i64 x] _ rfl rfl 0 rfl rfl (by simp)
theorem Xb.setN {w W : World} {D R B : Nat} {q : Rq0} {s : Rs} (h : Xb D w R B q s W) (x : Int) : Xb D w R B { q with n := x } s (W.setCells B 1 [.int .i64 x]) :=
 h.put (q' := { q with n := x }) h.dl h.db rfl rfl rfl rfl [.int .i64 q.e] [.int .i64 q.n] [.int .i64 x] _ rfl rfl 1 rfl rfl (by simp)
theorem Xb.setC {w W : World} {D R B : Nat} {q : Rq0} {s : Rs} (h : Xb D w R B q s W) (x : Int) : Xb D w R B { q with c := x } s (W.setCells B 2 [.int .i64 x]) :=
 h.put (q' := { q with c := x }) h.dl h.db rfl rfl rfl rfl [.int .i64 q.e, .int .i64 q.n] [.int .i64 q.c] [.int .i64 x] _ rfl rfl 2 rfl rfl (by simp)
theorem Xb.appW {w W W9 : World} {D R B : Nat} {q : Rq0} {s : Rs} {v9 : Value} {x : Wd} (h : Xb D w R B q s W) (hx : x.ok) (g9 : W.grownBy W9 q.wv.ownBlock) (o9 : W9.ownsRow (B + 1) 79 2 v9 (q.ws.length + 1) (q.ws.flatMap WdE.f ++ WdE.f x)) (gb : ∀ g, v9.ownBlock = some g → q.wv.ownBlock = some g ∨ W.heap.size ≤ g) : W9.there B 0 37 ∧ Xb D w R B { q with wv := v9, ws := q.ws ++ [x] } s (W9.setCells B 35 [v9]) := by
  obtain ⟨h1, h2, h4, h5, h6, h7, h8, h9, h10, h11, h12, h13, h14, h15⟩ := h
  have hb : Below (B + 1) W W9 := own_low (Below.refl _ _) (by omega) h11 g9
  have hb2 : Below B W9 (W9.setCells B 35 [v9]) := below_sets (Nat.le_refl _) [v9] 35 _ (Below.refl _ _)
  have nb : ∀ g, q.wv.ownBlock = some g → g ≠ B := fun g hg => by have := (h11.lt g hg).1; omega
  have blk : W9.heap[B]? = W.heap[B]? := hb.block B (by omega)
  have hz := hb.size
  have hpre : ([.int .i64 q.e, .int .i64 q.n, .int .i64 q.c] ++ v8 q.d : List Value).length = 35 := by rw [List.length_append, v8_length, h9]; rfl
  have e1 : q.cells = ([.int .i64 q.e, .int .i64 q.n, .int .i64 q.c] ++ v8 q.d) ++ ([q.wv] ++ [q.pv]) := by unfold Rq0.cells; simp
  have e2 : Rq0.cells { q with wv := v9, ws := q.ws ++ [x] } = ([.int .i64 q.e, .int .i64 q.n, .int .i64 q.c] ++ v8 q.d) ++ ([v9] ++ [q.pv]) := by unfold Rq0.cells; simp
  refine ⟨there_blk h2 blk, ?_, World.there_setCells (there_blk h2 blk) _ _ _, gb_onR (gb_onR h4 hb (by omega)) hb2 (by omega), (h5.belowN hb (by omega)).belowN hb2 (by omega), by rw [size_sets]; omega, h7, h8, h9, h10, ?_, ?_, ?_, ?_, h15⟩
  · rw [e2]
    exact range_put (mid := [q.wv]) (by rw [← e1]; exact range_blk h1 blk) 35 hpre (there_part1 (there_blk h2 blk) (by simp)) rfl
  · have : W9.ownsRow (B + 1) 79 2 v9 (q.ws ++ [x]).length ((q.ws ++ [x]).flatMap WdE.f) := by rw [List.flatMap_append, List.length_append]; simpa using o9
    exact own_gb this (gb_setsR W9 B [v9] 35) (by omega)
  · refine own_gb (h12.kept g9 ?_) (gb_setsR W9 B [v9] 35) (by omega)
    cases hv : q.pv.ownBlock with
    | none => exact .inl rfl
    | some g => exact .inr (fun e => h13 g e.symm hv)
  · intro g hg hp
    rcases gb g hg with e | e
    · exact h13 g e hp
    · have := (h12.lt g hp).2; omega
  · intro y hy
    rcases List.mem_append.1 hy with g | g
    · exact h14 y g
    · rw [List.mem_singleton.1 g]; exact hx
theorem Xb.appP {w W W9 : World} {D R B : Nat} {q : Rq0} {s : Rs} {v9 : Value} {x : Int} (h : Xb D w R B q s W) (hx : PnOk x) (g9 : W.grownBy W9 q.pv.ownBlock) (o9 : W9.ownsRow (B + 1) 3 1 v9 (q.ps.length + 1) (q.ps.flatMap PnE.f ++ PnE.f x)) (gb : ∀ g, v9.ownBlock = some g → q.pv.ownBlock = some g ∨ W.heap.size ≤ g) : W9.there B 0 37 ∧ Xb D w R B { q with pv := v9, ps := q.ps ++ [x] } s (W9.setCells B 36 [v9]) := by
  obtain ⟨h1, h2, h4, h5, h6, h7, h8, h9, h10, h11, h12, h13, h14, h15⟩ := h
  have hb : Below (B + 1) W W9 := own_low (Below.refl _ _) (by omega) h12 g9
  have hb2 : Below B W9 (W9.setCells B 36 [v9]) := below_sets (Nat.le_refl _) [v9] 36 _ (Below.refl _ _)
  have blk : W9.heap[B]? = W.heap[B]? := hb.block B (by omega)
  have hz := hb.size
  have hpre : ([.int .i64 q.e, .int .i64 q.n, .int .i64 q.c] ++ (v8 q.d ++ [q.wv]) : List Value).length = 36 := by rw [List.length_append, List.length_append, v8_length, h9]; rfl
  have e1 : q.cells = ([.int .i64 q.e, .int .i64 q.n, .int .i64 q.c] ++ (v8 q.d ++ [q.wv])) ++ ([q.pv] ++ []) := by unfold Rq0.cells; simp
  have e2 : Rq0.cells { q with pv := v9, ps := q.ps ++ [x] } = ([.int .i64 q.e, .int .i64 q.n, .int .i64 q.c] ++ (v8 q.d ++ [q.wv])) ++ ([v9] ++ []) := by unfold Rq0.cells; simp
  refine ⟨there_blk h2 blk, ?_, World.there_setCells (there_blk h2 blk) _ _ _, gb_onR (gb_onR h4 hb (by omega)) hb2 (by omega), (h5.belowN hb (by omega)).belowN hb2 (by omega), by rw [size_sets]; omega, h7, h8, h9, h10, ?_, ?_, ?_, h14, ?_⟩
  · rw [e2]
    exact range_put (mid := [q.pv]) (by rw [← e1]; exact range_blk h1 blk) 36 hpre (there_part1 (there_blk h2 blk) (by simp)) rfl
  · refine own_gb (h11.kept g9 ?_) (gb_setsR W9 B [v9] 36) (by omega)
    cases hv : q.wv.ownBlock with
    | none => exact .inl rfl
    | some g => exact .inr (fun e => h13 g hv e.symm)
  · have : W9.ownsRow (B + 1) 3 1 v9 (q.ps ++ [x]).length ((q.ps ++ [x]).flatMap PnE.f) := by rw [List.flatMap_append, List.length_append]; simpa using o9
    exact own_gb this (gb_setsR W9 B [v9] 36) (by omega)
  · intro g hg hp
    rcases gb g hp with e | e
    · exact h13 g hg e
    · have := (h11.lt g hg).2; omega
  · intro y hy
    rcases List.mem_append.1 hy with g | g
    · exact h15 y g
    · rw [List.mem_singleton.1 g]; exact hx
theorem Xb.cw {w W : World} {D R B : Nat} {q : Rq0} {s : Rs} (h : Xb D w R B q s W) : W.cell? ⟨B, 35, none⟩ = some q.wv := by
 have h1 := h.row
 unfold Rq0.cells at h1
 have h2 := range_right (range_right h1)
 rw [v8_length, h.dl] at h2
 exact h2 0 _ rfl
theorem Xb.cp {w W : World} {D R B : Nat} {q : Rq0} {s : Rs} (h : Xb D w R B q s W) : W.cell? ⟨B, 36, none⟩ = some q.pv := by
 have h1 := h.row
 unfold Rq0.cells at h1
 have h2 := range_right (range_right h1)
 rw [v8_length, h.dl] at h2
 exact h2 1 _ rfl
def padk (d : List Int) (k : Nat) : List Int := d.take k ++ List.replicate (32 - k) 0
theorem padk_len {d : List Int} {k : Nat} (hk : k ≤ 32) (hd : k ≤ d.length) : (padk d k).length = 32 := by
 unfold padk
 rw [List.length_append, List.length_take, List.length_replicate]
 omega
theorem Xb.byte {w W : World} {D R B : Nat} {e n c : Int} {d : List Int} {wv pv : Value} {ws : List Wd} {ps : List Int} {s : Rs} {k : Nat} (h : Xb D w R B ⟨e, n, c, padk d k, wv, pv, ws, ps⟩ s W) (hk : k < 32) (hd : k < d.length) (hz : 0 ≤ d[k] ∧ d[k] < 256) : Xb D w R B ⟨e, n, c, padk d (k + 1), wv, pv, ws, ps⟩ s (W.setCells B (3 + k) [.int .u8 d[k]]) := by
 have e1 : padk d k = d.take k ++ (0 :: List.replicate (32 - (k + 1)) 0) := by
  unfold padk
  rw [show 32 - k = (32 - (k + 1)) + 1 by omega, List.replicate_succ]
 have e2 : padk d (k + 1) = d.take k ++ (d[k] :: List.replicate (32 - (k + 1)) 0) := by
  unfold padk
  rw [List.take_succ_eq_append_getElem hd, List.append_assoc]
  rfl
 have ht : (d.take k).length = k := by rw [List.length_take]; omega
 have hb := h.db
 refine h.put (q' := ⟨e, n, c, padk d (k + 1), wv, pv, ws, ps⟩) (padk_len (by omega) (by omega)) ?_ rfl rfl rfl rfl ([.int .i64 e, .int .i64 n, .int .i64 c] ++ v8 (d.take k)) [.int .u8 0] [.int .u8 d[k]] (v8 (List.replicate (32 - (k + 1)) 0) ++ [wv, pv]) ?_ ?_ (3 + k) ?_ rfl (by simp; omega)
 ·show ∀ z ∈ padk d (k + 1), _
  rw [e2]
  simp only at hb
  rw [e1] at hb
  intro z hz'
  rcases List.mem_append.1 hz' with g | g
  ·exact hb z (List.mem_append.2 (.inl g))
  ·rcases List.mem_cons.1 g with g | g
   ·rw [g]; exact hz
   ·exact hb z (List.mem_append.2 (.inr (List.mem_cons_of_mem _ g)))
 ·unfold Rq0.cells
  simp only [e1, v8, List.map_append, List.map_cons]
  simp
 ·unfold Rq0.cells
  simp only [e2, v8, List.map_append, List.map_cons]
  simp
 ·rw [List.length_append, v8_length, ht]
  rfl
theorem padk_zero (d : List Int) : padk d 0 = zeros32 := by unfold padk; simp [zeros32]
theorem padk_all {d : List Int} (h : d.length = 32 ∨ d = []) : padk d d.length = pad32 d := by
 unfold padk pad32
 rcases h with h | rfl
 ·rw [if_pos h, List.take_length, h]; simp
 ·rw [if_neg (by simp)]; simp
theorem Xb.done {w W : World} {D R B : Nat} {q : Rq0} {s : Rs} (h : Xb D w R B q s W) (he : -9223372036854775808 ≤ q.e ∧ q.e ≤ 9223372036854775807) (hn : -9223372036854775808 ≤ q.n ∧ q.n ≤ 9223372036854775807) (hc : -9223372036854775808 ≤ q.c ∧ q.c ≤ 9223372036854775807) (hw : q.ws.length ≤ 1000) (hp : q.ps.length ≤ 1000) :
  ∃ x : Stt, x.cells = q.cells ∧ x.sp = ⟨q.e, q.n, q.c, q.d, q.ws, q.ps⟩ ∧ x.ok ∧ x.At W ∧ x.Lo (w.heap.size + 1) := by
 obtain ⟨h1, h2, h4, h5, h6, h7, h8, h9, h10, h11, h12, h13, h14, h15⟩ := h
 obtain ⟨a, ea, xa, ha, la⟩ := own_rows (E := WdE) (ys := q.ws) h11 h14 (by unfold maxLen; omega)
 obtain ⟨b, eb, xb, hb, lb⟩ := own_rows (E := PnE) (ys := q.ps) h12 h15 (by unfold maxLen; omega)
 exact ⟨⟨q.e, q.n, q.c, q.d, a, b⟩, by unfold Stt.cells Rq0.cells; rw [ea, eb], by unfold Stt.sp; rw [xa, xb], ⟨he.1, he.2, hn.1, hn.2, hc.1, hc.2, h9, h10⟩, ⟨ha, hb⟩, ⟨fun g hg => by have := (la g hg).1; omega, fun g hg => by have := (lb g hg).1; omega⟩⟩
theorem xb_new (D R : Nat) (s : Rs) (w : World) (h : RSt D w R s.1 s.2) (zc : List Value) (hz : zc = Rq0.cells ⟨0, 0, 0, zeros32, .slice none 0 0, .slice none 0 0, [], []⟩) : Xb D w R w.heap.size ⟨0, 0, 0, zeros32, .slice none 0 0, .slice none 0 0, [], []⟩ s (w.alloc (.cells zc.toArray 36)) := by
 have hzl : zc.length = 37 := by rw [hz]; decide
 obtain ⟨hB1, hr1, hs1⟩ := boxed_new w zc 36
 have ht1 := there_newN w zc.toArray 36 (n := 37) (by simp [hzl])
 exact ⟨by rw [← hz]; exact hr1, ht1, gb_below hB1 _, h.below hB1, hs1, Nat.le_refl _, Wn.RSt.lt h, by decide, by decide, World.ownsRow_nil _ _ _ _, World.ownsRow_nil _ _ _ _, by simp [Value.ownBlock], by simp, by simp⟩
theorem nuR_err {most : Int} {s : Rs} (h : s.2 ≠ 0) : nuR most s = (0, s) := by
 unfold nuR numS
 rw [if_neg h]
theorem wiR_err {s : Rs} (h : s.2 ≠ 0) : (wiR s).2 = s := by
 have e : ∀ m, numS s.1 s.2 m = (0, s.1, s.2) := fun m => by unfold numS; rw [if_neg h]
 unfold wiR Wn.getR
 simp only [e]
theorem itR_err {α : Type} {one : Rs → α × Rs} (ho : ∀ s : Rs, s.2 ≠ 0 → (one s).2 = s) (s : Rs) (k : Nat) (h : (itR one s k).2.2 ≠ 0) : ∀ m, (itR one s (k + m)).2 = (itR one s k).2 := by
  intro m
  induction m with
  | zero => rfl
  | succ m ih =>
    show (one (itR one s (k + m)).2).2 = _
    rw [ho _ (by rw [ih]; exact h), ih]
theorem itR_stop {α : Type} {one : Rs → α × Rs} (ho : ∀ s : Rs, s.2 ≠ 0 → (one s).2 = s) (s : Rs) {k N : Nat} (hk : k ≤ N) (h : (itR one s k).2.2 ≠ 0) : (itR one s N).2 = (itR one s k).2 := by
 have := itR_err ho s k h (N - k)
 rwa [show k + (N - k) = N by omega] at this
theorem xnumR (D X : Nat) (most : Int) (s : Rs) (w : World) (h : RSt D w X s.1 s.2) : Calls Tryz.prog 50 #[.pointer (some ⟨X, 0, none⟩), .int .i64 most] w fun en w' => en = .returned (.int .i64 (nuR most s).1) ∧ RSt D w' X (nuR most s).2.1 (nuR most s).2.2 ∧ w.grownBy w' (some X) := refNum_any X s.1 s.2 most w h
theorem xwinR (D X : Nat) (s : Rs) (w : World) (h : RSt D w X s.1 s.2) : Calls Tryz.prog 52 #[.pointer (some ⟨X, 0, none⟩)] w fun en w' => en = .returned (.agg (wiR s).1.cells.toArray) ∧ RSt D w' X (wiR s).2.1 (wiR s).2.2 ∧ w.grownBy w' (some X) := Wn.refWGet_any D X s.1 s.2 w h
set_option maxRecDepth 100000 in
set_option maxHeartbeats 1000000 in
theorem xdoneS (D X : Nat) (s : Rs) (w : World) (h : RSt D w X s.1 s.2) : Calls Tryz.prog 53 #[.pointer (some ⟨X, 0, none⟩)] w fun en w' => en = .returned (.int .i64 (doneE s.1 s.2)) ∧ Below w.heap.size w w' := by
 obtain ⟨rest, e⟩ := s
 have c2 := Wn.RSt.cell2 h
 simp only at c2 ⊢
 unfold doneE
 by_cases he : e = 0
 ·subst he
  obtain ⟨zs, p, ⟨hX, ⟨a, cap, c0, hc, hm, hr, hb⟩, c1, c2', f0, f1, f2, hp, hl⟩, hd⟩ := h
  have hd : List.drop p zs = rest := hd rfl
  have hlen : rest.length = zs.length - p := by rw [← hd, List.length_drop]
  rw [if_pos rfl]
  clear hr c2'
  by_cases hz : rest.length = 0
  ·rw [if_pos hz]
   have hlt : ¬ ((p : Int) < (zs.length : Int)) := by omega
   go_enter Tryz.func53, Tryz.ntmps53
   go_upto_region 3 with fail
   have d0 : w.drew.cell? ⟨X, 0, none⟩ = _ := c0
   have d1 : w.drew.cell? ⟨X, 1, none⟩ = _ := c1
   have hB8 : Below w.heap.size w w.drew := (Below.refl _ _).drew
   refine hs_begin (S := (Below w.drew.heap.size w.drew)) 10 rfl (by kernel_rfl) ?_
   have hS : (Below w.drew.heap.size w.drew) w.drew := Below.refl _ _
   have k0 : ∀ w', Below w.drew.heap.size w.drew w' → w'.cell? ⟨X, 0, none⟩ = some (.slice a zs.length cap) := fun w' hw => (cell_block (hw.block X hX)).1.trans c0
   have k1 : ∀ w', Below w.drew.heap.size w.drew w' → w'.cell? ⟨X, 1, none⟩ = some (.int .i64 (p : Int)) := fun w' hw => (cell_block (hw.block X hX)).1.trans c1
   refine hs_t 0 12 (?_) rfl (by kernel_rfl) (by kernel_rfl) (by kernel_rfl) (by rfl) ?_ hS rfl ?_
   rotate_left
   ·intro w' hw
    go_simp
    try with_reducible rfl
   simp only [nz]
   refine hs_t 1 13 (?_) rfl (by kernel_rfl) (by kernel_rfl) (by kernel_rfl) (by rfl) ?_ hS rfl ?_
   rotate_left
   ·intro w' hw
    go_simp
    try with_reducible rfl
   simp only [nz]
   refine hs_t 2 14 (?_) rfl (by kernel_rfl) (by kernel_rfl) (by kernel_rfl) (by rfl) ?_ hS rfl ?_
   rotate_left
   ·intro w' hw
    go_simp
    try with_reducible rfl
   simp only [nz]
   refine hs_t 3 15 (.int .i64 (p : Int)) rfl (by kernel_rfl) (by kernel_rfl) (by kernel_rfl) (by rfl) (fun w' hw => pl_one rfl rfl (k1 _ hw) Tryz.underlying3 rfl) hS rfl ?_
   simp only [nz]
   refine hs_t 4 16 (?_) rfl (by kernel_rfl) (by kernel_rfl) (by kernel_rfl) (by rfl) ?_ hS rfl ?_
   rotate_left
   ·intro w' hw
    go_simp
    try with_reducible rfl
   simp only [nz]
   refine hs_t 5 17 (?_) rfl (by kernel_rfl) (by kernel_rfl) (by kernel_rfl) (by rfl) ?_ hS rfl ?_
   rotate_left
   ·intro w' hw
    go_simp
    try with_reducible rfl
   simp only [nz]
   refine hs_t 6 18 (?_) rfl (by kernel_rfl) (by kernel_rfl) (by kernel_rfl) (by rfl) ?_ hS rfl ?_
   rotate_left
   ·intro w' hw
    go_simp
    try with_reducible rfl
   simp only [nz]
   refine hs_t 7 19 (.slice a zs.length cap) rfl (by kernel_rfl) (by kernel_rfl) (by kernel_rfl) (by rfl) (fun w' hw => pl_one rfl rfl (k0 _ hw) Tryz.underlying57 rfl) hS rfl ?_
   simp only [nz]
   refine hs_t 8 20 (?_) rfl (by kernel_rfl) (by kernel_rfl) (by kernel_rfl) (by rfl) ?_ hS rfl ?_
   rotate_left
   ·intro w' hw
    go_simp
    try with_reducible rfl
   simp only [nz]
   refine hs_t 9 21 (.bool false) rfl (by kernel_rfl) (by kernel_rfl) (by kernel_rfl) (by rfl) (fun w' hw => by go_simp <;> (try simp) <;> (try omega)) hS rfl ?_
   simp only [nz]
   refine hs_done (by kernel_rfl) ?_
   go_wp2_with fail
   go_ret
   exact ⟨rfl, hB8⟩
  ·rw [if_neg hz]
   have hlt : (p : Int) < (zs.length : Int) := by omega
   go_enter Tryz.func53, Tryz.ntmps53
   go_upto_region 3 with fail
   have hB8 : Below w.heap.size w w.drew := (Below.refl _ _).drew
   refine hs_begin (S := (Below w.drew.heap.size w.drew)) 10 rfl (by kernel_rfl) ?_
   have hS : (Below w.drew.heap.size w.drew) w.drew := Below.refl _ _
   have k0 : ∀ w', Below w.drew.heap.size w.drew w' → w'.cell? ⟨X, 0, none⟩ = some (.slice a zs.length cap) := fun w' hw => (cell_block (hw.block X hX)).1.trans c0
   have k1 : ∀ w', Below w.drew.heap.size w.drew w' → w'.cell? ⟨X, 1, none⟩ = some (.int .i64 (p : Int)) := fun w' hw => (cell_block (hw.block X hX)).1.trans c1
   refine hs_t 0 12 (?_) rfl (by kernel_rfl) (by kernel_rfl) (by kernel_rfl) (by rfl) ?_ hS rfl ?_
   rotate_left
   ·intro w' hw
    go_simp
    try with_reducible rfl
   simp only [nz]
   refine hs_t 1 13 (?_) rfl (by kernel_rfl) (by kernel_rfl) (by kernel_rfl) (by rfl) ?_ hS rfl ?_
   rotate_left
   ·intro w' hw
    go_simp
    try with_reducible rfl
   simp only [nz]
   refine hs_t 2 14 (?_) rfl (by kernel_rfl) (by kernel_rfl) (by kernel_rfl) (by rfl) ?_ hS rfl ?_
   rotate_left
   ·intro w' hw
    go_simp
    try with_reducible rfl
   simp only [nz]
   refine hs_t 3 15 (.int .i64 (p : Int)) rfl (by kernel_rfl) (by kernel_rfl) (by kernel_rfl) (by rfl) (fun w' hw => pl_one rfl rfl (k1 _ hw) Tryz.underlying3 rfl) hS rfl ?_
   simp only [nz]
   refine hs_t 4 16 (?_) rfl (by kernel_rfl) (by kernel_rfl) (by kernel_rfl) (by rfl) ?_ hS rfl ?_
   rotate_left
   ·intro w' hw
    go_simp
    try with_reducible rfl
   simp only [nz]
   refine hs_t 5 17 (?_) rfl (by kernel_rfl) (by kernel_rfl) (by kernel_rfl) (by rfl) ?_ hS rfl ?_
   rotate_left
   ·intro w' hw
    go_simp
    try with_reducible rfl
   simp only [nz]
   refine hs_t 6 18 (?_) rfl (by kernel_rfl) (by kernel_rfl) (by kernel_rfl) (by rfl) ?_ hS rfl ?_
   rotate_left
   ·intro w' hw
    go_simp
    try with_reducible rfl
   simp only [nz]
   refine hs_t 7 19 (.slice a zs.length cap) rfl (by kernel_rfl) (by kernel_rfl) (by kernel_rfl) (by rfl) (fun w' hw => pl_one rfl rfl (k0 _ hw) Tryz.underlying57 rfl) hS rfl ?_
   simp only [nz]
   refine hs_t 8 20 (?_) rfl (by kernel_rfl) (by kernel_rfl) (by kernel_rfl) (by rfl) ?_ hS rfl ?_
   rotate_left
   ·intro w' hw
    go_simp
    try with_reducible rfl
   simp only [nz]
   refine hs_t 9 21 (.bool true) rfl (by kernel_rfl) (by kernel_rfl) (by kernel_rfl) (by rfl) (fun w' hw => by go_simp <;> (try simp) <;> (try omega)) hS rfl ?_
   simp only [nz]
   refine hs_done (by kernel_rfl) ?_
   go_wp2_with fail
   go_ret
   exact ⟨rfl, hB8⟩
 ·have hne : (e != 0) = true := by simpa using he
  rw [if_neg he]
  clear h
  go_enter Tryz.func53, Tryz.ntmps53
  go_wp2_with fail
  go_ret
  exact ⟨rfl, Below.refl _ _⟩
theorem below_gbX {w w3 wr : World} {X : Nat} (h : Below w.heap.size w w3) (g : w3.grownBy wr (some X)) (hx : w.heap.size ≤ X) : Below w.heap.size w wr :=
 ⟨g.os.trans h.os, g.tape.trans h.tape, g.output.trans h.output, Nat.le_trans h.size g.size, fun i hi => (g.block i (Nat.lt_of_lt_of_le hi h.size) (by intro q; injection q with q; omega)).trans (h.block i hi)⟩
def Xw (D : Nat) (w : World) (X B : Nat) (a b c : Int) (d : List Int) (t : Rs) (k : Nat) (W : World) : Prop := ∃ vv, Xb D w X B ⟨a, b, c, d, vv, .slice none 0 0, (itR wiR t k).1, []⟩ (itR wiR t k).2 W
def Xp (D : Nat) (w : World) (X B : Nat) (a b c : Int) (d : List Int) (wv : Value) (ws : List Wd) (t : Rs) (k : Nat) (W : World) : Prop := ∃ vv, Xb D w X B ⟨a, b, c, d, wv, vv, ws, (itR (nuR 1048592) t k).1⟩ (itR (nuR 1048592) t k).2 W
set_option maxRecDepth 100000 in
set_option maxHeartbeats 8000000 in
theorem xsparse_any (c : Ld.Cfg) (sb : ByteArray) (w : World) (hs : sb.size ≤ 40000) : Calls Tryz.prog 17 #[.agg (cfgL c).toArray, .string sb] w fun en w' => ParsA w (parseS c (strL sb)) en w' := by
 obtain ⟨zc, hz0, hzl, hz1, hzr, hbn⟩ : ∃ z : List Value, Hid (z = Stt.zero.cells) ∧ z.length = 37 ∧ (∀ v ∈ z, v.oneCell' = true) ∧ (∀ w : World, (zeroValue 36).run Tryz.prog w = .ok (.agg z.toArray) w) ∧ (∀ w : World, (Instr.build 36 #[]).run Tryz.prog w = .ok (.agg z.toArray) w) := ⟨_, hide rfl, Stt.len Stt.zero_ok, Stt.one _, zeroS0, build_s0⟩
 have hzq : zc = Rq0.cells ⟨0, 0, 0, zeros32, .slice none 0 0, .slice none 0 0, [], []⟩ := hz0.out
 obtain ⟨cap, hcv⟩ : ∃ cap : World → Nat, ∀ w0, ∃ w1, (convert 9 57 (.string sb)).run Tryz.prog w0 = .ok (.slice (some ⟨w0.heap.size, 0, none⟩) (strL sb).length (cap w0)) w1 ∧ RowAt w1 (some ⟨w0.heap.size, 0, none⟩) (strL sb) ∧ Below w0.heap.size w0 w1 := ⟨fun w0 => (bytes_of sb (by omega) w0).choose, fun w0 => (bytes_of sb (by omega) w0).choose_spec⟩
 have hll : (strL sb).length ≤ 40000 := by rw [strL_length]; exact hs
 have z0 : Wn.ByteL ((strL sb, 0) : Rs).2 ((strL sb, 0) : Rs).1 := fun _ => strL_byte sb
 obtain ⟨PP, hPP⟩ : ∃ P, parseS c (strL sb) = P := ⟨_, rfl⟩
 rw [hPP]
 unfold parseS at hPP
 have cRd := fun a cap w0 h0 => refRead_any a cap (strL sb) w0 h0 hll
 generalize strL sb = zs at hcv hll z0 hPP cRd
 obtain ⟨s, hs0⟩ : ∃ s : Rs, ((zs, 0) : Rs) = s := ⟨_, rfl⟩
 rw [hs0] at z0 hPP
 obtain ⟨RR, hRR⟩ : ∃ R, readS s = R := ⟨_, rfl⟩
 rw [hRR] at hPP
 have HP : Hid (PP = if doneE RR.2.1 RR.2.2 ≠ 0 then (Sp.zero, doneE RR.2.1 RR.2.2) else if RR.1.good c = true then (RR.1, 0) else (Sp.zero, 220)) := hide hPP.symm
 clear hPP
 have cRd : ∀ a cap w0, RowAt w0 a zs → Calls Tryz.prog 49 #[.slice a zs.length cap] w0 fun e w' => ∃ X, e = .returned (.pointer (some ⟨X, 0, none⟩)) ∧ w0.heap.size ≤ X ∧ RSt w0.heap.size w' X s.1 s.2 ∧ Below w0.heap.size w0 w' := by rw [← hs0]; exact cRd
 clear hs0
 unfold readS rdP rdM rdW rdN rdD rd3 at hRR
 have c1 := fun D X w0 h0 => xnumR D X 1048577 s w0 h0
 have b1 := nuR_bd (most := 1048577) z0 (by decide)
 have z1 := nuR_bz 1048577 z0
 generalize nuR 1048577 s = p_ at c1 b1 z1 hRR
 obtain ⟨v1, s1⟩ := p_
 simp only at c1 b1 z1 hRR
 have c2 := fun D X w0 h0 => xnumR D X 1099511627776 s1 w0 h0
 have b2 := nuR_bd (most := 1099511627776) z1 (by decide)
 have z2 := nuR_bz 1099511627776 z1
 generalize nuR 1099511627776 s1 = p_ at c2 b2 z2 hRR
 obtain ⟨v2, s2⟩ := p_
 simp only at c2 b2 z2 hRR
 have c3 := fun D X w0 h0 => xnumR D X 1099511627776 s2 w0 h0
 have b3 := nuR_bd (most := 1099511627776) z2 (by decide)
 have z3 := nuR_bz 1099511627776 z2
 generalize nuR 1099511627776 s2 = p_ at c3 b3 z3 hRR
 obtain ⟨v3, s3⟩ := p_
 simp only at c3 b3 z3 hRR
 have c4 : ∀ D X w0 h0, _ := fun D X w0 (h0 : RSt D w0 X s3.1 s3.2) => refRaw_any X s3.1 s3.2 32 w0 h0
 have f4 := rawS_32 s3.1 s3.2
 have z4 := rawS_bz 32 z3
 generalize rawS s3.1 s3.2 32 = p_ at c4 f4 z4 hRR
 obtain ⟨dd, s4⟩ := p_
 simp only at c4 f4 z4 hRR
 have c5 := fun D X w0 h0 => xnumR D X 8 s4 w0 h0
 have b5 := nuR_bd (most := 8) (s := s4) z4 (by decide)
 generalize nuR 8 s4 = p_ at c5 b5 hRR
 obtain ⟨v5, s5⟩ := p_
 simp only at c5 b5 hRR
 obtain ⟨N, rfl⟩ : ∃ N : Nat, v5 = (N : Int) := ⟨v5.toNat, by omega⟩
 have hN : N ≤ 8 := by omega
 rw [Int.toNat_natCast] at hRR
 have HRR := hide hRR
 have HB1 := hide b1
 have HB2 := hide b2
 have HB3 := hide b3
 clear z0 z1 z2 z3 z4 b5 hRR b1 b2 b3
 obtain ⟨hB0, hr0, hs0⟩ := boxed_new w (cfgL c) 23
 have iu := iszCf c
 have cG : ∀ (x : Stt) w0 (h0 : x.ok) (h1 : x.At w0), Calls Tryz.prog 54 #[.agg (cfgL c).toArray, .agg x.cells.toArray] w0 fun e w' => e = .returned (.bool (x.good c)) ∧ Below w0.heap.size w0 w' := fun (x : Stt) w0 h0 h1 => xsgood_any c x w0 h0 h1
 obtain ⟨u, hu⟩ : ∃ u, Hid (cfgL c = u) := ⟨_, hide rfl⟩
 rw [hu.out] at hB0 hr0 hs0 iu
 simp only [hu.out] at cG ⊢
 go_enter Tryz.func17, Tryz.ntmps17
 go_upto_region 0 with fail
 try simp only [Act.put]
 refine pl_begin ?_
 refine pl_run (d := some 2) (v := .pointer (some ⟨w.heap.size, 0, none⟩)) (w' := w.alloc (.cells u.toArray 23)) (by rfl) (ex_boxR rfl rfl) rfl ?_
 simp only [nz]
 obtain ⟨W0, hW0⟩ : ∃ W, w.alloc (.cells u.toArray 23) = W := ⟨_, rfl⟩
 rw [hW0] at hB0 hr0 hs0 ⊢
 clear hW0
 obtain ⟨hB1, -, hs1⟩ := boxed_new W0 zc 36
 have ht1 := there_newN W0 zc.toArray 36 (n := 37) (by simp [hzl])
 refine pl_run (d := some 4) (v := .pointer (some ⟨W0.heap.size, 0, none⟩)) (w' := W0.alloc (.cells zc.toArray 36)) (by rfl) (ex_alloc rfl (hzr _)) rfl ?_
 simp only [nz]
 refine pl_t 5 (?_) (by rfl) ?_ rfl ?_
 rotate_left
 ·go_simp
  try with_reducible rfl
 simp only [nz]
 refine pl_nil ?_
 obtain ⟨W1, hW1⟩ : ∃ W, W0.alloc (.cells zc.toArray 36) = W := ⟨_, rfl⟩
 rw [hW1] at hB1 hs1 ht1 ⊢
 clear hW1
 have hr1 := range_below hr0 hB1 hs0
 have hB := hB0.trans (hB1.mono (by omega))
 obtain ⟨A, hA⟩ : ∃ X, W0.heap.size = X := ⟨_, rfl⟩
 obtain ⟨C, hC⟩ : ∃ X, w.heap.size = X := ⟨_, rfl⟩
 rw [hA] at hs1 ht1 hs0
 rw [hC] at hs0 hr1
 have HA : Hid (w.heap.size ≤ A) := hide (by omega)
 simp only [hA, hC]
 obtain ⟨wa, hcw, hra, hBa⟩ := hcv W1
 go_upto_region 1 with fail
 try simp only [Act.put]
 refine pl_begin ?_
 refine pl_t 14 (?_) (by rfl) ?_ rfl ?_
 rotate_left
 ·go_simp
  try with_reducible rfl
 simp only [nz]
 refine pl_run (d := some 15) (v := .slice (some ⟨W1.heap.size, 0, none⟩) zs.length (cap W1)) (w' := wa) (by rfl) (ex_conv rfl rfl hcw) rfl ?_
 simp only [nz]
 refine pl_call (d := some 16) (by rfl) (by go_simp; first | done | exact ⟨rfl, rfl⟩ | with_reducible rfl) rfl ?_
 refine (cRd _ _ wa hra).mono ?_
 rintro _ w2 ⟨X, rfl, hXw, S2, hb2⟩
 refine ⟨_, rfl, ?_⟩
 simp only [nz]
 refine pl_t 6 (?_) (by rfl) ?_ rfl ?_
 rotate_left
 ·go_simp
  try with_reducible rfl
 simp only [nz]
 refine pl_nil ?_
 have hb12 := hBa.trans (hb2.mono hBa.size)
 have tA3 := there_below ht1 hb12 hs1
 have rc3 := range_below hr1 hb12 (by omega)
 have B3 := hB.trans (hb12.mono hB.size)
 have hs2 := Nat.lt_of_lt_of_le hs1 hb12.size
 have hXA : A < X := by have := hBa.size; omega
 have HXw : Hid (w.heap.size ≤ X) := hide (by omega)
 have HAs : Hid (A < w2.heap.size ∧ A ≠ X ∧ C < w2.heap.size ∧ C ≠ X) := hide ⟨hs2, by omega, by omega, by omega⟩
 obtain ⟨D, hD⟩ : ∃ D, wa.heap.size = D := ⟨_, rfl⟩
 rw [hD] at S2
 have c1 := c1 D X
 have c2 := c2 D X
 have c3 := c3 D X
 have c4 := c4 D X
 have c5 := c5 D X
 have n0 := xb_new D X s w2 S2 zc hzq
 obtain ⟨B, hBe⟩ : ∃ b, w2.heap.size = b := ⟨_, rfl⟩
 have HXB : Hid (A < B) := hide (by omega)
 clear hcv hcw hra cRd hBa hb2 hb12 ht1 hr1 hB hB0 hB1 hr0 hs1 hs2 hXw hXA hD S2 hzq hA hs0 hC hll
 go_upto_region 2 with fail
 try simp only [Act.put]
 refine pl_begin ?_
 refine pl_run (d := some 7) (v := .pointer (some ⟨w2.heap.size, 0, none⟩)) (w' := w2.alloc (.cells zc.toArray 36)) (by rfl) (ex_alloc rfl (hzr _)) rfl ?_
 simp only [nz]
 refine pl_nil ?_
 obtain ⟨W3, hW3⟩ : ∃ W, w2.alloc (.cells zc.toArray 36) = W := ⟨_, rfl⟩
 rw [hW3, hBe] at n0
 rw [hW3]
 simp only [hBe]
 clear hW3 hBe hzr
 go_upto_region 3 with fail
 try simp only [Act.put]
 refine pl_begin ?_
 refine pl_t 17 (?_) (by rfl) ?_ rfl ?_
 rotate_left
 ·go_simp
  try with_reducible rfl
 simp only [nz]
 refine pl_call (d := some 18) (by rfl) (by go_simp; first | done | exact ⟨rfl, rfl⟩ | with_reducible rfl) rfl ?_
 refine (c1 _ n0.st).mono ?_
 rintro _ n1w ⟨rfl, n1s, n1g⟩
 refine ⟨_, rfl, ?_⟩
 simp only [nz]
 refine pl_t 19 (?_) (by rfl) ?_ rfl ?_
 rotate_left
 ·go_simp
  try with_reducible rfl
 simp only [nz]
 have n1 := (n0.on n1g n1s).setE v1
 have n1t := (n0.on n1g n1s).box
 refine pl_store (w' := n1w.setCells B 0 [.int .i64 v1]) (by rfl) (ex_put1 (n := 37) rfl rfl rfl n1t (by decide) iszI rfl rfl) rfl ?_
 refine pl_nil ?_
 obtain ⟨n1v, hn1⟩ : ∃ W, n1w.setCells B 0 [.int .i64 v1] = W := ⟨_, rfl⟩
 rw [hn1] at n1 ⊢
 clear hn1 n1s n1g n1t n0 c1
 go_upto_region 4 with fail
 try simp only [Act.put]
 refine pl_begin ?_
 refine pl_t 20 (?_) (by rfl) ?_ rfl ?_
 rotate_left
 ·go_simp
  try with_reducible rfl
 simp only [nz]
 refine pl_call (d := some 21) (by rfl) (by go_simp; first | done | exact ⟨rfl, rfl⟩ | with_reducible rfl) rfl ?_
 refine (c2 _ n1.st).mono ?_
 rintro _ n2w ⟨rfl, n2s, n2g⟩
 refine ⟨_, rfl, ?_⟩
 simp only [nz]
 refine pl_t 22 (?_) (by rfl) ?_ rfl ?_
 rotate_left
 ·go_simp
  try with_reducible rfl
 simp only [nz]
 have n2 := (n1.on n2g n2s).setN v2
 have n2t := (n1.on n2g n2s).box
 refine pl_store (w' := n2w.setCells B 1 [.int .i64 v2]) (by rfl) (ex_put1 (n := 37) rfl rfl rfl n2t (by decide) iszI rfl rfl) rfl ?_
 refine pl_nil ?_
 obtain ⟨n2v, hn2⟩ : ∃ W, n2w.setCells B 1 [.int .i64 v2] = W := ⟨_, rfl⟩
 rw [hn2] at n2 ⊢
 clear hn2 n2s n2g n2t n1 c2
 go_upto_region 5 with fail
 try simp only [Act.put]
 refine pl_begin ?_
 refine pl_t 23 (?_) (by rfl) ?_ rfl ?_
 rotate_left
 ·go_simp
  try with_reducible rfl
 simp only [nz]
 refine pl_call (d := some 24) (by rfl) (by go_simp; first | done | exact ⟨rfl, rfl⟩ | with_reducible rfl) rfl ?_
 refine (c3 _ n2.st).mono ?_
 rintro _ n3w ⟨rfl, n3s, n3g⟩
 refine ⟨_, rfl, ?_⟩
 simp only [nz]
 refine pl_t 25 (?_) (by rfl) ?_ rfl ?_
 rotate_left
 ·go_simp
  try with_reducible rfl
 simp only [nz]
 have n3 := (n2.on n3g n3s).setC v3
 have n3t := (n2.on n3g n3s).box
 refine pl_store (w' := n3w.setCells B 2 [.int .i64 v3]) (by rfl) (ex_put1 (n := 37) rfl rfl rfl n3t (by decide) iszI rfl rfl) rfl ?_
 refine pl_nil ?_
 obtain ⟨n3v, hn3⟩ : ∃ W, n3w.setCells B 2 [.int .i64 v3] = W := ⟨_, rfl⟩
 rw [hn3] at n3 ⊢
 clear hn3 n3s n3g n3t n2 c3
 have n3 : Xb D w2 X B ⟨v1, v2, v3, padk dd 0, .slice none 0 0, .slice none 0 0, [], []⟩ s3 n3v := by rw [padk_zero]; exact n3
 go_upto_region 6 with fail
 try simp only [Act.put]
 refine pl_begin ?_
 refine pl_t 26 (?_) (by rfl) ?_ rfl ?_
 rotate_left
 ·go_simp
  try with_reducible rfl
 simp only [nz]
 refine pl_call (d := some 27) (by rfl) (by go_simp; first | done | exact ⟨rfl, rfl⟩ | with_reducible rfl) rfl ?_
 refine (c4 n3v n3.st).mono ?_
 rintro _ w9 ⟨v9, rfl, m9, s9, g9⟩
 refine ⟨_, rfl, ?_⟩
 simp only [nz]
 refine pl_t 8 (?_) (by rfl) ?_ rfl ?_
 rotate_left
 ·go_simp
  try with_reducible rfl
 simp only [nz]
 refine pl_nil ?_
 have n4 := n3.on (s' := s4) g9 s9
 obtain ⟨a9, cap9, rfl, _, _, row9⟩ := m9.rowAt (by unfold maxLen; rcases f4 with q | q <;> (first | omega | (rw [q]; decide)))
 have a9B : ∀ x, a9 = some x → x.block ≠ B := fun x hx => by
  subst hx
  have := (m9.1.lt x.block rfl).1
  have := n3.lb
  omega
 have hdl : dd.length ≤ 32 := by rcases f4 with q | q <;> (first | omega | (rw [q]; simp))
 clear c4 n3 s9 g9 m9
 go_upto_region 7 with fail
 try simp only [Act.put]
 refine pl_begin ?_
 refine pl_t 9 (?_) (by rfl) ?_ rfl ?_
 rotate_left
 ·go_simp
  try with_reducible rfl
 simp only [nz]
 refine pl_nil ?_
 have HD0 : Hid (Xb D w2 X B ⟨v1, v2, v3, padk dd 0, .slice none 0 0, .slice none 0 0, [], []⟩ s4 w9 ∧ RowAt w9 a9 dd) := hide ⟨n4, row9⟩
 clear n4 row9
 go_wp2_with fail
 go_loopw [9] (fun iv wr => ∃ k : Nat, k ≤ dd.length ∧ iv = .int .i64 (k : Int) ∧ Hid (Xb D w2 X B ⟨v1, v2, v3, padk dd k, .slice none 0 0, .slice none 0 0, [], []⟩ s4 wr ∧ RowAt wr a9 dd)) (fun iv _ => dd.length - (intOf iv).toNat)
 case atStart => exact ⟨0, by omega, rfl, HD0⟩
 case round =>
  clear HD0
  obtain ⟨k, hk, rfl, HD⟩ := hrel
  by_cases hlt : k < dd.length
  ·have k1 : (k : Int) < dd.length := by omega
   have k32 : k < 32 := by omega
   have k32' : (k : Int) < 32 := by omega
   obtain ⟨hx, hrow⟩ := HD.out
   obtain ⟨b, off, hab, hbl, hcell, hz0', hz1'⟩ := hrow.get k hlt
   have hgd : dd.getD k 0 = dd[k] := by rw [List.getD_eq_getElem?_getD, List.getElem?_eq_getElem hlt]; rfl
   rw [hgd] at hcell hz0' hz1'
   have hx2 := hx.byte k32 hlt ⟨hz0', hz1'⟩
   have hrow2 : RowAt (wr.setCells B (3 + k) [.int .u8 dd[k]]) a9 dd := hrow.put a9B
   have HD2 : Hid (Xb D w2 X B ⟨v1, v2, v3, padk dd (k + 1), .slice none 0 0, .slice none 0 0, [], []⟩ s4 (wr.setCells B (3 + k) [.int .u8 dd[k]]) ∧ RowAt (wr.setCells B (3 + k) [.int .u8 dd[k]]) a9 dd) := hide ⟨hx2, hrow2⟩
   have htb := hx.box
   clear hx hrow hx2 hrow2 HD hgd
   obtain ⟨z, hz⟩ : ∃ z, dd[k] = z := ⟨_, rfl⟩
   rw [hz] at hcell HD2
   clear hz hz0' hz1'
   rw [hab] at HD2 ⊢
   clear hab
   go_upto_region 10 with fail
   try simp only [Act.put]
   refine pl_begin ?_
   refine pl_t 34 (?_) (by rfl) ?_ rfl ?_
   rotate_left
   ·go_simp
    try with_reducible rfl
   simp only [nz]
   refine pl_t 35 (?_) (by rfl) ?_ rfl ?_
   rotate_left
   ·go_simp
    try with_reducible rfl
   simp only [nz]
   refine pl_t 36 (?_) (by rfl) ?_ rfl ?_
   rotate_left
   ·go_simp
    try with_reducible rfl
   simp only [nz]
   refine pl_t 37 (.pointer (some ⟨b, off + k, none⟩)) (by rfl) (by go_simp) rfl ?_
   simp only [nz]
   refine pl_t 38 (.int .u8 z) (by rfl) (pl_one rfl rfl hcell Tryz.underlying5 rfl) rfl ?_
   simp only [nz]
   refine pl_t 39 (?_) (by rfl) ?_ rfl ?_
   rotate_left
   ·go_simp
    try with_reducible rfl
   simp only [nz]
   refine pl_t 40 (.pointer (some ⟨B, 3 + k, none⟩)) (by rfl) (by go_simp) rfl ?_
   simp only [nz]
   refine pl_store (w' := wr.setCells B (3 + k) [.int .u8 z]) (by rfl) (ex_put1 (n := 37) rfl rfl rfl htb (by omega) isz8 rfl rfl) rfl ?_
   refine pl_nil ?_
   clear hcell htb hbl
   go_wp2_with fail
   go_roundw
   case rel => exact ⟨k + 1, by omega, by go_num, HD2⟩
   case measure => simp [intOf]; omega
  ·obtain rfl : k = dd.length := by omega
   have k1 : ¬ ((dd.length : Int) < dd.length) := by omega
   obtain ⟨hx, -⟩ := HD.out
   rw [padk_all f4] at hx
   have hd32 := pad32_len dd
   obtain ⟨dp, hdp⟩ : ∃ x, pad32 dd = x := ⟨_, rfl⟩
   have HRR1' := HRR.out
   rw [hdp] at hx
   clear HD hlt hk hd32 HRR1'
   go_upto_region 11 with fail
   try simp only [Act.put]
   refine pl_begin ?_
   refine pl_t 41 (?_) (by rfl) ?_ rfl ?_
   rotate_left
   ·go_simp
    try with_reducible rfl
   simp only [nz]
   refine pl_call (d := some 42) (by rfl) (by go_simp; first | done | exact ⟨rfl, rfl⟩ | with_reducible rfl) rfl ?_
   refine (c5 _ hx.st).mono ?_
   rintro _ w11 ⟨rfl, s11, g11⟩
   refine ⟨_, rfl, ?_⟩
   simp only [nz]
   refine pl_t 10 (?_) (by rfl) ?_ rfl ?_
   rotate_left
   ·go_simp
    try with_reducible rfl
   simp only [nz]
   refine pl_nil ?_
   have HL0 : Hid (Xw D w2 X B v1 v2 v3 dp s5 0 w11) := hide ⟨_, hx.on g11 s11⟩
   have Hdp := hide hdp
   clear hx s11 g11 c5 k1 hdp
   go_upto_region 12 with fail
   try simp only [Act.put]
   refine pl_begin ?_
   refine pl_t 11 (?_) (by rfl) ?_ rfl ?_
   rotate_left
   ·go_simp
    try with_reducible rfl
   simp only [nz]
   refine pl_nil ?_
   go_wp2_with fail
   go_loopw [11] (fun iv wr => ∃ k : Nat, k ≤ N ∧ iv = .int .i64 (k : Int) ∧ Hid (Xw D w2 X B v1 v2 v3 dp s5 k wr)) (fun iv _ => N - (intOf iv).toNat)
   case atStart => exact ⟨0, by omega, rfl, HL0⟩
   case round =>
    clear HL0
    obtain ⟨k, hk, rfl, HL⟩ := hrel
    obtain ⟨vv, HV⟩ := HL.out
    clear HL
    have hce := Wn.RSt.cell2 HV.st
    by_cases hlt : k < N
    ·have k1 : (k : Int) < N := by omega
     by_cases hee : (itR wiR s5 k).2.2 = 0
     ·rw [hee] at hce
      obtain ⟨i1, hi, hiz, his, hib⟩ := info_parts infoWn
      have hzk : (Value.agg #[.int .i64 0, .int .u64 0]).cells.size = 2 := rfl
      have hle : (itR wiR s5 k).1.length ≤ 1000 := by rw [itR_length]; omega
      have cE := fun w0 h0 => xwinR D X (itR wiR s5 k).2 w0 h0
      have hok := wiR_ok (itR wiR s5 k).2
      have E1 : Hid (itR wiR s5 (k + 1) = ((itR wiR s5 k).1 ++ [(wiR (itR wiR s5 k).2).1], (wiR (itR wiR s5 k).2).2)) := hide rfl
      generalize wiR (itR wiR s5 k).2 = p_ at cE hok E1
      obtain ⟨gx, sx⟩ := p_
      simp only at cE hok E1
      have hul : gx.cells.length = 2 := rfl
      have hone := WdE.one gx
      clear hee
      go_upto_region 13 with fail
      try simp only [Act.put]
      refine pl_begin ?_
      refine pl_t 43 (?_) (by rfl) ?_ rfl ?_
      rotate_left
      ·go_simp
       try with_reducible rfl
      simp only [nz]
      refine pl_t 44 (?_) (by rfl) ?_ rfl ?_
      rotate_left
      ·go_simp
       try with_reducible rfl
      simp only [nz]
      refine pl_t 45 (.bool true) (by rfl) (by go_simp <;> (try simp) <;> (try omega)) rfl ?_
      simp only [nz]
      refine pl_t 46 (?_) (by rfl) ?_ rfl ?_
      rotate_left
      ·go_simp
       try with_reducible rfl
      simp only [nz]
      refine pl_t 47 (?_) (by rfl) ?_ rfl ?_
      rotate_left
      ·go_simp
       try with_reducible rfl
      simp only [nz]
      refine pl_t 48 (?_) (by rfl) ?_ rfl ?_
      rotate_left
      ·go_simp
       try with_reducible rfl
      simp only [nz]
      refine pl_t 49 (?_) (by rfl) ?_ rfl ?_
      rotate_left
      ·go_simp
       try with_reducible rfl
      simp only [nz]
      refine pl_t 50 (.int .i64 0) (by rfl) (pl_one rfl rfl hce Tryz.underlying3 rfl) rfl ?_
      simp only [nz]
      refine pl_t 51 (.bool true) (by rfl) (by go_simp <;> (try simp [hee])) rfl ?_
      simp only [nz]
      refine pl_t 52 (?_) (by rfl) ?_ rfl ?_
      rotate_left
      ·go_simp
       try with_reducible rfl
      simp only [nz]
      refine pl_nil ?_
      clear hce
      go_upto_region 15 with fail
      have V8 := HV.below ((Below.refl _ _).drew)
      refine hs_begin (S := (fun _ : World => True)) 8 rfl (by kernel_rfl) ?_
      obtain ⟨w8, hw8⟩ : ∃ W, wr.drew = W := ⟨_, rfl⟩
      rw [hw8] at V8 ⊢
      clear hw8
      have hS : (fun _ : World => True) w8 := trivial
      refine hs_t 0 55 (?_) rfl (by kernel_rfl) (by kernel_rfl) (by kernel_rfl) (by rfl) ?_ hS rfl ?_
      rotate_left
      ·intro w' hw
       go_simp
       try with_reducible rfl
      simp only [nz]
      refine hs_t 2 57 (?_) rfl (by kernel_rfl) (by kernel_rfl) (by kernel_rfl) (by rfl) ?_ hS rfl ?_
      rotate_left
      ·intro w' hw
       go_simp
       try with_reducible rfl
      simp only [nz]
      refine hs_forkL (l := [1, 3]) (by kernel_rfl) (by simp) ?_
      intro ii hii
      simp only [List.mem_cons, List.not_mem_nil, or_false] at hii
      rcases hii with rfl | rfl
      ·refine st_run (i := 1) (d := some 56) (v := vv) (w' := w8) rfl (by rfl) (pl_one rfl rfl V8.cw Tryz.underlying33 rfl) rfl trivial ?_
       simp only [nz]
       refine hs_call (i := 3) (d := some 58) rfl (by kernel_rfl) (by rfl) (by go_simp; first | done | exact ⟨rfl, rfl⟩ | with_reducible rfl) rfl ?_
       refine (cE w8 V8.st).mono ?_
       rintro _ w6 ⟨rfl, S6, g6⟩
       refine ⟨_, rfl, trivial, ?_⟩
       simp only [nz]
       have V6 := V8.on g6 S6
       have hb7 : Below w6.heap.size w6 (w6.alloc (.cells gx.cells.toArray 79)) := (Below.refl _ _).alloc (Nat.le_refl _) _
       have r7 : (w6.alloc (.cells gx.cells.toArray 79)).rangeAt w6.heap.size 0 gx.cells := by simpa using range_new w6 (gx.cells).toArray 79
       refine hs_run (i := 4) (d := some 59) (v := .slice (some ⟨w6.heap.size, 0, none⟩) 1 1) (w' := w6.alloc (.cells gx.cells.toArray 79)) rfl (by kernel_rfl) (by rfl) (ex_bsi rfl rfl (run_bsw _ _)) rfl trivial ?_
       simp only [nz]
       obtain ⟨w7, hw7⟩ : ∃ W, w6.alloc (.cells gx.cells.toArray 79) = W := ⟨_, rfl⟩
       rw [hw7] at hb7 r7 ⊢
       clear hw7
       have V7 := V6.below hb7
       refine hs_runX (i := 5) (d := some 60) rfl (by kernel_rfl) (by rfl) rfl (ex_app1 rfl rfl rfl Tryz.underlying33 hi hiz his (by rw [hib]; decide) rfl V7.wo (by have := V7.lb; omega) r7 hul hone hle hzk) ?_
       rintro v9 w9 ⟨o9, g9, gb9⟩
       refine ⟨trivial, ?_⟩
       simp only [nz]
       refine hs_t 6 61 (?_) rfl (by kernel_rfl) (by kernel_rfl) (by kernel_rfl) (by rfl) ?_ hS rfl ?_
       rotate_left
       ·intro w' hw
        go_simp
        try with_reducible rfl
       simp only [nz]
       obtain ⟨tb9, V9⟩ := V7.appW hok g9 o9 gb9
       have hv9 : v9.cells = #[v9] ∧ v9.oneCell' = true := own_cell o9
       refine hs_store (i := 7) (w' := w9.setCells B 35 [v9]) rfl (by kernel_rfl) (by rfl) (ex_put1 (n := 37) rfl rfl rfl tb9 (by decide) iszWs hv9.1 hv9.2) rfl trivial ?_
       refine hs_done (by kernel_rfl) ?_
       have HL6 : Hid (Xw D w2 X B v1 v2 v3 dp s5 (k + 1) (w9.setCells B 35 [v9])) := hide ⟨v9, by rw [E1.out]; exact V9⟩
       clear E1 HV o9 g9 gb9 tb9 hv9 V9 V7 V6 V8 r7 hb7 S6 g6 hok hle hul hone cE hS
       go_wp2_with fail
       go_roundw
       case rel => exact ⟨k + 1, by omega, by go_num, HL6⟩
       case measure => simp [intOf]; omega
      ·refine st_call (i := 3) (d := some 58) rfl (by rfl) (by go_simp; first | done | exact ⟨rfl, rfl⟩ | with_reducible rfl) rfl ?_
       refine (cE w8 V8.st).mono ?_
       rintro _ w6 ⟨rfl, S6, g6⟩
       refine ⟨_, rfl, trivial, ?_⟩
       simp only [nz]
       have V6 := V8.on g6 S6
       refine hs_forkL (l := [1, 4]) (by kernel_rfl) (by simp) ?_
       intro ii hii
       simp only [List.mem_cons, List.not_mem_nil, or_false] at hii
       rcases hii with rfl | rfl
       ·refine st_run (i := 1) (d := some 56) (v := vv) (w' := w6) rfl (by rfl) (pl_one rfl rfl V6.cw Tryz.underlying33 rfl) rfl trivial ?_
        simp only [nz]
        have hb7 : Below w6.heap.size w6 (w6.alloc (.cells gx.cells.toArray 79)) := (Below.refl _ _).alloc (Nat.le_refl _) _
        have r7 : (w6.alloc (.cells gx.cells.toArray 79)).rangeAt w6.heap.size 0 gx.cells := by simpa using range_new w6 (gx.cells).toArray 79
        refine hs_run (i := 4) (d := some 59) (v := .slice (some ⟨w6.heap.size, 0, none⟩) 1 1) (w' := w6.alloc (.cells gx.cells.toArray 79)) rfl (by kernel_rfl) (by rfl) (ex_bsi rfl rfl (run_bsw _ _)) rfl trivial ?_
        simp only [nz]
        obtain ⟨w7, hw7⟩ : ∃ W, w6.alloc (.cells gx.cells.toArray 79) = W := ⟨_, rfl⟩
        rw [hw7] at hb7 r7 ⊢
        clear hw7
        have V7 := V6.below hb7
        refine hs_runX (i := 5) (d := some 60) rfl (by kernel_rfl) (by rfl) rfl (ex_app1 rfl rfl rfl Tryz.underlying33 hi hiz his (by rw [hib]; decide) rfl V7.wo (by have := V7.lb; omega) r7 hul hone hle hzk) ?_
        rintro v9 w9 ⟨o9, g9, gb9⟩
        refine ⟨trivial, ?_⟩
        simp only [nz]
        refine hs_t 6 61 (?_) rfl (by kernel_rfl) (by kernel_rfl) (by kernel_rfl) (by rfl) ?_ hS rfl ?_
        rotate_left
        ·intro w' hw
         go_simp
         try with_reducible rfl
        simp only [nz]
        obtain ⟨tb9, V9⟩ := V7.appW hok g9 o9 gb9
        have hv9 : v9.cells = #[v9] ∧ v9.oneCell' = true := own_cell o9
        refine hs_store (i := 7) (w' := w9.setCells B 35 [v9]) rfl (by kernel_rfl) (by rfl) (ex_put1 (n := 37) rfl rfl rfl tb9 (by decide) iszWs hv9.1 hv9.2) rfl trivial ?_
        refine hs_done (by kernel_rfl) ?_
        have HL6 : Hid (Xw D w2 X B v1 v2 v3 dp s5 (k + 1) (w9.setCells B 35 [v9])) := hide ⟨v9, by rw [E1.out]; exact V9⟩
        clear E1 HV o9 g9 gb9 tb9 hv9 V9 V7 V6 V8 r7 hb7 S6 g6 hok hle hul hone cE hS
        go_wp2_with fail
        go_roundw
        case rel => exact ⟨k + 1, by omega, by go_num, HL6⟩
        case measure => simp [intOf]; omega
       ·have hb7 : Below w6.heap.size w6 (w6.alloc (.cells gx.cells.toArray 79)) := (Below.refl _ _).alloc (Nat.le_refl _) _
        have r7 : (w6.alloc (.cells gx.cells.toArray 79)).rangeAt w6.heap.size 0 gx.cells := by simpa using range_new w6 (gx.cells).toArray 79
        refine st_run (i := 4) (d := some 59) (v := .slice (some ⟨w6.heap.size, 0, none⟩) 1 1) (w' := w6.alloc (.cells gx.cells.toArray 79)) rfl (by rfl) (ex_bsi rfl rfl (run_bsw _ _)) rfl trivial ?_
        simp only [nz]
        obtain ⟨w7, hw7⟩ : ∃ W, w6.alloc (.cells gx.cells.toArray 79) = W := ⟨_, rfl⟩
        rw [hw7] at hb7 r7 ⊢
        clear hw7
        have V7 := V6.below hb7
        refine hs_run (i := 1) (d := some 56) (v := vv) (w' := w7) rfl (by kernel_rfl) (by rfl) (pl_one rfl rfl V7.cw Tryz.underlying33 rfl) rfl trivial ?_
        simp only [nz]
        refine hs_runX (i := 5) (d := some 60) rfl (by kernel_rfl) (by rfl) rfl (ex_app1 rfl rfl rfl Tryz.underlying33 hi hiz his (by rw [hib]; decide) rfl V7.wo (by have := V7.lb; omega) r7 hul hone hle hzk) ?_
        rintro v9 w9 ⟨o9, g9, gb9⟩
        refine ⟨trivial, ?_⟩
        simp only [nz]
        refine hs_t 6 61 (?_) rfl (by kernel_rfl) (by kernel_rfl) (by kernel_rfl) (by rfl) ?_ hS rfl ?_
        rotate_left
        ·intro w' hw
         go_simp
         try with_reducible rfl
        simp only [nz]
        obtain ⟨tb9, V9⟩ := V7.appW hok g9 o9 gb9
        have hv9 : v9.cells = #[v9] ∧ v9.oneCell' = true := own_cell o9
        refine hs_store (i := 7) (w' := w9.setCells B 35 [v9]) rfl (by kernel_rfl) (by rfl) (ex_put1 (n := 37) rfl rfl rfl tb9 (by decide) iszWs hv9.1 hv9.2) rfl trivial ?_
        refine hs_done (by kernel_rfl) ?_
        have HL6 : Hid (Xw D w2 X B v1 v2 v3 dp s5 (k + 1) (w9.setCells B 35 [v9])) := hide ⟨v9, by rw [E1.out]; exact V9⟩
        clear E1 HV o9 g9 gb9 tb9 hv9 V9 V7 V6 V8 r7 hb7 S6 g6 hok hle hul hone cE hS
        go_wp2_with fail
        go_roundw
        case rel => exact ⟨k + 1, by omega, by go_num, HL6⟩
        case measure => simp [intOf]; omega
     ·have hst := itR_stop (one := wiR) (fun _ h => wiR_err h) s5 hk hee
      obtain ⟨ee, hee2⟩ : ∃ x, (itR wiR s5 k).2.2 = x := ⟨_, rfl⟩
      rw [hee2] at hce
      have hee3 : ¬ ee = 0 := by rw [← hee2]; exact hee
      have HNE0 := hide hee
      have HST := hide hst
      have hee : (ee == 0) = false := by simpa using hee3
      clear hst hee2 hee3
      go_upto_region 13 with fail
      try simp only [Act.put]
      refine pl_begin ?_
      refine pl_t 43 (?_) (by rfl) ?_ rfl ?_
      rotate_left
      ·go_simp
       try with_reducible rfl
      simp only [nz]
      refine pl_t 44 (?_) (by rfl) ?_ rfl ?_
      rotate_left
      ·go_simp
       try with_reducible rfl
      simp only [nz]
      refine pl_t 45 (.bool true) (by rfl) (by go_simp <;> (try simp) <;> (try omega)) rfl ?_
      simp only [nz]
      refine pl_t 46 (?_) (by rfl) ?_ rfl ?_
      rotate_left
      ·go_simp
       try with_reducible rfl
      simp only [nz]
      refine pl_t 47 (?_) (by rfl) ?_ rfl ?_
      rotate_left
      ·go_simp
       try with_reducible rfl
      simp only [nz]
      refine pl_t 48 (?_) (by rfl) ?_ rfl ?_
      rotate_left
      ·go_simp
       try with_reducible rfl
      simp only [nz]
      refine pl_t 49 (?_) (by rfl) ?_ rfl ?_
      rotate_left
      ·go_simp
       try with_reducible rfl
      simp only [nz]
      refine pl_t 50 (.int .i64 ee) (by rfl) (pl_one rfl rfl hce Tryz.underlying3 rfl) rfl ?_
      simp only [nz]
      refine pl_t 51 (.bool false) (by rfl) (by go_simp <;> (try simp [hee])) rfl ?_
      simp only [nz]
      refine pl_t 52 (?_) (by rfl) ?_ rfl ?_
      rotate_left
      ·go_simp
       try with_reducible rfl
      simp only [nz]
      refine pl_nil ?_
      clear hce hee k1
      have c6 := fun w0 h0 => xnumR D X 64 (itR wiR s5 k).2 w0 h0
      simp only [nuR_err HNE0.out] at c6
      go_upto_region 16 with fail
      try simp only [Act.put]
      refine pl_begin ?_
      refine pl_t 62 (?_) (by rfl) ?_ rfl ?_
      rotate_left
      ·go_simp
       try with_reducible rfl
      simp only [nz]
      refine pl_call (d := some 63) (by rfl) (by go_simp; first | done | exact ⟨rfl, rfl⟩ | with_reducible rfl) rfl ?_
      refine (c6 _ HV.st).mono ?_
      rintro _ w12 ⟨rfl, s12, g12⟩
      refine ⟨_, rfl, ?_⟩
      simp only [nz]
      refine pl_t 10 (?_) (by rfl) ?_ rfl ?_
      rotate_left
      ·go_simp
       try with_reducible rfl
      simp only [nz]
      refine pl_nil ?_
      have HP0 : Hid (Xb D w2 X B ⟨v1, v2, v3, dp, vv, .slice none 0 0, (itR wiR s5 k).1, []⟩ (itR wiR s5 k).2 w12) := hide (HV.on g12 s12)
      clear HV s12 g12 c6
      go_upto_region 17 with fail
      try simp only [Act.put]
      refine pl_begin ?_
      refine pl_t 12 (?_) (by rfl) ?_ rfl ?_
      rotate_left
      ·go_simp
       try with_reducible rfl
      simp only [nz]
      refine pl_nil ?_
      go_wp2_with fail
      go_loopw [12] (fun iv wr => iv = .int .i64 0 ∧ Hid (Xb D w2 X B ⟨v1, v2, v3, dp, vv, .slice none 0 0, (itR wiR s5 k).1, []⟩ (itR wiR s5 k).2 wr)) (fun iv _ => 0)
      case atStart => exact ⟨rfl, HP0⟩
      case round =>
       clear HP0
       obtain ⟨rfl, HQ⟩ := hrel
       have HX := HQ.out
       clear HQ
       obtain ⟨sF, hsF⟩ : ∃ t, (itR wiR s5 k).2 = t := ⟨_, rfl⟩
       have hne := HNE0.out
       rw [hsF] at hne HX
       have HS : Hid (RR.2 = sF) := hide (by
        rw [← HRR.out]
        simp only
        rw [HST.out, hsF, nuR_err hne]
        rfl)
       have HNE : Hid (¬ doneE sF.1 sF.2 = 0) := hide (by unfold doneE; rw [if_neg hne]; exact hne)
       clear hsF hne HNE0 HST
       go_upto_region 18 with fail
       try simp only [Act.put]
       refine pl_begin ?_
       refine pl_t 64 (?_) (by rfl) ?_ rfl ?_
       rotate_left
       ·go_simp
        try with_reducible rfl
       simp only [nz]
       refine pl_t 65 (?_) (by rfl) ?_ rfl ?_
       rotate_left
       ·go_simp
        try with_reducible rfl
       simp only [nz]
       refine pl_t 66 (.bool false) (by rfl) (by go_simp <;> (try simp) <;> (try omega)) rfl ?_
       simp only [nz]
       refine pl_t 67 (?_) (by rfl) ?_ rfl ?_
       rotate_left
       ·go_simp
        try with_reducible rfl
       simp only [nz]
       refine pl_skip (d := some 68) (by rfl) rfl ?_
       simp only [nz]
       refine pl_skip (d := some 69) (by rfl) rfl ?_
       simp only [nz]
       refine pl_skip (d := some 70) (by rfl) rfl ?_
       simp only [nz]
       refine pl_skip (d := some 71) (by rfl) rfl ?_
       simp only [nz]
       refine pl_skip (d := some 72) (by rfl) rfl ?_
       simp only [nz]
       refine pl_t 73 (?_) (by rfl) ?_ rfl ?_
       rotate_left
       ·go_simp
        try with_reducible rfl
       simp only [nz]
       refine pl_nil ?_
       have HX7w := HX.gr
       go_upto_region 21 with fail
       try simp only [Act.put]
       refine pl_begin ?_
       refine pl_t 83 (?_) (by rfl) ?_ rfl ?_
       rotate_left
       ·go_simp
        try with_reducible rfl
       simp only [nz]
       refine pl_call (d := some 84) (by rfl) (by go_simp; first | done | exact ⟨rfl, rfl⟩ | with_reducible rfl) rfl ?_
       refine (xdoneS D X _ _ HX.st).mono ?_
       rintro _ w7 ⟨rfl, hb7⟩
       refine ⟨_, rfl, ?_⟩
       simp only [nz]
       refine pl_t 13 (?_) (by rfl) ?_ rfl ?_
       rotate_left
       ·go_simp
        try with_reducible rfl
       simp only [nz]
       refine pl_nil ?_
       have HX7 := HX.below hb7
       have B7 : Below w.heap.size w w7 := below_gbX B3 HX7.gr HXw.out
       have th7 : w7.there A 0 37 := there_gbR tA3 HX7.gr HAs.out.1 HAs.out.2.1
       have rc7 : w7.rangeAt C 0 u := range_gbR rc3 HX7.gr HAs.out.2.2.1 HAs.out.2.2.2
       obtain ⟨d, hd_⟩ : ∃ d, Hid (doneE sF.1 sF.2 = d) := ⟨_, hide rfl⟩
       simp only [hd_.out]
       clear HX hb7 HX7w
       by_cases hd : d = 0
       rotate_left
       ·have hdb : (d == 0) = false := by simpa using hd
        have hdn : (d != 0) = true := by simpa using hd
        have HPE : Hid (PP = (Sp.zero, d)) := hide (by rw [HP.out, HS.out, hd_.out, if_pos hd])
        clear hd HX7 rc7
        go_upto_region 22 with fail
        try simp only [Act.put]
        refine pl_begin ?_
        refine pl_t 85 (?_) (by rfl) ?_ rfl ?_
        rotate_left
        ·go_simp
         try with_reducible rfl
        simp only [nz]
        refine pl_t 86 (.bool false) (by rfl) (by go_simp <;> (try simp [*])) rfl ?_
        simp only [nz]
        refine pl_t 87 (?_) (by rfl) ?_ rfl ?_
        rotate_left
        ·go_simp
         try with_reducible rfl
        simp only [nz]
        refine pl_skip (d := some 88) (by rfl) rfl ?_
        simp only [nz]
        refine pl_skip (d := some 89) (by rfl) rfl ?_
        simp only [nz]
        refine pl_skip (d := some 90) (by rfl) rfl ?_
        simp only [nz]
        refine pl_skip (d := some 91) (by rfl) rfl ?_
        simp only [nz]
        refine pl_t 92 (?_) (by rfl) ?_ rfl ?_
        rotate_left
        ·go_simp
         try with_reducible rfl
        simp only [nz]
        refine pl_nil ?_
        go_upto_region 24 with fail
        try simp only [Act.put]
        refine pl_begin ?_
        refine pl_t 93 (?_) (by rfl) ?_ rfl ?_
        rotate_left
        ·go_simp
         try with_reducible rfl
        simp only [nz]
        refine pl_t 94 (.bool true) (by rfl) (by go_simp <;> (try simp [*])) rfl ?_
        simp only [nz]
        refine pl_nil ?_
        go_upto_region 25 with fail
        try simp only [Act.put]
        refine pl_begin ?_
        refine pl_t 95 (.agg zc.toArray) (by rfl) (ex_build (parts := []) rfl rfl (hbn _)) rfl ?_
        simp only [nz]
        refine pl_t 96 (?_) (by rfl) ?_ rfl ?_
        rotate_left
        ·go_simp
         try with_reducible rfl
        simp only [nz]
        refine pl_store (w' := w7.setCells A 0 zc) (by rfl) (ex_put (cs := zc.toArray) rfl rfl rfl (by simpa [hzl] using th7) (by simpa [hzl] using iszSt) (all_one hz1)) rfl ?_
        refine pl_t 5 (?_) (by rfl) ?_ rfl ?_
        rotate_left
        ·go_simp
         try with_reducible rfl
        simp only [nz]
        refine pl_nil ?_
        have hrs := run_loadVar_mid (P := Tryz.prog) (w7.setCells A 0 zc) A 0 36 zc _ (World.rangeAt_setCells_same w7 A 0 zc (by rw [hzl]; exact th7)) Tryz.underlying36 rfl (by rw [hzl]; exact iszSt)
        have HF : Hid (ParsA w PP (.returned (.tuple #[.agg zc.toArray, .int .i64 d])) (w7.setCells A 0 zc)) := hide (by
         rw [HPE.out]
         exact pars_out (x := Stt.zero) hz0.out.symm HA.out B7 rfl rfl Stt.zero_ok (Stt.zero_at _) (Stt.zero_lo _))
        clear th7 B7 HPE
        go_wp2_with fail
        refine bodyPost_ret (results_ct rfl _ _ _ rfl hrs) rfl ?_
        exact HF.out
       ·subst hd
        exfalso
        exact HNE.out hd_.out
    ·have hkN : k = N := by omega
     subst hkN
     have k1 : ¬ ((k : Int) < k) := by omega
     have hwl := itR_length wiR s5 k
     clear hlt hk hce
     go_upto_region 13 with fail
     try simp only [Act.put]
     refine pl_begin ?_
     refine pl_t 43 (?_) (by rfl) ?_ rfl ?_
     rotate_left
     ·go_simp
      try with_reducible rfl
     simp only [nz]
     refine pl_t 44 (?_) (by rfl) ?_ rfl ?_
     rotate_left
     ·go_simp
      try with_reducible rfl
     simp only [nz]
     refine pl_t 45 (.bool false) (by rfl) (by go_simp <;> (try simp) <;> (try omega)) rfl ?_
     simp only [nz]
     refine pl_t 46 (?_) (by rfl) ?_ rfl ?_
     rotate_left
     ·go_simp
      try with_reducible rfl
     simp only [nz]
     refine pl_skip (d := some 47) (by rfl) rfl ?_
     simp only [nz]
     refine pl_skip (d := some 48) (by rfl) rfl ?_
     simp only [nz]
     refine pl_skip (d := some 49) (by rfl) rfl ?_
     simp only [nz]
     refine pl_skip (d := some 50) (by rfl) rfl ?_
     simp only [nz]
     refine pl_skip (d := some 51) (by rfl) rfl ?_
     simp only [nz]
     refine pl_t 52 (?_) (by rfl) ?_ rfl ?_
     rotate_left
     ·go_simp
      try with_reducible rfl
     simp only [nz]
     refine pl_nil ?_
     clear k1
     have c6 := fun w0 h0 => xnumR D X 64 (itR wiR s5 k).2 w0 h0
     have b6 := nuR_bd (most := 64) (Wn.RSt.bytes HV.st) (by decide)
     obtain ⟨p_, hp_⟩ : ∃ p, nuR 64 (itR wiR s5 k).2 = p := ⟨_, rfl⟩
     rw [hp_] at b6
     simp only [hp_] at c6
     obtain ⟨v6, s6⟩ := p_
     simp only at c6 b6
     have HE6 := hide hp_
     clear hp_
     go_upto_region 16 with fail
     try simp only [Act.put]
     refine pl_begin ?_
     refine pl_t 62 (?_) (by rfl) ?_ rfl ?_
     rotate_left
     ·go_simp
      try with_reducible rfl
     simp only [nz]
     refine pl_call (d := some 63) (by rfl) (by go_simp; first | done | exact ⟨rfl, rfl⟩ | with_reducible rfl) rfl ?_
     refine (c6 _ HV.st).mono ?_
     rintro _ w12 ⟨rfl, s12, g12⟩
     refine ⟨_, rfl, ?_⟩
     simp only [nz]
     refine pl_t 10 (?_) (by rfl) ?_ rfl ?_
     rotate_left
     ·go_simp
      try with_reducible rfl
     simp only [nz]
     refine pl_nil ?_
     have HP0 : Hid (Xp D w2 X B v1 v2 v3 dp vv (itR wiR s5 k).1 s6 0 w12) := hide ⟨_, HV.on g12 s12⟩
     clear HV s12 g12 c6
     obtain ⟨M, rfl⟩ : ∃ M : Nat, v6 = (M : Int) := ⟨v6.toNat, by omega⟩
     have hM : M ≤ 64 := by omega
     clear b6
     go_upto_region 17 with fail
     try simp only [Act.put]
     refine pl_begin ?_
     refine pl_t 12 (?_) (by rfl) ?_ rfl ?_
     rotate_left
     ·go_simp
      try with_reducible rfl
     simp only [nz]
     refine pl_nil ?_
     go_wp2_with fail
     go_loopw [12] (fun iv wr => ∃ k2 : Nat, k2 ≤ M ∧ iv = .int .i64 (k2 : Int) ∧ Hid (Xp D w2 X B v1 v2 v3 dp vv (itR wiR s5 k).1 s6 k2 wr)) (fun iv _ => M - (intOf iv).toNat)
     case atStart => exact ⟨0, by omega, rfl, HP0⟩
     case round =>
      clear HP0
      obtain ⟨k2, hk2, rfl, HQ⟩ := hrel
      by_cases hlt : k2 < M
      ·have k1 : (k2 : Int) < M := by omega
       obtain ⟨vp, HW⟩ := HQ.out
       clear HQ
       have hce := Wn.RSt.cell2 HW.st
       by_cases hee : (itR (nuR 1048592) s6 k2).2.2 = 0
       ·rw [hee] at hce
        obtain ⟨i1, hi, hiz, his, hib⟩ := info_parts infoIn
        have hzk : (Value.int .i64 0).cells.size = 1 := rfl
        have hle : (itR (nuR 1048592) s6 k2).1.length ≤ 1000 := by rw [itR_length]; omega
        have cE := fun w0 h0 => xnumR D X 1048592 (itR (nuR 1048592) s6 k2).2 w0 h0
        have hok := nuR_ok (s := (itR (nuR 1048592) s6 k2).2) (Wn.RSt.bytes HW.st)
        have E1 : Hid (itR (nuR 1048592) s6 (k2 + 1) = ((itR (nuR 1048592) s6 k2).1 ++ [(nuR 1048592 (itR (nuR 1048592) s6 k2).2).1], (nuR 1048592 (itR (nuR 1048592) s6 k2).2).2)) := hide rfl
        generalize nuR 1048592 (itR (nuR 1048592) s6 k2).2 = p_ at cE hok E1
        obtain ⟨gx, sx⟩ := p_
        simp only at cE hok E1
        have hul : [Value.int .i64 gx].length = 1 := rfl
        have hone := PnE.one gx
        clear hee
        go_upto_region 18 with fail
        try simp only [Act.put]
        refine pl_begin ?_
        refine pl_t 64 (?_) (by rfl) ?_ rfl ?_
        rotate_left
        ·go_simp
         try with_reducible rfl
        simp only [nz]
        refine pl_t 65 (?_) (by rfl) ?_ rfl ?_
        rotate_left
        ·go_simp
         try with_reducible rfl
        simp only [nz]
        refine pl_t 66 (.bool true) (by rfl) (by go_simp <;> (try simp) <;> (try omega)) rfl ?_
        simp only [nz]
        refine pl_t 67 (?_) (by rfl) ?_ rfl ?_
        rotate_left
        ·go_simp
         try with_reducible rfl
        simp only [nz]
        refine pl_t 68 (?_) (by rfl) ?_ rfl ?_
        rotate_left
        ·go_simp
         try with_reducible rfl
        simp only [nz]
        refine pl_t 69 (?_) (by rfl) ?_ rfl ?_
        rotate_left
        ·go_simp
         try with_reducible rfl
        simp only [nz]
        refine pl_t 70 (?_) (by rfl) ?_ rfl ?_
        rotate_left
        ·go_simp
         try with_reducible rfl
        simp only [nz]
        refine pl_t 71 (.int .i64 0) (by rfl) (pl_one rfl rfl hce Tryz.underlying3 rfl) rfl ?_
        simp only [nz]
        refine pl_t 72 (.bool true) (by rfl) (by go_simp <;> (try simp [hee])) rfl ?_
        simp only [nz]
        refine pl_t 73 (?_) (by rfl) ?_ rfl ?_
        rotate_left
        ·go_simp
         try with_reducible rfl
        simp only [nz]
        refine pl_nil ?_
        clear hce
        go_upto_region 20 with fail
        have V8 := HW.below ((Below.refl _ _).drew)
        refine hs_begin (S := (fun _ : World => True)) 8 rfl (by kernel_rfl) ?_
        obtain ⟨w8, hw8⟩ : ∃ W, wr.drew = W := ⟨_, rfl⟩
        rw [hw8] at V8 ⊢
        clear hw8
        have hS : (fun _ : World => True) w8 := trivial
        refine hs_t 0 76 (?_) rfl (by kernel_rfl) (by kernel_rfl) (by kernel_rfl) (by rfl) ?_ hS rfl ?_
        rotate_left
        ·intro w' hw
         go_simp
         try with_reducible rfl
        simp only [nz]
        refine hs_t 2 78 (?_) rfl (by kernel_rfl) (by kernel_rfl) (by kernel_rfl) (by rfl) ?_ hS rfl ?_
        rotate_left
        ·intro w' hw
         go_simp
         try with_reducible rfl
        simp only [nz]
        refine hs_forkL (l := [1, 3]) (by kernel_rfl) (by simp) ?_
        intro ii hii
        simp only [List.mem_cons, List.not_mem_nil, or_false] at hii
        rcases hii with rfl | rfl
        ·refine st_run (i := 1) (d := some 77) (v := vp) (w' := w8) rfl (by rfl) (pl_one rfl rfl V8.cp Tryz.underlying34 rfl) rfl trivial ?_
         simp only [nz]
         refine hs_call (i := 3) (d := some 79) rfl (by kernel_rfl) (by rfl) (by go_simp; first | done | exact ⟨rfl, rfl⟩ | with_reducible rfl) rfl ?_
         refine (cE w8 V8.st).mono ?_
         rintro _ w6 ⟨rfl, S6, g6⟩
         refine ⟨_, rfl, trivial, ?_⟩
         simp only [nz]
         have V6 := V8.on g6 S6
         have hb7 : Below w6.heap.size w6 (w6.alloc (.cells [Value.int .i64 gx].toArray 3)) := (Below.refl _ _).alloc (Nat.le_refl _) _
         have r7 : (w6.alloc (.cells [Value.int .i64 gx].toArray 3)).rangeAt w6.heap.size 0 [Value.int .i64 gx] := by simpa using range_new w6 ([Value.int .i64 gx]).toArray 3
         refine hs_run (i := 4) (d := some 80) (v := .slice (some ⟨w6.heap.size, 0, none⟩) 1 1) (w' := w6.alloc (.cells [Value.int .i64 gx].toArray 3)) rfl (by kernel_rfl) (by rfl) (ex_bsi rfl rfl (run_bsi _ _)) rfl trivial ?_
         simp only [nz]
         obtain ⟨w7, hw7⟩ : ∃ W, w6.alloc (.cells [Value.int .i64 gx].toArray 3) = W := ⟨_, rfl⟩
         rw [hw7] at hb7 r7 ⊢
         clear hw7
         have V7 := V6.below hb7
         refine hs_runX (i := 5) (d := some 81) rfl (by kernel_rfl) (by rfl) rfl (ex_app1 rfl rfl rfl Tryz.underlying34 hi hiz his (by rw [hib]; decide) rfl V7.po (by have := V7.lb; omega) r7 hul hone hle hzk) ?_
         rintro v9 w9 ⟨o9, g9, gb9⟩
         refine ⟨trivial, ?_⟩
         simp only [nz]
         refine hs_t 6 82 (?_) rfl (by kernel_rfl) (by kernel_rfl) (by kernel_rfl) (by rfl) ?_ hS rfl ?_
         rotate_left
         ·intro w' hw
          go_simp
          try with_reducible rfl
         simp only [nz]
         obtain ⟨tb9, V9⟩ := V7.appP hok g9 o9 gb9
         have hv9 : v9.cells = #[v9] ∧ v9.oneCell' = true := own_cell o9
         refine hs_store (i := 7) (w' := w9.setCells B 36 [v9]) rfl (by kernel_rfl) (by rfl) (ex_put1 (n := 37) rfl rfl rfl tb9 (by decide) iszIs hv9.1 hv9.2) rfl trivial ?_
         refine hs_done (by kernel_rfl) ?_
         have HL6 : Hid (Xp D w2 X B v1 v2 v3 dp vv (itR wiR s5 k).1 s6 (k2 + 1) (w9.setCells B 36 [v9])) := hide ⟨v9, by rw [E1.out]; exact V9⟩
         clear E1 HW o9 g9 gb9 tb9 hv9 V9 V7 V6 V8 r7 hb7 S6 g6 hok hle hul hone cE hS
         go_wp2_with fail
         go_roundw
         case rel => exact ⟨k2 + 1, by omega, by go_num, HL6⟩
         case measure => simp [intOf]; omega
        ·refine st_call (i := 3) (d := some 79) rfl (by rfl) (by go_simp; first | done | exact ⟨rfl, rfl⟩ | with_reducible rfl) rfl ?_
         refine (cE w8 V8.st).mono ?_
         rintro _ w6 ⟨rfl, S6, g6⟩
         refine ⟨_, rfl, trivial, ?_⟩
         simp only [nz]
         have V6 := V8.on g6 S6
         refine hs_forkL (l := [1, 4]) (by kernel_rfl) (by simp) ?_
         intro ii hii
         simp only [List.mem_cons, List.not_mem_nil, or_false] at hii
         rcases hii with rfl | rfl
         ·refine st_run (i := 1) (d := some 77) (v := vp) (w' := w6) rfl (by rfl) (pl_one rfl rfl V6.cp Tryz.underlying34 rfl) rfl trivial ?_
          simp only [nz]
          have hb7 : Below w6.heap.size w6 (w6.alloc (.cells [Value.int .i64 gx].toArray 3)) := (Below.refl _ _).alloc (Nat.le_refl _) _
          have r7 : (w6.alloc (.cells [Value.int .i64 gx].toArray 3)).rangeAt w6.heap.size 0 [Value.int .i64 gx] := by simpa using range_new w6 ([Value.int .i64 gx]).toArray 3
          refine hs_run (i := 4) (d := some 80) (v := .slice (some ⟨w6.heap.size, 0, none⟩) 1 1) (w' := w6.alloc (.cells [Value.int .i64 gx].toArray 3)) rfl (by kernel_rfl) (by rfl) (ex_bsi rfl rfl (run_bsi _ _)) rfl trivial ?_
          simp only [nz]
          obtain ⟨w7, hw7⟩ : ∃ W, w6.alloc (.cells [Value.int .i64 gx].toArray 3) = W := ⟨_, rfl⟩
          rw [hw7] at hb7 r7 ⊢
          clear hw7
          have V7 := V6.below hb7
          refine hs_runX (i := 5) (d := some 81) rfl (by kernel_rfl) (by rfl) rfl (ex_app1 rfl rfl rfl Tryz.underlying34 hi hiz his (by rw [hib]; decide) rfl V7.po (by have := V7.lb; omega) r7 hul hone hle hzk) ?_
          rintro v9 w9 ⟨o9, g9, gb9⟩
          refine ⟨trivial, ?_⟩
          simp only [nz]
          refine hs_t 6 82 (?_) rfl (by kernel_rfl) (by kernel_rfl) (by kernel_rfl) (by rfl) ?_ hS rfl ?_
          rotate_left
          ·intro w' hw
           go_simp
           try with_reducible rfl
          simp only [nz]
          obtain ⟨tb9, V9⟩ := V7.appP hok g9 o9 gb9
          have hv9 : v9.cells = #[v9] ∧ v9.oneCell' = true := own_cell o9
          refine hs_store (i := 7) (w' := w9.setCells B 36 [v9]) rfl (by kernel_rfl) (by rfl) (ex_put1 (n := 37) rfl rfl rfl tb9 (by decide) iszIs hv9.1 hv9.2) rfl trivial ?_
          refine hs_done (by kernel_rfl) ?_
          have HL6 : Hid (Xp D w2 X B v1 v2 v3 dp vv (itR wiR s5 k).1 s6 (k2 + 1) (w9.setCells B 36 [v9])) := hide ⟨v9, by rw [E1.out]; exact V9⟩
          clear E1 HW o9 g9 gb9 tb9 hv9 V9 V7 V6 V8 r7 hb7 S6 g6 hok hle hul hone cE hS
          go_wp2_with fail
          go_roundw
          case rel => exact ⟨k2 + 1, by omega, by go_num, HL6⟩
          case measure => simp [intOf]; omega
         ·have hb7 : Below w6.heap.size w6 (w6.alloc (.cells [Value.int .i64 gx].toArray 3)) := (Below.refl _ _).alloc (Nat.le_refl _) _
          have r7 : (w6.alloc (.cells [Value.int .i64 gx].toArray 3)).rangeAt w6.heap.size 0 [Value.int .i64 gx] := by simpa using range_new w6 ([Value.int .i64 gx]).toArray 3
          refine st_run (i := 4) (d := some 80) (v := .slice (some ⟨w6.heap.size, 0, none⟩) 1 1) (w' := w6.alloc (.cells [Value.int .i64 gx].toArray 3)) rfl (by rfl) (ex_bsi rfl rfl (run_bsi _ _)) rfl trivial ?_
          simp only [nz]
          obtain ⟨w7, hw7⟩ : ∃ W, w6.alloc (.cells [Value.int .i64 gx].toArray 3) = W := ⟨_, rfl⟩
          rw [hw7] at hb7 r7 ⊢
          clear hw7
          have V7 := V6.below hb7
          refine hs_run (i := 1) (d := some 77) (v := vp) (w' := w7) rfl (by kernel_rfl) (by rfl) (pl_one rfl rfl V7.cp Tryz.underlying34 rfl) rfl trivial ?_
          simp only [nz]
          refine hs_runX (i := 5) (d := some 81) rfl (by kernel_rfl) (by rfl) rfl (ex_app1 rfl rfl rfl Tryz.underlying34 hi hiz his (by rw [hib]; decide) rfl V7.po (by have := V7.lb; omega) r7 hul hone hle hzk) ?_
          rintro v9 w9 ⟨o9, g9, gb9⟩
          refine ⟨trivial, ?_⟩
          simp only [nz]
          refine hs_t 6 82 (?_) rfl (by kernel_rfl) (by kernel_rfl) (by kernel_rfl) (by rfl) ?_ hS rfl ?_
          rotate_left
          ·intro w' hw
           go_simp
           try with_reducible rfl
          simp only [nz]
          obtain ⟨tb9, V9⟩ := V7.appP hok g9 o9 gb9
          have hv9 : v9.cells = #[v9] ∧ v9.oneCell' = true := own_cell o9
          refine hs_store (i := 7) (w' := w9.setCells B 36 [v9]) rfl (by kernel_rfl) (by rfl) (ex_put1 (n := 37) rfl rfl rfl tb9 (by decide) iszIs hv9.1 hv9.2) rfl trivial ?_
          refine hs_done (by kernel_rfl) ?_
          have HL6 : Hid (Xp D w2 X B v1 v2 v3 dp vv (itR wiR s5 k).1 s6 (k2 + 1) (w9.setCells B 36 [v9])) := hide ⟨v9, by rw [E1.out]; exact V9⟩
          clear E1 HW o9 g9 gb9 tb9 hv9 V9 V7 V6 V8 r7 hb7 S6 g6 hok hle hul hone cE hS
          go_wp2_with fail
          go_roundw
          case rel => exact ⟨k2 + 1, by omega, by go_num, HL6⟩
          case measure => simp [intOf]; omega
       ·have hst := itR_stop (one := nuR 1048592) (fun t h => by rw [nuR_err h]) s6 hk2 hee
        obtain ⟨ee, hee2⟩ : ∃ x, (itR (nuR 1048592) s6 k2).2.2 = x := ⟨_, rfl⟩
        rw [hee2] at hce
        have hee3 : ¬ ee = 0 := by rw [← hee2]; exact hee
        have hne := hee
        obtain ⟨sF, hsF⟩ : ∃ t, (itR (nuR 1048592) s6 k2).2 = t := ⟨_, rfl⟩
        rw [hsF] at hne hst
        have HX := HW
        rw [hsF] at HX
        have HS : Hid (RR.2 = sF) := hide (by
         rw [← HRR.out]
         simp only
         rw [HE6.out]
         simp only [Int.toNat_natCast]
         exact hst)
        have HNE : Hid (¬ doneE sF.1 sF.2 = 0) := hide (by unfold doneE; rw [if_neg hne]; exact hne)
        have hee : (ee == 0) = false := by simpa using hee3
        clear hst hee2 hee3 hsF hne HW
        go_upto_region 18 with fail
        try simp only [Act.put]
        refine pl_begin ?_
        refine pl_t 64 (?_) (by rfl) ?_ rfl ?_
        rotate_left
        ·go_simp
         try with_reducible rfl
        simp only [nz]
        refine pl_t 65 (?_) (by rfl) ?_ rfl ?_
        rotate_left
        ·go_simp
         try with_reducible rfl
        simp only [nz]
        refine pl_t 66 (.bool true) (by rfl) (by go_simp <;> (try simp) <;> (try omega)) rfl ?_
        simp only [nz]
        refine pl_t 67 (?_) (by rfl) ?_ rfl ?_
        rotate_left
        ·go_simp
         try with_reducible rfl
        simp only [nz]
        refine pl_t 68 (?_) (by rfl) ?_ rfl ?_
        rotate_left
        ·go_simp
         try with_reducible rfl
        simp only [nz]
        refine pl_t 69 (?_) (by rfl) ?_ rfl ?_
        rotate_left
        ·go_simp
         try with_reducible rfl
        simp only [nz]
        refine pl_t 70 (?_) (by rfl) ?_ rfl ?_
        rotate_left
        ·go_simp
         try with_reducible rfl
        simp only [nz]
        refine pl_t 71 (.int .i64 ee) (by rfl) (pl_one rfl rfl hce Tryz.underlying3 rfl) rfl ?_
        simp only [nz]
        refine pl_t 72 (.bool false) (by rfl) (by go_simp <;> (try simp [hee])) rfl ?_
        simp only [nz]
        refine pl_t 73 (?_) (by rfl) ?_ rfl ?_
        rotate_left
        ·go_simp
         try with_reducible rfl
        simp only [nz]
        refine pl_nil ?_
        clear hce hee k1
        have HX7w := HX.gr
        go_upto_region 21 with fail
        try simp only [Act.put]
        refine pl_begin ?_
        refine pl_t 83 (?_) (by rfl) ?_ rfl ?_
        rotate_left
        ·go_simp
         try with_reducible rfl
        simp only [nz]
        refine pl_call (d := some 84) (by rfl) (by go_simp; first | done | exact ⟨rfl, rfl⟩ | with_reducible rfl) rfl ?_
        refine (xdoneS D X _ _ HX.st).mono ?_
        rintro _ w7 ⟨rfl, hb7⟩
        refine ⟨_, rfl, ?_⟩
        simp only [nz]
        refine pl_t 13 (?_) (by rfl) ?_ rfl ?_
        rotate_left
        ·go_simp
         try with_reducible rfl
        simp only [nz]
        refine pl_nil ?_
        have HX7 := HX.below hb7
        have B7 : Below w.heap.size w w7 := below_gbX B3 HX7.gr HXw.out
        have th7 : w7.there A 0 37 := there_gbR tA3 HX7.gr HAs.out.1 HAs.out.2.1
        have rc7 : w7.rangeAt C 0 u := range_gbR rc3 HX7.gr HAs.out.2.2.1 HAs.out.2.2.2
        obtain ⟨d, hd_⟩ : ∃ d, Hid (doneE sF.1 sF.2 = d) := ⟨_, hide rfl⟩
        simp only [hd_.out]
        clear HX hb7 HX7w
        by_cases hd : d = 0
        rotate_left
        ·have hdb : (d == 0) = false := by simpa using hd
         have hdn : (d != 0) = true := by simpa using hd
         have HPE : Hid (PP = (Sp.zero, d)) := hide (by rw [HP.out, HS.out, hd_.out, if_pos hd])
         clear hd HX7 rc7
         go_upto_region 22 with fail
         try simp only [Act.put]
         refine pl_begin ?_
         refine pl_t 85 (?_) (by rfl) ?_ rfl ?_
         rotate_left
         ·go_simp
          try with_reducible rfl
         simp only [nz]
         refine pl_t 86 (.bool false) (by rfl) (by go_simp <;> (try simp [*])) rfl ?_
         simp only [nz]
         refine pl_t 87 (?_) (by rfl) ?_ rfl ?_
         rotate_left
         ·go_simp
          try with_reducible rfl
         simp only [nz]
         refine pl_skip (d := some 88) (by rfl) rfl ?_
         simp only [nz]
         refine pl_skip (d := some 89) (by rfl) rfl ?_
         simp only [nz]
         refine pl_skip (d := some 90) (by rfl) rfl ?_
         simp only [nz]
         refine pl_skip (d := some 91) (by rfl) rfl ?_
         simp only [nz]
         refine pl_t 92 (?_) (by rfl) ?_ rfl ?_
         rotate_left
         ·go_simp
          try with_reducible rfl
         simp only [nz]
         refine pl_nil ?_
         go_upto_region 24 with fail
         try simp only [Act.put]
         refine pl_begin ?_
         refine pl_t 93 (?_) (by rfl) ?_ rfl ?_
         rotate_left
         ·go_simp
          try with_reducible rfl
         simp only [nz]
         refine pl_t 94 (.bool true) (by rfl) (by go_simp <;> (try simp [*])) rfl ?_
         simp only [nz]
         refine pl_nil ?_
         go_upto_region 25 with fail
         try simp only [Act.put]
         refine pl_begin ?_
         refine pl_t 95 (.agg zc.toArray) (by rfl) (ex_build (parts := []) rfl rfl (hbn _)) rfl ?_
         simp only [nz]
         refine pl_t 96 (?_) (by rfl) ?_ rfl ?_
         rotate_left
         ·go_simp
          try with_reducible rfl
         simp only [nz]
         refine pl_store (w' := w7.setCells A 0 zc) (by rfl) (ex_put (cs := zc.toArray) rfl rfl rfl (by simpa [hzl] using th7) (by simpa [hzl] using iszSt) (all_one hz1)) rfl ?_
         refine pl_t 5 (?_) (by rfl) ?_ rfl ?_
         rotate_left
         ·go_simp
          try with_reducible rfl
         simp only [nz]
         refine pl_nil ?_
         have hrs := run_loadVar_mid (P := Tryz.prog) (w7.setCells A 0 zc) A 0 36 zc _ (World.rangeAt_setCells_same w7 A 0 zc (by rw [hzl]; exact th7)) Tryz.underlying36 rfl (by rw [hzl]; exact iszSt)
         have HF : Hid (ParsA w PP (.returned (.tuple #[.agg zc.toArray, .int .i64 d])) (w7.setCells A 0 zc)) := hide (by
          rw [HPE.out]
          exact pars_out (x := Stt.zero) hz0.out.symm HA.out B7 rfl rfl Stt.zero_ok (Stt.zero_at _) (Stt.zero_lo _))
         clear th7 B7 HPE
         go_wp2_with fail
         refine bodyPost_ret (results_ct rfl _ _ _ rfl hrs) rfl ?_
         exact HF.out
        ·subst hd
         exfalso
         exact HNE.out hd_.out
      ·have k1 : ¬ ((k2 : Int) < M) := by omega
       obtain ⟨pv, HX⟩ := HQ.out
       clear HQ
       have hk2 : k2 = M := by omega
       subst hk2
       have hpl := itR_length (nuR 1048592) s6 k2
       obtain ⟨sF, hsF⟩ : ∃ t, (itR (nuR 1048592) s6 k2).2 = t := ⟨_, rfl⟩
       rw [hsF] at HX
       have HS : Hid (RR.2 = sF) := hide (by rw [← HRR.out]; simp only; rw [HE6.out]; simp only [Int.toNat_natCast]; exact hsF)
       have HRR1 : RR.1 = ⟨v1, v2, v3, pad32 dd, (itR wiR s5 k).1, (itR (nuR 1048592) s6 k2).1⟩ := by rw [← HRR.out]; simp only; rw [HE6.out]; simp only [Int.toNat_natCast]
       have b1 := HB1.out
       have b2 := HB2.out
       have b3 := HB3.out
       clear hsF HE6
       go_upto_region 18 with fail
       try simp only [Act.put]
       refine pl_begin ?_
       refine pl_t 64 (?_) (by rfl) ?_ rfl ?_
       rotate_left
       ·go_simp
        try with_reducible rfl
       simp only [nz]
       refine pl_t 65 (?_) (by rfl) ?_ rfl ?_
       rotate_left
       ·go_simp
        try with_reducible rfl
       simp only [nz]
       refine pl_t 66 (.bool false) (by rfl) (by go_simp <;> (try simp) <;> (try omega)) rfl ?_
       simp only [nz]
       refine pl_t 67 (?_) (by rfl) ?_ rfl ?_
       rotate_left
       ·go_simp
        try with_reducible rfl
       simp only [nz]
       refine pl_skip (d := some 68) (by rfl) rfl ?_
       simp only [nz]
       refine pl_skip (d := some 69) (by rfl) rfl ?_
       simp only [nz]
       refine pl_skip (d := some 70) (by rfl) rfl ?_
       simp only [nz]
       refine pl_skip (d := some 71) (by rfl) rfl ?_
       simp only [nz]
       refine pl_skip (d := some 72) (by rfl) rfl ?_
       simp only [nz]
       refine pl_t 73 (?_) (by rfl) ?_ rfl ?_
       rotate_left
       ·go_simp
        try with_reducible rfl
       simp only [nz]
       refine pl_nil ?_
       have HRR1 : RR.1 = ⟨v1, v2, v3, dp, (itR wiR s5 k).1, (itR (nuR 1048592) s6 k2).1⟩ := by rw [HRR1, Hdp.out]
       have HX7w := HX.gr
       go_upto_region 21 with fail
       try simp only [Act.put]
       refine pl_begin ?_
       refine pl_t 83 (?_) (by rfl) ?_ rfl ?_
       rotate_left
       ·go_simp
        try with_reducible rfl
       simp only [nz]
       refine pl_call (d := some 84) (by rfl) (by go_simp; first | done | exact ⟨rfl, rfl⟩ | with_reducible rfl) rfl ?_
       refine (xdoneS D X _ _ HX.st).mono ?_
       rintro _ w7 ⟨rfl, hb7⟩
       refine ⟨_, rfl, ?_⟩
       simp only [nz]
       refine pl_t 13 (?_) (by rfl) ?_ rfl ?_
       rotate_left
       ·go_simp
        try with_reducible rfl
       simp only [nz]
       refine pl_nil ?_
       have HX7 := HX.below hb7
       have B7 : Below w.heap.size w w7 := below_gbX B3 HX7.gr HXw.out
       have th7 : w7.there A 0 37 := there_gbR tA3 HX7.gr HAs.out.1 HAs.out.2.1
       have rc7 : w7.rangeAt C 0 u := range_gbR rc3 HX7.gr HAs.out.2.2.1 HAs.out.2.2.2
       obtain ⟨d, hd_⟩ : ∃ d, Hid (doneE sF.1 sF.2 = d) := ⟨_, hide rfl⟩
       simp only [hd_.out]
       clear HX hb7 HX7w
       by_cases hd : d = 0
       rotate_left
       ·have hdb : (d == 0) = false := by simpa using hd
        have hdn : (d != 0) = true := by simpa using hd
        have HPE : Hid (PP = (Sp.zero, d)) := hide (by rw [HP.out, HS.out, hd_.out, if_pos hd])
        clear hd HX7 rc7
        go_upto_region 22 with fail
        try simp only [Act.put]
        refine pl_begin ?_
        refine pl_t 85 (?_) (by rfl) ?_ rfl ?_
        rotate_left
        ·go_simp
         try with_reducible rfl
        simp only [nz]
        refine pl_t 86 (.bool false) (by rfl) (by go_simp <;> (try simp [*])) rfl ?_
        simp only [nz]
        refine pl_t 87 (?_) (by rfl) ?_ rfl ?_
        rotate_left
        ·go_simp
         try with_reducible rfl
        simp only [nz]
        refine pl_skip (d := some 88) (by rfl) rfl ?_
        simp only [nz]
        refine pl_skip (d := some 89) (by rfl) rfl ?_
        simp only [nz]
        refine pl_skip (d := some 90) (by rfl) rfl ?_
        simp only [nz]
        refine pl_skip (d := some 91) (by rfl) rfl ?_
        simp only [nz]
        refine pl_t 92 (?_) (by rfl) ?_ rfl ?_
        rotate_left
        ·go_simp
         try with_reducible rfl
        simp only [nz]
        refine pl_nil ?_
        go_upto_region 24 with fail
        try simp only [Act.put]
        refine pl_begin ?_
        refine pl_t 93 (?_) (by rfl) ?_ rfl ?_
        rotate_left
        ·go_simp
         try with_reducible rfl
        simp only [nz]
        refine pl_t 94 (.bool true) (by rfl) (by go_simp <;> (try simp [*])) rfl ?_
        simp only [nz]
        refine pl_nil ?_
        go_upto_region 25 with fail
        try simp only [Act.put]
        refine pl_begin ?_
        refine pl_t 95 (.agg zc.toArray) (by rfl) (ex_build (parts := []) rfl rfl (hbn _)) rfl ?_
        simp only [nz]
        refine pl_t 96 (?_) (by rfl) ?_ rfl ?_
        rotate_left
        ·go_simp
         try with_reducible rfl
        simp only [nz]
        refine pl_store (w' := w7.setCells A 0 zc) (by rfl) (ex_put (cs := zc.toArray) rfl rfl rfl (by simpa [hzl] using th7) (by simpa [hzl] using iszSt) (all_one hz1)) rfl ?_
        refine pl_t 5 (?_) (by rfl) ?_ rfl ?_
        rotate_left
        ·go_simp
         try with_reducible rfl
        simp only [nz]
        refine pl_nil ?_
        have hrs := run_loadVar_mid (P := Tryz.prog) (w7.setCells A 0 zc) A 0 36 zc _ (World.rangeAt_setCells_same w7 A 0 zc (by rw [hzl]; exact th7)) Tryz.underlying36 rfl (by rw [hzl]; exact iszSt)
        have HF : Hid (ParsA w PP (.returned (.tuple #[.agg zc.toArray, .int .i64 d])) (w7.setCells A 0 zc)) := hide (by
         rw [HPE.out]
         exact pars_out (x := Stt.zero) hz0.out.symm HA.out B7 rfl rfl Stt.zero_ok (Stt.zero_at _) (Stt.zero_lo _))
        clear th7 B7 HPE
        go_wp2_with fail
        refine bodyPost_ret (results_ct rfl _ _ _ rfl hrs) rfl ?_
        exact HF.out
       ·subst hd
        obtain ⟨x, xc, xs, xo, xa, xl⟩ := HX7.done ⟨by show _ ≤ v1; omega, by show v1 ≤ _; omega⟩ ⟨by show _ ≤ v2; omega, by show v2 ≤ _; omega⟩ ⟨by show _ ≤ v3; omega, by show v3 ≤ _; omega⟩ (by simp only; omega) (by simp only; omega)
        have rq := HX7.row
        rw [← xc] at rq
        have hxl : x.cells.length = 37 := Stt.len xo
        have hx1 := Stt.one x
        have hix : (Tryz.prog.info? 36).map (·.size) = some x.cells.length := by rw [hxl]; exact iszSt
        have cg := cG x w7 xo xa
        rw [Stt.good_sp, xs] at cg
        have xl' : x.Lo (A + 1) := xl.mono (by have := HAs.out.1; omega)
        have sB7 := HX7.lb
        obtain ⟨sp, hsp⟩ : ∃ p : Sp, Hid (RR.1 = p) := ⟨_, hide rfl⟩
        have hxs : x.sp = sp := by rw [xs, ← hsp.out, HRR1]
        rw [← HRR1, hsp.out] at cg
        clear HX7 xc xl
        obtain ⟨q, hq⟩ : ∃ q, Hid (x.cells = q) := ⟨_, hide rfl⟩
        rw [hq.out] at rq hxl hx1 hix
        simp only [hq.out] at cg
        go_upto_region 22 with fail
        try simp only [Act.put]
        refine pl_begin ?_
        refine pl_t 85 (?_) (by rfl) ?_ rfl ?_
        rotate_left
        ·go_simp
         try with_reducible rfl
        simp only [nz]
        refine pl_t 86 (.bool true) (by rfl) (by go_simp) rfl ?_
        simp only [nz]
        refine pl_t 87 (?_) (by rfl) ?_ rfl ?_
        rotate_left
        ·go_simp
         try with_reducible rfl
        simp only [nz]
        refine pl_t 88 (.agg u.toArray) (by rfl) (ex_mid rfl rfl rc7 Tryz.underlying23 rfl iu) rfl ?_
        simp only [nz]
        refine pl_t 89 (.agg q.toArray) (by rfl) (ex_mid rfl rfl rq Tryz.underlying36 rfl hix) rfl ?_
        simp only [nz]
        refine pl_call (d := some 90) (by rfl) (by go_simp; first | done | exact ⟨rfl, rfl⟩ | with_reducible rfl) rfl ?_
        refine (cg).mono ?_
        rintro _ w9 ⟨rfl, hb9⟩
        refine ⟨_, rfl, ?_⟩
        simp only [nz]
        have B9 := B7.trans (hb9.mono B7.size)
        have th9 := there_below th7 hb9 (by have := HAs.out.1; have := sB7; have := HXB.out; omega)
        have rq9 := range_below rq hb9 sB7
        have xa9 := xa.below hb9
        obtain ⟨g, hg⟩ : ∃ g, Hid (sp.good c = g) := ⟨_, hide rfl⟩
        simp only [hg.out]
        clear th7 rc7 rq hb9 B7 cg xa
        cases g
        ·have HPE : Hid (PP = (Sp.zero, 220)) := hide (by rw [HP.out, HS.out, hd_.out, if_neg (by simp), hsp.out, hg.out, if_neg (by simp)])
         clear hg rq9 xa9
         refine pl_t 91 (.bool true) (by rfl) (by go_simp <;> (try simp [*])) rfl ?_
         simp only [nz]
         refine pl_t 92 (?_) (by rfl) ?_ rfl ?_
         rotate_left
         ·go_simp
          try with_reducible rfl
         simp only [nz]
         refine pl_nil ?_
         go_upto_region 23 with fail
         try simp only [Act.put]
         refine pl_begin ?_
         refine pl_t 13 (?_) (by rfl) ?_ rfl ?_
         rotate_left
         ·go_simp
          try with_reducible rfl
         simp only [nz]
         refine pl_nil ?_
         go_upto_region 24 with fail
         try simp only [Act.put]
         refine pl_begin ?_
         refine pl_t 93 (?_) (by rfl) ?_ rfl ?_
         rotate_left
         ·go_simp
          try with_reducible rfl
         simp only [nz]
         refine pl_t 94 (.bool true) (by rfl) (by go_simp <;> (try simp [*])) rfl ?_
         simp only [nz]
         refine pl_nil ?_
         go_upto_region 25 with fail
         try simp only [Act.put]
         refine pl_begin ?_
         refine pl_t 95 (.agg zc.toArray) (by rfl) (ex_build (parts := []) rfl rfl (hbn _)) rfl ?_
         simp only [nz]
         refine pl_t 96 (?_) (by rfl) ?_ rfl ?_
         rotate_left
         ·go_simp
          try with_reducible rfl
         simp only [nz]
         refine pl_store (w' := w9.setCells A 0 zc) (by rfl) (ex_put (cs := zc.toArray) rfl rfl rfl (by simpa [hzl] using th9) (by simpa [hzl] using iszSt) (all_one hz1)) rfl ?_
         refine pl_t 5 (?_) (by rfl) ?_ rfl ?_
         rotate_left
         ·go_simp
          try with_reducible rfl
         simp only [nz]
         refine pl_nil ?_
         have hrs := run_loadVar_mid (P := Tryz.prog) (w9.setCells A 0 zc) A 0 36 zc _ (World.rangeAt_setCells_same w9 A 0 zc (by rw [hzl]; exact th9)) Tryz.underlying36 rfl (by rw [hzl]; exact iszSt)
         have HF : Hid (ParsA w PP (.returned (.tuple #[.agg zc.toArray, .int .i64 220])) (w9.setCells A 0 zc)) := hide (by
          rw [HPE.out]
          exact pars_out (x := Stt.zero) hz0.out.symm HA.out B9 rfl rfl Stt.zero_ok (Stt.zero_at _) (Stt.zero_lo _))
         clear th9 B9 HPE
         go_wp2_with fail
         refine bodyPost_ret (results_ct rfl _ _ _ rfl hrs) rfl ?_
         exact HF.out
        ·have HPE : Hid (PP = (sp, 0)) := hide (by rw [HP.out, HS.out, hd_.out, if_neg (by simp), hsp.out, if_pos hg.out])
         clear hg
         refine pl_t 91 (.bool false) (by rfl) (by go_simp <;> (try simp [*])) rfl ?_
         simp only [nz]
         refine pl_t 92 (?_) (by rfl) ?_ rfl ?_
         rotate_left
         ·go_simp
          try with_reducible rfl
         simp only [nz]
         refine pl_nil ?_
         go_upto_region 24 with fail
         try simp only [Act.put]
         refine pl_begin ?_
         refine pl_t 93 (?_) (by rfl) ?_ rfl ?_
         rotate_left
         ·go_simp
          try with_reducible rfl
         simp only [nz]
         refine pl_t 94 (.bool false) (by rfl) (by go_simp) rfl ?_
         simp only [nz]
         refine pl_nil ?_
         go_upto_region 26 with fail
         try simp only [Act.put]
         refine pl_begin ?_
         refine pl_t 97 (.agg q.toArray) (by rfl) (ex_mid rfl rfl rq9 Tryz.underlying36 rfl hix) rfl ?_
         simp only [nz]
         refine pl_store (w' := w9.setCells A 0 q) (by rfl) (ex_put (cs := q.toArray) rfl rfl rfl (by simpa [hxl] using th9) (by simpa using hix) (all_one hx1)) rfl ?_
         refine pl_t 5 (?_) (by rfl) ?_ rfl ?_
         rotate_left
         ·go_simp
          try with_reducible rfl
         simp only [nz]
         refine pl_nil ?_
         have hrs := run_loadVar_mid (P := Tryz.prog) (w9.setCells A 0 q) A 0 36 q _ (World.rangeAt_setCells_same w9 A 0 q (by rw [hxl]; exact th9)) Tryz.underlying36 rfl (by rw [hxl]; exact iszSt)
         have HF : Hid (ParsA w PP (.returned (.tuple #[.agg q.toArray, .int .i64 0])) (w9.setCells A 0 q)) := hide (by
          rw [HPE.out]
          exact pars_out (x := x) hq.out HA.out B9 rfl hxs xo xa9 xl')
         clear rq9 B9 th9 xa9 HPE
         go_wp2_with fail
         refine bodyPost_ret (results_ct rfl _ _ _ rfl hrs) rfl ?_
         exact HF.out
end Go.Proofs.YtnfijfnnpbenfaaGreatDoor
