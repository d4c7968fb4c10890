/- the journal's Frames; the journal's contents: turn and records of an area; a journal: Sync, Append; a journal: an area is filled anew; a journal: Lay -/
import Derived.Test.YtfkchnjbbbhmjaaGreatXP7
import Derived.Test.YtfkchnjbbbhmjaaGreatXP2
import Derived.RangeFuncBox
import Derived.Sort.CutIn
import Derived.Shelf.Abstract
import Derived.Test.YtfkchnjbbbhmjaaGreatXP6
namespace Go.Proofs.YtfkchnjbbbhmjaaGreat.Ty
open Go Go.RowKit Go.Shelf
open Tal
attribute [local go_sem] Oper.semAt_some
theorem fitting_in (m : Nat) (a : Option Addr) (len cap : Nat) (w : World) :
    CallsIn Fence.wide m Tryz.prog 95 #[.slice a len cap] w fun e w' => e = .returned (.func (.func 104) #[] #[.pointer (some ⟨w.heap.size, 0, none⟩)]) ∧ w' = w.alloc (.cells #[.slice a len cap] 35) := by
  refine callsIn_of_wp Tryz.func95 rfl trivial ?_ rfl
  simp only [Tryz.ntmps95, List.size_toArray, List.length_cons, List.length_nil, Nat.reduceAdd, Nat.reduceSub, Array.replicate_succ, Array.replicate_zero, List.push_toArray, List.append_toArray, List.nil_append, List.cons_append]
  gi_wp2
  go_ret
  exact ⟨rfl, rfl⟩
/-- what Frames tells: kinds and records, the records in blocks of their own -/
def FramesJ (B : Nat) (fs : List Fr) (e : Ending) (w : World) : Prop :=
  ∃ vk vr rs, e = .returned (.tuple #[vk, vr]) ∧ Out B w vk vr (fs.map Fr.k) rs rs ∧ rs.map Rc.zs = fs.map Fr.zs ∧ ∀ x ∈ rs, x.zs.length ≤ x.cap ∧ x.cap ≤ maxLen ∧ ∀ ad, x.a = some ad → B ≤ ad.block
/-- what the loop's body may touch -/
def ownF (B1 B2 : Nat) (W : World) (b : Nat) : Prop := b = B1 ∨ b = B2 ∨ (∃ v, W.cell? ⟨B1, 0, none⟩ = some v ∧ v.ownBlock = some b) ∨ (∃ v, W.cell? ⟨B2, 0, none⟩ = some v ∧ v.ownBlock = some b)
def Fx.good (x : Fx) : Bool := decide (x.k = 68) || (decide (x.k = 71) && decide (turnN x.r.zs ≠ 0))
structure FIv (n1 B1 B2 : Nat) (w : World) (pre : List Fx) (W : World) (vk vr : Value) : Prop where
  b1 : Boxed W B1 35 vk
  b2 : Boxed W B2 36 vr
  out : Out n1 W vk vr (pre.map Fx.k) (pre.map Fx.r) (pre.map Fx.r)
  low : Below w.heap.size w W
  xs : ∀ x ∈ pre, x.good = true ∧ x.r.zs.length ≤ x.r.cap ∧ x.r.cap ≤ maxLen ∧ ∀ ad, x.r.a = some ad → n1 ≤ ad.block
def ownV (B1 B2 : Nat) (vk vr : Value) (b : Nat) : Prop := b = B1 ∨ b = B2 ∨ vk.ownBlock = some b ∨ vr.ownBlock = some b
theorem own_iff {B1 B2 : Nat} {W : World} {vk vr : Value} {t1 t2 : TypeId} (h1 : Boxed W B1 t1 vk) (h2 : Boxed W B2 t2 vr) (b : Nat) : ownF B1 B2 W b ↔ ownV B1 B2 vk vr b := by
  constructor
  · rintro (q | q | ⟨v, q1, q2⟩ | ⟨v, q1, q2⟩)
    · exact .inl q
    · exact .inr (.inl q)
    · rw [h1.cell] at q1; cases q1; exact .inr (.inr (.inl q2))
    · rw [h2.cell] at q1; cases q1; exact .inr (.inr (.inr q2))
  · rintro (q | q | q | q)
    · exact .inl q
    · exact .inr (.inl q)
    · exact .inr (.inr (.inl ⟨_, h1.cell, q⟩))
    · exact .inr (.inr (.inr ⟨_, h2.cell, q⟩))
theorem Out.grown {B : Nat} {w w' : World} {vk vr : Value} {ks : List Int} {rs xs : List Rc} {row : Option Nat} (h : Out B w vk vr ks rs xs) (hg : w.grownBy w' row) (h1 : ∀ r, row = some r → vk.ownBlock ≠ some r ∧ vr.ownBlock ≠ some r ∧ ∀ x ∈ xs, x.zs ≠ [] → ∀ ad, x.a = some ad → ad.block ≠ r) : Out B w' vk vr ks rs xs := by
  have ob : ∀ v : Value, (∀ r, row = some r → v.ownBlock ≠ some r) → v.ownBlock = none ∨ v.ownBlock ≠ row := fun v hv => by
    cases hb : v.ownBlock with
    | none => exact .inl rfl
    | some g => exact .inr (fun q => hv g q.symm hb)
  refine ⟨h.k.kept hg ?_, h.kb, h.r.kept hg ?_, h.ap, fun x hx => ?_, fun x hx ad q => ⟨Nat.lt_of_lt_of_le (h.off x hx ad q).1 hg.size, (h.off x hx ad q).2⟩⟩
  · exact ob vk (fun r e => (h1 r e).1)
  · exact ob vr (fun r e => (h1 r e).2.1)
  · have hr := h.rows x hx
    by_cases hz : x.zs = []
    · exact ⟨hr.1, hr.2.1, .inl hz⟩
    · exact RowAt_gbo hr hg (fun ad q e => (h1 _ e).2.2 x hx hz ad q rfl)
theorem Out.cells {B : Nat} {w : World} {vk vr : Value} {ks : List Int} {rs xs : List Rc} (h : Out B w vk vr ks rs xs) {b : Nat} (q : vk.ownBlock = some b ∨ vr.ownBlock = some b) : ∃ o : Obj, w.heap[b]? = some o ∧ o.isCells = true := by
  rcases q with q | q
  · rcases h.k.2 with ⟨e, _⟩ | ⟨g, c, cur, e, _, hg, _⟩
    · rw [e] at q; cases q
    · rw [e] at q; cases q; exact ⟨_, hg, rfl⟩
  · rcases h.r.2 with ⟨e, _⟩ | ⟨g, c, cur, e, _, hg, _⟩
    · rw [e] at q; cases q
    · rw [e] at q; cases q; exact ⟨_, hg, rfl⟩
def FIs (n1 B1 B2 : Nat) (w : World) (pre : List Fx) (W : World) : Prop := ∃ vk vr, FIv n1 B1 B2 w pre W vk vr
def FXs (n1 B1 B2 : Nat) (w : World) (c : Code) (xs : List Fx) (W : World) : Prop := c = .exit 0 ∧ ∃ (mm : List Fx) (x : Fx) (vk vr : Value), xs = mm ++ [x] ∧ FIv n1 B1 B2 w mm W vk vr ∧ x.good = false
theorem FIs.mk {n1 B1 B2 : Nat} {w : World} {pre : List Fx} {W : World} {vk vr : Value} (h : FIv n1 B1 B2 w pre W vk vr) : FIs n1 B1 B2 w pre W := ⟨vk, vr, h⟩
theorem FXs.mk {n1 B1 B2 : Nat} {w : World} {mm : List Fx} {x : Fx} {W : World} {vk vr : Value} (h : FIv n1 B1 B2 w mm W vk vr) (hx : x.good = false) : FXs n1 B1 B2 w (.exit 0) (mm ++ [x]) W := ⟨rfl, mm, x, vk, vr, rfl, h, hx⟩
theorem takes_all {good : Fr → Bool} {goodX : Fx → Bool} (hg : ∀ f x, Fr.key f = Fx.key x → good f = goodX x) : ∀ (fs : List Fr) (mm : List Fx), mm.map Fx.key = fs.map Fr.key → (∀ x ∈ mm, goodX x = true) → (fs.takeWhile good).map Fr.key = mm.map Fx.key
  | [], [], _, _ => rfl
  | [], _ :: _, h, _ => by simp at h
  | _ :: _, [], h, _ => by simp at h
  | f :: fs, x :: mm, h, hx => by
    simp only [List.map_cons, List.cons.injEq] at h
    have h1 := hg f x h.1.symm
    rw [hx x (by simp)] at h1
    rw [List.takeWhile_cons_of_pos h1, List.map_cons, List.map_cons, takes_all hg fs mm h.2 (fun y hy => hx y (by simp [hy])), h.1]
theorem takes_some {good : Fr → Bool} {goodX : Fx → Bool} (hg : ∀ f x, Fr.key f = Fx.key x → good f = goodX x) : ∀ (fs : List Fr) (mm : List Fx) (x : Fx), (mm ++ [x]).map Fx.key <+: fs.map Fr.key → (∀ x ∈ mm, goodX x = true) → goodX x = false → (fs.takeWhile good).map Fr.key = mm.map Fx.key
  | [], [], x, h, _, _ => by simp at h
  | [], _ :: _, x, h, _, _ => by simp at h
  | f :: fs, [], x, h, _, hb => by
    simp only [List.nil_append, List.map_cons, List.map_nil, List.cons_prefix_cons] at h
    have h1 := hg f x h.1.symm
    rw [hb] at h1
    rw [List.takeWhile_cons_of_neg (by simp [h1])]
    rfl
  | f :: fs, y :: mm, x, h, hx, hb => by
    simp only [List.cons_append, List.map_cons, List.cons_prefix_cons] at h
    have h1 := hg f y h.1.symm
    rw [hx y (by simp)] at h1
    rw [List.takeWhile_cons_of_pos h1, List.map_cons, List.map_cons, takes_some hg fs mm x h.2 (fun z hz => hx z (by simp [hz])) hb, h.1]
theorem good_key (f : Fr) (x : Fx) (h : Fr.key f = Fx.key x) : f.good = x.good := by
  simp only [Fr.key, Fx.key, Prod.mk.injEq] at h
  unfold Fr.good Fx.good
  rw [h.1, h.2]
theorem results_cell2 {fn : Func} {p q : Tmp} {t u : TypeId} (h : fn.results = #[.cell p t, .cell q u]) (tmps : Array Value) (P : Program) (w : World) {a b : Addr} {v x : Value} (ha : tmps.getD p undef = .pointer (some a)) (hb : tmps.getD q undef = .pointer (some b)) (hv : (loadVar t a).run P w = .ok v w) (hx : (loadVar u b).run P w = .ok x w) :
    (results fn tmps).run P w = .ok (.tuple #[v, x]) w := by
  simp only [Array.getD_eq_getD_getElem?] at ha hb
  simp only [results, h]
  simp [Sem.run_bind, Result.andThen, ha, hb, asAddr, hv, hx]
theorem FIv.grown {n1 B1 B2 : Nat} {w : World} {pre : List Fx} {A B : World} {vk vr : Value} {row : Option Nat} (h : FIv n1 B1 B2 w pre A vk vr) (hw : w.heap.size ≤ n1) (hg : A.grownBy B row) (hr : ∀ r, row = some r → n1 ≤ r ∧ ¬ ownF B1 B2 A r ∧ ∀ x ∈ pre, ¬ x.blk r) :
    FIv n1 B1 B2 w pre B vk vr ∧ ∀ b, ownF B1 B2 B b → ownF B1 B2 A b := by
  have ho := own_iff h.b1 h.b2
  have hno : ∀ r, row = some r → ¬ ownV B1 B2 vk vr r := fun r e q => (hr r e).2.1 ((ho r).2 q)
  have b1 : Boxed B B1 35 vk := h.b1.kept hg (fun e => hno _ e.symm (.inl rfl))
  have b2 : Boxed B B2 36 vr := h.b2.kept hg (fun e => hno _ e.symm (.inr (.inl rfl)))
  refine ⟨⟨b1, b2, h.out.grown hg (fun r e => ⟨fun q => hno r e (.inr (.inr (.inl q))), fun q => hno r e (.inr (.inr (.inr q))), fun x hx hz ad q e2 => ?_⟩), h.low.grown hg h.low.size (fun k e => Nat.le_trans hw (hr k e).1), h.xs⟩, fun b q => (ho b).2 ((own_iff b1 b2 b).1 q)⟩
  obtain ⟨y, hy, rfl⟩ := List.mem_map.1 hx
  exact (hr r e).2.2 y hy ⟨hz, ad, q, e2⟩
theorem FIv.cellsOf {n1 B1 B2 : Nat} {w : World} {pre : List Fx} {A : World} {vk vr : Value} (h : FIv n1 B1 B2 w pre A vk vr) {b : Nat} (q : ownF B1 B2 A b) : ∃ o : Obj, A.heap[b]? = some o ∧ o.isCells = true := by
  rcases (own_iff h.b1 h.b2 b).1 q with q | q | q | q
  · subst q; exact ⟨_, h.b1, rfl⟩
  · subst q; exact ⟨_, h.b2, rfl⟩
  · exact h.out.cells (.inl q)
  · exact h.out.cells (.inr q)
theorem row_cell {w : World} {a : Option Addr} {zs : List Int} (h : RowAt w a zs) (hz : zs ≠ []) {ad : Addr} (q : a = some ad) : ∃ o : Obj, w.heap[ad.block]? = some o ∧ o.isCells = true := by
  have hl : 0 < zs.length := List.length_pos_iff.2 hz
  obtain ⟨b, off, e, -, hc, -, -⟩ := h.get 0 hl
  rw [q] at e
  cases e
  exact cells_of_cell hc
theorem FIv.blkOf {n1 B1 B2 : Nat} {w : World} {pre : List Fx} {A : World} {vk vr : Value} (h : FIv n1 B1 B2 w pre A vk vr) {x : Fx} (hx : x ∈ pre) {b : Nat} (q : x.blk b) : ∃ o : Obj, A.heap[b]? = some o ∧ o.isCells = true := by
  obtain ⟨hz, ad, q1, rfl⟩ := q
  exact row_cell (h.out.rows x.r (List.mem_map.2 ⟨x, hx, rfl⟩)) hz q1
theorem FIv.put {n1 B1 B2 : Nat} {w : World} {pre : List Fx} {A : World} {vk vr : Value} {l : Nat} {o o' : Obj} (h : FIv n1 B1 B2 w pre A vk vr) (hw : w.heap.size ≤ n1) (hl : n1 ≤ l) (ho : A.heap[l]? = some o) (hc : o.isCells = false) : FIv n1 B1 B2 w pre (A.putObj l o') vk vr := by
  refine (h.grown hw (grownBy_putObj' A l o') (fun r e => ?_)).1
  cases e
  refine ⟨hl, fun q => ?_, fun x hx q => ?_⟩
  · obtain ⟨o2, h2, h3⟩ := h.cellsOf q
    rw [ho] at h2; cases h2; rw [hc] at h3; cases h3
  · obtain ⟨o2, h2, h3⟩ := h.blkOf hx q
    rw [ho] at h2; cases h2; rw [hc] at h3; cases h3
theorem own_slice {w : World} {base : Nat} {e : TypeId} {v : Value} {n : Nat} {xs : List Value} (h : w.ownsRow base e 1 v n xs) (k : IntKind) (z : Int) : v ≠ .int k z := by
  rcases own_range h with ⟨q, -, -⟩ | ⟨g, cap, q, -⟩
  · rw [q]; simp
  · rw [q]; simp
theorem box_int {W : World} {B : Nat} {t : TypeId} {v : Value} (h : Boxed W B t v) (hv : ∀ k z, v ≠ .int k z) (o : Nat) (k : IntKind) (z : Int) : W.cell? ⟨B, o, none⟩ ≠ some (.int k z) := by
  intro q
  have e : W.cell? ⟨B, o, none⟩ = (#[v] : Array Value)[o]? := by simp [World.cell?, show W.heap[B]? = _ from h]
  rw [e] at q
  cases o with
  | zero => simp at q; exact hv k z q
  | succ o => simp at q
theorem XF.put {n1 B1 B2 : Nat} {x : Fx} {A : World} {l : Nat} {o o' : Obj} (h : XF n1 (ownF B1 B2) x A) (h1 : B1 < l) (h2 : B2 < l) (ho : A.heap[l]? = some o) (hc : o.isCells = false) : XF n1 (ownF B1 B2) x (A.putObj l o') := by
  have hg := grownBy_putObj' A l o'
  have hcell : ∀ B, B < l → (A.putObj l o').cell? ⟨B, 0, none⟩ = A.cell? ⟨B, 0, none⟩ := fun B hB => by
    simp only [World.cell?, World.putObj_heap_other (show B ≠ l by omega)]
  refine ⟨?_, h.k0, h.k1, h.le, h.lc, h.cm, fun ad q => ?_⟩
  · by_cases hz : x.r.zs = []
    · exact ⟨h.row.1, h.row.2.1, .inl hz⟩
    · refine RowAt_gbo h.row hg (fun ad q e => ?_)
      obtain ⟨o2, h3, h4⟩ := row_cell h.row hz q
      cases e
      rw [ho] at h3; cases h3; rw [hc] at h4; cases h4
  · obtain ⟨q1, q2, q3⟩ := h.off ad q
    refine ⟨q1, Nat.lt_of_lt_of_le q2 hg.size, fun q4 => q3 ?_⟩
    unfold ownF at q4 ⊢
    rw [hcell B1 h1, hcell B2 h2] at q4
    exact q4
theorem ownsRow_low {w : World} {base base' : Nat} {e : TypeId} {v : Value} {n : Nat} {xs : List Value} (h : w.ownsRow base e 1 v n xs) (hb : base' ≤ base) : w.ownsRow base' e 1 v n xs := by
  refine ⟨h.1, ?_⟩
  rcases h.2 with h | ⟨g, cap, cur, hv, hg, r⟩
  · exact .inl h
  · exact .inr ⟨g, cap, cur, hv, Nat.le_trans hb hg, r⟩
theorem Out.lower {B B' : Nat} {w : World} {vk vr : Value} {ks : List Int} {rs xs : List Rc} (h : Out B w vk vr ks rs xs) (hb : B' ≤ B) : Out B' w vk vr ks rs xs := ⟨ownsRow_low h.k hb, h.kb, ownsRow_low h.r hb, h.ap, h.rows, h.off⟩
theorem FIv.drew {n1 B1 B2 : Nat} {w : World} {pre : List Fx} {A : World} {vk vr : Value} (h : FIv n1 B1 B2 w pre A vk vr) (hw : w.heap.size ≤ n1) : FIv n1 B1 B2 w pre A.drew vk vr := (h.grown hw (gb_drew (gb_refl A none)) (fun r e => by cases e)).1
theorem FIv.store1 {n1 B1 B2 : Nat} {w : World} {pre : List Fx} {A : World} {vk vr : Value} (h : FIv n1 B1 B2 w pre A vk vr) (hn : B1 < n1) (hw : w.heap.size ≤ B1) (hne : B2 ≠ B1) : FIv n1 B1 B2 w pre (A.setCell ⟨B1, 0, none⟩ vk) vk vr :=
  ⟨h.b1.set vk, h.b2.other hne vk, h.out.grown (gb_set A B1 0 vk) (fun r e => by
    cases e
    refine ⟨fun q => by have := (h.out.k.lt _ q).1; omega, fun q => by have := (h.out.r.lt _ q).1; omega, fun x hx hz ad q e2 => ?_⟩
    obtain ⟨y, hy, rfl⟩ := List.mem_map.1 hx
    have := (h.xs y hy).2.2.2 ad q
    omega), h.low.grown (gb_set A B1 0 vk) h.low.size (fun k e => by cases e; exact hw), h.xs⟩
theorem FIv.store2 {n1 B1 B2 : Nat} {w : World} {pre : List Fx} {A : World} {vk vr : Value} (h : FIv n1 B1 B2 w pre A vk vr) (hn : B2 < n1) (hw : w.heap.size ≤ B2) (hne : B1 ≠ B2) : FIv n1 B1 B2 w pre (A.setCell ⟨B2, 0, none⟩ vr) vk vr :=
  ⟨h.b1.other hne vr, h.b2.set vr, h.out.grown (gb_set A B2 0 vr) (fun r e => by
    cases e
    refine ⟨fun q => by have := (h.out.k.lt _ q).1; omega, fun q => by have := (h.out.r.lt _ q).1; omega, fun x hx hz ad q e2 => ?_⟩
    obtain ⟨y, hy, rfl⟩ := List.mem_map.1 hx
    have := (h.xs y hy).2.2.2 ad q
    omega), h.low.grown (gb_set A B2 0 vr) h.low.size (fun k e => by cases e; exact hw), h.xs⟩
theorem box_there {W : World} {B : Nat} {t : TypeId} {v : Value} (h : Boxed W B t v) : W.there B 0 1 := fun j hj => by
  obtain rfl : j = 0 := by omega
  exact ⟨by rw [Nat.add_zero, h.cell]; rfl, by rw [Nat.add_zero]; exact h.frozen⟩
theorem own_1c {w : World} {base : Nat} {e : TypeId} {v : Value} {n : Nat} {xs : List Value} (h : w.ownsRow base e 1 v n xs) : v.oneCell' = true := by
  rcases own_range h with ⟨q, -, -⟩ | ⟨g, cap, q, -⟩ <;> rw [q] <;> rfl
theorem iszB : (Tryz.prog.info? 35).map (·.size) = some 1 := by kernel_rfl
theorem iszP : (Tryz.prog.info? 36).map (·.size) = some 1 := by kernel_rfl
theorem FIv.told {n1 B1 B2 : Nat} {w : World} {pre : List Fx} {A : World} {vk vr : Value} {fs : List Fr} (h : FIv n1 B1 B2 w pre A vk vr) (hw : w.heap.size ≤ n1) (hf : fs.map Fr.key = pre.map Fx.key) : FramesJ w.heap.size fs (.returned (.tuple #[vk, vr])) A := by
  have hk : fs.map Fr.k = pre.map Fx.k := by have q := congrArg (List.map Prod.fst) hf; rw [List.map_map, List.map_map] at q; exact q
  have hz : fs.map Fr.zs = (pre.map Fx.r).map Rc.zs := by have q := congrArg (List.map Prod.snd) hf; rw [List.map_map, List.map_map] at q; rw [List.map_map]; exact q
  refine ⟨vk, vr, pre.map Fx.r, rfl, by rw [hk]; exact h.out.lower hw, hz.symm, fun x hx => ?_⟩
  obtain ⟨y, hy, rfl⟩ := List.mem_map.1 hx
  exact ⟨(h.xs y hy).2.1, (h.xs y hy).2.2.1, fun ad q => Nat.le_trans hw ((h.xs y hy).2.2.2 ad q)⟩
set_option maxRecDepth 100000 in
set_option maxHeartbeats 8000000 in
theorem frames_in (m : Nat) (hn : 3 ≤ m) (a : Option Addr) (cap : Nat) (bs : List Int) (w : World) (hrow : RowAt w a bs) (hc : bs.length ≤ cap) (hcm : cap ≤ maxLen) (hl : bs.length ≤ 100000000) :
    CallsIn Fence.wide m Tryz.prog 82 #[.slice a bs.length cap] w fun e w' => FramesJ w.heap.size (framesW bs) e w' ∧ Below w.heap.size w w' := by
  have h1 : 1 ≤ m := by omega
  have hro : Fence.wide.round = none := rfl
  have cA := fitting_in (m - 1) a bs.length cap
  have HRW := hide hrow
  obtain ⟨i0, hi, hz0, hz1, hz2⟩ := info_parts info8
  obtain ⟨i1, hj, hj0, hj1, hj2⟩ := info_parts infoS
  clear hrow
  refine callsIn_of_wp_marks Tryz.func82 rfl trivial ?_ hro
  simp only [Tryz.ntmps82, List.size_toArray, List.length_cons, List.length_nil, Nat.reduceAdd, Nat.reduceSub, Array.replicate_succ, Array.replicate_zero, List.push_toArray, List.append_toArray, List.nil_append, List.cons_append]
  gi_wp2
  refine wpIn_wide.2 (wp_scope_straight ((wpIn_wide (n := m)).1 ?_))
  gi_wp2
  refine wpIn_label ?_
  gi_wp2_with (refine And.intro trivial ?_; gi_at_call 95; refine (cA _).mono ?_; rintro e w2 ⟨rfl, rfl⟩)
  clear cA
  simp only [Nat.add_assoc, Nat.reduceAdd]
  have b1 : Boxed (((w.alloc (.cells #[.slice none 0 0] 35)).alloc (.cells #[.slice none 0 0] 36)).alloc (.cells #[.slice a bs.length cap] 35)) w.heap.size 35 (.slice none 0 0) := ((Boxed.new w 35 _).alloc _).alloc _
  have b2 : Boxed (((w.alloc (.cells #[.slice none 0 0] 35)).alloc (.cells #[.slice none 0 0] 36)).alloc (.cells #[.slice a bs.length cap] 35)) (w.heap.size + 1) 36 (.slice none 0 0) := by
    have := (Boxed.new (w.alloc (.cells #[.slice none 0 0] 35)) 36 (.slice none 0 0)).alloc (.cells #[.slice a bs.length cap] 35)
    rwa [World.size_alloc] at this
  have b3 : Boxed (((w.alloc (.cells #[.slice none 0 0] 35)).alloc (.cells #[.slice none 0 0] 36)).alloc (.cells #[.slice a bs.length cap] 35)) (w.heap.size + 2) 35 (.slice a bs.length cap) := by
    have := Boxed.new ((w.alloc (.cells #[.slice none 0 0] 35)).alloc (.cells #[.slice none 0 0] 36)) 35 (.slice a bs.length cap)
    rwa [World.size_alloc, World.size_alloc] at this
  have hB3 : Below w.heap.size w (((w.alloc (.cells #[.slice none 0 0] 35)).alloc (.cells #[.slice none 0 0] 36)).alloc (.cells #[.slice a bs.length cap] 35)) := (((Below.refl _ w).alloc (Nat.le_refl _) _).alloc (by simp) _).alloc (by simp; omega) _
  have hsz : w.heap.size + 3 ≤ (((w.alloc (.cells #[.slice none 0 0] 35)).alloc (.cells #[.slice none 0 0] 36)).alloc (.cells #[.slice a bs.length cap] 35)).heap.size := by simp
  obtain ⟨w3, hw3⟩ : ∃ w3, Hid ((((w.alloc (.cells #[.slice none 0 0] 35)).alloc (.cells #[.slice none 0 0] 36)).alloc (.cells #[.slice a bs.length cap] 35)) = w3) := ⟨_, hide rfl⟩
  rw [hw3.out] at b1 b2 b3 hB3 hsz ⊢
  clear hw3
  obtain ⟨A, hA⟩ : ∃ A, Hid (w.heap.size = A) := ⟨_, hide rfl⟩
  rw [hA.out] at b1 b2 b3 hsz ⊢
  have hwn : w.heap.size ≤ w3.heap.size := hB3.size
  have ST := fitting1_any (m - 1) w3.heap.size (A + 2) a cap bs (ownF A (A + 1)) w3 b3.cell (HRW.out.below hB3) hc hcm hl (Nat.le_refl _) (fun W hW q => by
    have e1 : W.cell? ⟨A, 0, none⟩ = some (.slice none 0 0) := (cell_block (hW.block A b1.lt)).1.trans b1.cell
    have e2 : W.cell? ⟨A + 1, 0, none⟩ = some (.slice none 0 0) := (cell_block (hW.block (A + 1) b2.lt)).1.trans b2.cell
    rcases q with q | q | ⟨v, q1, q2⟩ | ⟨v, q1, q2⟩
    · omega
    · omega
    · rw [e1] at q1; cases q1; simp [Value.ownBlock] at q2
    · rw [e2] at q1; cases q1; simp [Value.ownBlock] at q2)
  refine range_own hro h1 (gf := 104) (lb := #[.pointer (some ⟨A + 2, 0, none⟩)]) rfl trivial (enters_of Tryz.func104 (by kernel_rfl) rfl) ST (fun _ => rfl)
    (FIs w3.heap.size A (A + 1) w)
    (FXs w3.heap.size A (A + 1) w)
    ?hI ?hIx ?hOC ?hBC ?hOZ ?hX ?h0
    (fun x => { tmps := #[.slice a bs.length cap, undef, .pointer (some ⟨A, 0, none⟩), .pointer (some ⟨A + 1, 0, none⟩), .int .u8 x.k, .slice x.r.a x.r.zs.length x.r.cap, .slice a bs.length cap, .func (.func 104) #[] #[.pointer (some ⟨A + 2, 0, none⟩)], .int .u8 x.k, .slice x.r.a x.r.zs.length x.r.cap, undef, undef, undef, undef, undef, undef, undef, undef, undef, undef, undef, undef, undef, undef, undef, undef, undef, undef], defers := [] }) ?assign ?body ?done ?stop
  case hI =>
    rintro pre X Y row ⟨vk, vr, h⟩ hg hr
    obtain ⟨q1, q2⟩ := h.grown hwn hg hr
    exact ⟨⟨vk, vr, q1⟩, q2⟩
  case hIx =>
    rintro c pre X l o o' ⟨hc, mm, x, vk, vr, e, h, hb⟩ hl ho hc2
    exact ⟨hc, mm, x, vk, vr, e, h.put hwn hl ho hc2, hb⟩
  case hOC =>
    rintro pre X ⟨vk, vr, h⟩ b q
    exact h.cellsOf q
  case hBC =>
    rintro pre X ⟨vk, vr, h⟩ x hx b q
    exact h.blkOf hx q
  case hOZ =>
    rintro pre X ⟨vk, vr, h⟩ b q hlt o k z
    rcases (own_iff h.b1 h.b2 b).1 q with q | q | q | q
    · subst q; exact box_int h.b1 (own_slice h.out.k) o k z
    · subst q; exact box_int h.b2 (own_slice h.out.r) o k z
    · have := (h.out.k.lt b q).1; omega
    · have := (h.out.r.lt b q).1; omega
  case hX =>
    rintro x X l o o' hl h ho hc2
    exact h.put (by omega) (by omega) ho hc2
  case h0 => exact ⟨_, _, b1, b2, Out.nil _ _, hB3, by simp⟩
  case assign =>
    intro l x W K hK
    simp only [encF]
    gi_wp2
    exact hK
  case body =>
    rintro l pre ⟨k, ⟨ra, rcap, rz⟩⟩ W ⟨vk, vr, hF⟩ hx hws hlt
    have hk0 := hx.k0
    have hk1 := hx.k1
    simp only at hk0 hk1
    have stop : ∀ W', Below W.heap.size W W' → Fx.good ⟨k, ⟨ra, rcap, rz⟩⟩ = false → KeepsFrom w3.heap.size W W' ∧ FXs w3.heap.size A (A + 1) w (.exit 0) (pre ++ [⟨k, ⟨ra, rcap, rz⟩⟩]) W' := fun W' hb hg =>
      ⟨⟨hb.size, fun i o _ h1 _ => (hb.block i (Array.getElem?_eq_some_iff.1 h1).1).trans h1⟩, FXs.mk (hF.grown hwn (gb_below hb none) (fun r e => by cases e)).1 hg⟩
    have hblk : ∀ y ∈ pre.map Fx.r ++ [(⟨ra, rcap, rz⟩ : Rc)], ∀ ad, y.a = some ad → w3.heap.size ≤ ad.block := fun y hy ad q => by
      rcases List.mem_append.1 hy with hy | hy
      · obtain ⟨z, hz, rfl⟩ := List.mem_map.1 hy
        exact (hF.xs z hz).2.2.2 ad q
      · rw [List.mem_singleton.1 hy] at q
        exact (hx.off ad q).1
    have Hst := hide stop
    clear stop
    by_cases k68 : k = 68
    · subst k68
      have hFV := hF
      have hxV := hx
      have hWV : Below W.heap.size W W := Below.refl _ _
      have hOm := hFV.out.more ⟨ra, rcap, rz⟩ hxV.row (fun ad q => ⟨(hxV.off ad q).2.1, fun q1 => (hxV.off ad q).2.2 ((own_iff hFV.b1 hFV.b2 _).2 (.inr (.inr (.inl q1)))), fun q1 => (hxV.off ad q).2.2 ((own_iff hFV.b1 hFV.b2 _).2 (.inr (.inr (.inr q1))))⟩)
      have c1 := hFV.b1.cell
      gi_upto_region 8 with fail
      refine region_round (by kernel_rfl) (fun ⟨_, _, h⟩ => h) ?_
      go_wp2_with (at_builtin; refine wpList_append_own_src2 _ rfl _ _ 35 35 rfl w3.heap.size 5 i0 (.int .u8 0) 1 1 Tryz.underlying35 hi hz0 hz1 hz2 rfl _ _ _ rfl (hOm.k.alloc _) _ 1 _ rfl (b1_src _ _) ?c1 ?c2 ?c3 ?_)
      case c1 => unfold maxLen; (try simp only [List.length_map]); omega
      case c2 => (try simp only [List.length_map]); omega
      case c3 => (try simp); omega
      intro v2 w4 hown2 hgr2 hap2
      have hbA : Below W.heap.size W (W.alloc (.cells #[.int .u8 68] 5)) := (Below.refl _ _).alloc (Nat.le_refl _) _
      have hO2 := (hOm.below hbA).addK (z := 68) ⟨by omega, by omega⟩ (by rw [List.length_map]; exact hown2) hgr2 (fun g q => by simpa using hap2 g q)
      have b1' : Boxed w4 A 35 vk := (hFV.b1.alloc _).kept hgr2 (fun q => by have := (hOm.k.lt A q.symm).1; omega)
      have b2' : Boxed w4 (A + 1) 36 vr := (hFV.b2.alloc _).kept hgr2 (fun q => by have := (hOm.k.lt (A + 1) q.symm).1; omega)
      have hof4 : Off (ownV A (A + 1) vk vr) W w4 := ((Off.of_below hWV).trans (Off.of_below hbA) (fun _ _ q => q)).trans (Off.of_grown hgr2 (fun k q => .inr (.inr (.inl q)))) (fun _ _ q => q)
      have hnw2 : ∀ g, v2.ownBlock = some g → vk.ownBlock = some g ∨ W.heap.size ≤ g := fun g q => by
        rcases hap2 g q with q | q
        · exact .inl q
        · right; have := hWV.size; (try simp at q); omega
      have hlt2 : ∀ g, v2.ownBlock = some g → w3.heap.size ≤ g := fun g q => (hO2.k.lt g q).1
      obtain ⟨g2, k2, rfl⟩ := ownsRow_succ hown2
      have c1' := b1'.cell
      have f1' := b1'.frozen
      clear c1 hown2 hgr2 hap2 hbA
      go_wp2
      have hgs : w4.grownBy (w4.setCell ⟨A, 0, none⟩ (.slice (some ⟨g2, 0, none⟩) (pre.length + 1) k2)) (some A) := gb_set _ _ _ _
      have hO4 := hO2.grown hgs (fun r e => by
        cases e
        refine ⟨fun q => by have := hlt2 _ q; omega, fun q => by have := (hO2.r.lt _ q).1; omega, fun y hy hz ad q e2 => ?_⟩
        have := hblk y hy ad q
        omega)
      have b1s := b1'.set (.slice (some ⟨g2, 0, none⟩) (pre.length + 1) k2)
      have b2s := b2'.other (show A + 1 ≠ A by omega) (.slice (some ⟨g2, 0, none⟩) (pre.length + 1) k2)
      have hof5 := hof4.trans (Off.of_setCell (F := ownV A (A + 1) vk vr) w4 ⟨A, 0, none⟩ (.slice (some ⟨g2, 0, none⟩) (pre.length + 1) k2) (.inl rfl)) (fun _ _ q => q)
      obtain ⟨w5, hw5⟩ : ∃ w5, Hid (w4.setCell ⟨A, 0, none⟩ (.slice (some ⟨g2, 0, none⟩) (pre.length + 1) k2) = w5) := ⟨_, hide rfl⟩
      rw [hw5.out] at hO4 b1s b2s hof5 ⊢
      clear hw5 hgs b1' b2' c1' f1' hof4 hO2 hOm
      have hs5 := hof5.size
      have d2 := b2s.cell
      gi_upto_region 9 with fail
      refine region_round (by kernel_rfl) (fun ⟨_, _, h⟩ => h) ?_
      go_wp2_with (at_builtin; refine wpList_append_own_src2 _ rfl _ _ 36 36 rfl w3.heap.size 35 i1 (.slice none 0 0) 1 24 Tryz.underlying36 hj hj0 hj1 hj2 rfl _ _ _ rfl (hO4.r.alloc _) _ 1 _ rfl (s1_src w5 ⟨ra, rcap, rz⟩) ?c1 ?c2 ?c3 ?_)
      case c1 => unfold maxLen; (try simp only [List.length_map]); omega
      case c2 => (try simp only [List.length_map]); omega
      case c3 => (try simp); omega
      intro v3 w6 hown3 hgr3 hap3
      have hbB : Below w5.heap.size w5 (w5.alloc (.cells #[Rc.val ⟨ra, rcap, rz⟩] 35)) := (Below.refl _ _).alloc (Nat.le_refl _) _
      have hO6 := (hO4.below hbB).addR (y := ⟨ra, rcap, rz⟩) (by rw [List.length_map, List.map_map]; exact hown3) hgr3 (fun g q => by simpa using hap3 g q)
      have b1t : Boxed w6 A 35 _ := (b1s.alloc _).kept hgr3 (fun q => by have := (hO4.r.lt A q.symm).1; omega)
      have b2t : Boxed w6 (A + 1) 36 vr := (b2s.alloc _).kept hgr3 (fun q => by have := (hO4.r.lt (A + 1) q.symm).1; omega)
      have hof6 : Off (ownV A (A + 1) vk vr) W w6 := (hof5.trans (Off.of_below hbB) (fun _ _ q => q)).trans (Off.of_grown (F := ownV A (A + 1) vk vr) hgr3 (fun k q => .inr (.inr (.inr q)))) (fun _ _ q => q)
      have hnw3 : ∀ g, v3.ownBlock = some g → vr.ownBlock = some g ∨ W.heap.size ≤ g := fun g q => by
        rcases hap3 g q with q | q
        · exact .inl q
        · right; (try simp at q); omega
      have hlt3 : ∀ g, v3.ownBlock = some g → w3.heap.size ≤ g := fun g q => (hO6.r.lt g q).1
      obtain ⟨g3, k3, rfl⟩ := ownsRow_succ hown3
      have d2' := b2t.cell
      have f2' := b2t.frozen
      clear d2 hown3 hgr3 hap3 hbB
      go_wp2
      have hgt : w6.grownBy (w6.setCell ⟨A + 1, 0, none⟩ (.slice (some ⟨g3, 0, none⟩) (pre.length + 1) k3)) (some (A + 1)) := gb_set _ _ _ _
      have hO7 := hO6.grown hgt (fun r e => by
        cases e
        refine ⟨fun q => by have := (hO6.k.lt _ q).1; omega, fun q => by have := hlt3 _ q; omega, fun y hy hz ad q e2 => ?_⟩
        have := hblk y hy ad q
        omega)
      have b1u := b1t.other (show A ≠ A + 1 by omega) (.slice (some ⟨g3, 0, none⟩) (pre.length + 1) k3)
      have b2u := b2t.set (.slice (some ⟨g3, 0, none⟩) (pre.length + 1) k3)
      have hof7 := hof6.trans (Off.of_setCell (F := ownV A (A + 1) vk vr) w6 ⟨A + 1, 0, none⟩ (.slice (some ⟨g3, 0, none⟩) (pre.length + 1) k3) (.inr (.inl rfl))) (fun _ _ q => q)
      obtain ⟨w7, hw7⟩ : ∃ w7, Hid (w6.setCell ⟨A + 1, 0, none⟩ (.slice (some ⟨g3, 0, none⟩) (pre.length + 1) k3) = w7) := ⟨_, hide rfl⟩
      rw [hw7.out] at hO7 b1u b2u hof7 ⊢
      clear hw7 hgt b1t b2t d2' f2' hof6 hO6 hO4 b1s b2s hof5
      have hFin : FIv w3.heap.size A (A + 1) w (pre ++ [⟨68, ⟨ra, rcap, rz⟩⟩]) w7 (.slice (some ⟨g2, 0, none⟩) (pre.length + 1) k2) (.slice (some ⟨g3, 0, none⟩) (pre.length + 1) k3) :=
        ⟨b1u, b2u, by simpa using hO7, hF.low.trans (hof7.below hF.low.size (fun b hb q => by
          rcases q with q | q | q | q
          · have := hA.out; omega
          · have := hA.out; omega
          · have := (hF.out.k.lt _ q).1; omega
          · have := (hF.out.r.lt _ q).1; omega)), fun y hy => by
          rcases List.mem_append.1 hy with hy | hy
          · exact hF.xs y hy
          · rw [List.mem_singleton.1 hy]
            exact ⟨rfl, hx.lc, hx.cm, fun ad q => (hx.off ad q).1⟩⟩
      have hEnd : KeepsFrom w3.heap.size W w7 ∧ KpO (ownF A (A + 1)) W w7 ∧ FIs w3.heap.size A (A + 1) w (pre ++ [⟨68, ⟨ra, rcap, rz⟩⟩]) w7 := by
        refine ⟨⟨hof7.size, fun i o _ h1 h2 => ?_⟩, ⟨hof7.size, fun b o h1 h2 h3 => ?_, fun b q => ?_⟩, FIs.mk hFin⟩
        · refine (hof7.2 i (Array.getElem?_eq_some_iff.1 h1).1 (fun q => ?_)).trans h1
          obtain ⟨o2, h3, h4⟩ := hF.cellsOf ((own_iff hF.b1 hF.b2 i).2 q)
          rw [h1] at h3; cases h3; rw [h2] at h4; cases h4
        · exact (hof7.2 b (Array.getElem?_eq_some_iff.1 h1).1 (fun q => h3 ((own_iff hF.b1 hF.b2 b).2 q))).trans h1
        · rcases (own_iff hFin.b1 hFin.b2 b).1 q with q | q | q | q
          · exact .inl ((own_iff hF.b1 hF.b2 b).2 (.inl q))
          · exact .inl ((own_iff hF.b1 hF.b2 b).2 (.inr (.inl q)))
          · rcases hnw2 b q with q | q
            · exact .inl ((own_iff hF.b1 hF.b2 b).2 (.inr (.inr (.inl q))))
            · exact .inr q
          · rcases hnw3 b q with q | q
            · exact .inl ((own_iff hF.b1 hF.b2 b).2 (.inr (.inr (.inr q))))
            · exact .inr q
      clear hFin hO7 b1u b2u hof7 hF hx hFV hxV
      gi_wp2
      exact hEnd
    · have n68 : (k == 68) = false := by simpa using k68
      by_cases k71 : k = 71
      · subst k71
        have cT := jturnOf_any ra rcap rz W hx.row (by have := hx.le; simp only at this; omega)
        obtain ⟨tn, htn⟩ : ∃ tn, Hid (turnN rz = tn) := ⟨_, hide rfl⟩
        rw [htn.out] at cT
        by_cases t0 : tn = 0
        · subst t0
          gi_upto_region 7 with fail
          refine region_round (by kernel_rfl) (fun ⟨_, _, h⟩ => h) ?_
          go_wp2_with fail
          refine cT.mono ?_
          rintro e V ⟨rfl, hWV⟩
          clear cT
          go_wp2
          gi_wp2
          exact Hst.out V hWV (by simp [Fx.good, htn.out])
        · have nt0 : (tn == 0) = false := by simpa using t0
          gi_upto_region 7 with fail
          refine region_round (by kernel_rfl) (fun ⟨_, _, h⟩ => h) ?_
          go_wp2_with fail
          refine cT.mono ?_
          rintro e V ⟨rfl, hWV⟩
          clear cT
          have hFV := (hF.grown hwn (gb_below hWV none) (fun r e => by cases e)).1
          have hxV : XF w3.heap.size (ownF A (A + 1)) ⟨71, ⟨ra, rcap, rz⟩⟩ V := ⟨hx.row.below hWV, hx.k0, hx.k1, hx.le, hx.lc, hx.cm, fun ad q => ⟨(hx.off ad q).1, Nat.lt_of_lt_of_le (hx.off ad q).2.1 hWV.size, fun q1 => (hx.off ad q).2.2 ((own_iff hF.b1 hF.b2 _).2 ((own_iff hFV.b1 hFV.b2 _).1 q1))⟩⟩
          have hws := Nat.le_trans hws hWV.size
          go_wp2
          have hOm := hFV.out.more ⟨ra, rcap, rz⟩ hxV.row (fun ad q => ⟨(hxV.off ad q).2.1, fun q1 => (hxV.off ad q).2.2 ((own_iff hFV.b1 hFV.b2 _).2 (.inr (.inr (.inl q1)))), fun q1 => (hxV.off ad q).2.2 ((own_iff hFV.b1 hFV.b2 _).2 (.inr (.inr (.inr q1))))⟩)
          have c1 := hFV.b1.cell
          gi_upto_region 8 with fail
          refine region_round (by kernel_rfl) (fun ⟨_, _, h⟩ => h) ?_
          go_wp2_with (at_builtin; refine wpList_append_own_src2 _ rfl _ _ 35 35 rfl w3.heap.size 5 i0 (.int .u8 0) 1 1 Tryz.underlying35 hi hz0 hz1 hz2 rfl _ _ _ rfl (hOm.k.alloc _) _ 1 _ rfl (b1_src _ _) ?c1 ?c2 ?c3 ?_)
          case c1 => unfold maxLen; (try simp only [List.length_map]); omega
          case c2 => (try simp only [List.length_map]); omega
          case c3 => (try simp); omega
          intro v2 w4 hown2 hgr2 hap2
          have hbA : Below V.heap.size V (V.alloc (.cells #[.int .u8 71] 5)) := (Below.refl _ _).alloc (Nat.le_refl _) _
          have hO2 := (hOm.below hbA).addK (z := 71) ⟨by omega, by omega⟩ (by rw [List.length_map]; exact hown2) hgr2 (fun g q => by simpa using hap2 g q)
          have b1' : Boxed w4 A 35 vk := (hFV.b1.alloc _).kept hgr2 (fun q => by have := (hOm.k.lt A q.symm).1; omega)
          have b2' : Boxed w4 (A + 1) 36 vr := (hFV.b2.alloc _).kept hgr2 (fun q => by have := (hOm.k.lt (A + 1) q.symm).1; omega)
          have hof4 : Off (ownV A (A + 1) vk vr) W w4 := ((Off.of_below hWV).trans (Off.of_below hbA) (fun _ _ q => q)).trans (Off.of_grown hgr2 (fun k q => .inr (.inr (.inl q)))) (fun _ _ q => q)
          have hnw2 : ∀ g, v2.ownBlock = some g → vk.ownBlock = some g ∨ W.heap.size ≤ g := fun g q => by
            rcases hap2 g q with q | q
            · exact .inl q
            · right; have := hWV.size; (try simp at q); omega
          have hlt2 : ∀ g, v2.ownBlock = some g → w3.heap.size ≤ g := fun g q => (hO2.k.lt g q).1
          obtain ⟨g2, k2, rfl⟩ := ownsRow_succ hown2
          have c1' := b1'.cell
          have f1' := b1'.frozen
          clear c1 hown2 hgr2 hap2 hbA
          go_wp2
          have hgs : w4.grownBy (w4.setCell ⟨A, 0, none⟩ (.slice (some ⟨g2, 0, none⟩) (pre.length + 1) k2)) (some A) := gb_set _ _ _ _
          have hO4 := hO2.grown hgs (fun r e => by
            cases e
            refine ⟨fun q => by have := hlt2 _ q; omega, fun q => by have := (hO2.r.lt _ q).1; omega, fun y hy hz ad q e2 => ?_⟩
            have := hblk y hy ad q
            omega)
          have b1s := b1'.set (.slice (some ⟨g2, 0, none⟩) (pre.length + 1) k2)
          have b2s := b2'.other (show A + 1 ≠ A by omega) (.slice (some ⟨g2, 0, none⟩) (pre.length + 1) k2)
          have hof5 := hof4.trans (Off.of_setCell (F := ownV A (A + 1) vk vr) w4 ⟨A, 0, none⟩ (.slice (some ⟨g2, 0, none⟩) (pre.length + 1) k2) (.inl rfl)) (fun _ _ q => q)
          obtain ⟨w5, hw5⟩ : ∃ w5, Hid (w4.setCell ⟨A, 0, none⟩ (.slice (some ⟨g2, 0, none⟩) (pre.length + 1) k2) = w5) := ⟨_, hide rfl⟩
          rw [hw5.out] at hO4 b1s b2s hof5 ⊢
          clear hw5 hgs b1' b2' c1' f1' hof4 hO2 hOm
          have hs5 := hof5.size
          have d2 := b2s.cell
          gi_upto_region 9 with fail
          refine region_round (by kernel_rfl) (fun ⟨_, _, h⟩ => h) ?_
          go_wp2_with (at_builtin; refine wpList_append_own_src2 _ rfl _ _ 36 36 rfl w3.heap.size 35 i1 (.slice none 0 0) 1 24 Tryz.underlying36 hj hj0 hj1 hj2 rfl _ _ _ rfl (hO4.r.alloc _) _ 1 _ rfl (s1_src w5 ⟨ra, rcap, rz⟩) ?c1 ?c2 ?c3 ?_)
          case c1 => unfold maxLen; (try simp only [List.length_map]); omega
          case c2 => (try simp only [List.length_map]); omega
          case c3 => (try simp); omega
          intro v3 w6 hown3 hgr3 hap3
          have hbB : Below w5.heap.size w5 (w5.alloc (.cells #[Rc.val ⟨ra, rcap, rz⟩] 35)) := (Below.refl _ _).alloc (Nat.le_refl _) _
          have hO6 := (hO4.below hbB).addR (y := ⟨ra, rcap, rz⟩) (by rw [List.length_map, List.map_map]; exact hown3) hgr3 (fun g q => by simpa using hap3 g q)
          have b1t : Boxed w6 A 35 _ := (b1s.alloc _).kept hgr3 (fun q => by have := (hO4.r.lt A q.symm).1; omega)
          have b2t : Boxed w6 (A + 1) 36 vr := (b2s.alloc _).kept hgr3 (fun q => by have := (hO4.r.lt (A + 1) q.symm).1; omega)
          have hof6 : Off (ownV A (A + 1) vk vr) W w6 := (hof5.trans (Off.of_below hbB) (fun _ _ q => q)).trans (Off.of_grown (F := ownV A (A + 1) vk vr) hgr3 (fun k q => .inr (.inr (.inr q)))) (fun _ _ q => q)
          have hnw3 : ∀ g, v3.ownBlock = some g → vr.ownBlock = some g ∨ W.heap.size ≤ g := fun g q => by
            rcases hap3 g q with q | q
            · exact .inl q
            · right; (try simp at q); omega
          have hlt3 : ∀ g, v3.ownBlock = some g → w3.heap.size ≤ g := fun g q => (hO6.r.lt g q).1
          obtain ⟨g3, k3, rfl⟩ := ownsRow_succ hown3
          have d2' := b2t.cell
          have f2' := b2t.frozen
          clear d2 hown3 hgr3 hap3 hbB
          go_wp2
          have hgt : w6.grownBy (w6.setCell ⟨A + 1, 0, none⟩ (.slice (some ⟨g3, 0, none⟩) (pre.length + 1) k3)) (some (A + 1)) := gb_set _ _ _ _
          have hO7 := hO6.grown hgt (fun r e => by
            cases e
            refine ⟨fun q => by have := (hO6.k.lt _ q).1; omega, fun q => by have := hlt3 _ q; omega, fun y hy hz ad q e2 => ?_⟩
            have := hblk y hy ad q
            omega)
          have b1u := b1t.other (show A ≠ A + 1 by omega) (.slice (some ⟨g3, 0, none⟩) (pre.length + 1) k3)
          have b2u := b2t.set (.slice (some ⟨g3, 0, none⟩) (pre.length + 1) k3)
          have hof7 := hof6.trans (Off.of_setCell (F := ownV A (A + 1) vk vr) w6 ⟨A + 1, 0, none⟩ (.slice (some ⟨g3, 0, none⟩) (pre.length + 1) k3) (.inr (.inl rfl))) (fun _ _ q => q)
          obtain ⟨w7, hw7⟩ : ∃ w7, Hid (w6.setCell ⟨A + 1, 0, none⟩ (.slice (some ⟨g3, 0, none⟩) (pre.length + 1) k3) = w7) := ⟨_, hide rfl⟩
          rw [hw7.out] at hO7 b1u b2u hof7 ⊢
          clear hw7 hgt b1t b2t d2' f2' hof6 hO6 hO4 b1s b2s hof5
          have hFin : FIv w3.heap.size A (A + 1) w (pre ++ [⟨71, ⟨ra, rcap, rz⟩⟩]) w7 (.slice (some ⟨g2, 0, none⟩) (pre.length + 1) k2) (.slice (some ⟨g3, 0, none⟩) (pre.length + 1) k3) :=
            ⟨b1u, b2u, by simpa using hO7, hF.low.trans (hof7.below hF.low.size (fun b hb q => by
              rcases q with q | q | q | q
              · have := hA.out; omega
              · have := hA.out; omega
              · have := (hF.out.k.lt _ q).1; omega
              · have := (hF.out.r.lt _ q).1; omega)), fun y hy => by
              rcases List.mem_append.1 hy with hy | hy
              · exact hF.xs y hy
              · rw [List.mem_singleton.1 hy]
                exact ⟨by simp [Fx.good, htn.out, t0], hx.lc, hx.cm, fun ad q => (hx.off ad q).1⟩⟩
          have hEnd : KeepsFrom w3.heap.size W w7 ∧ KpO (ownF A (A + 1)) W w7 ∧ FIs w3.heap.size A (A + 1) w (pre ++ [⟨71, ⟨ra, rcap, rz⟩⟩]) w7 := by
            refine ⟨⟨hof7.size, fun i o _ h1 h2 => ?_⟩, ⟨hof7.size, fun b o h1 h2 h3 => ?_, fun b q => ?_⟩, FIs.mk hFin⟩
            · refine (hof7.2 i (Array.getElem?_eq_some_iff.1 h1).1 (fun q => ?_)).trans h1
              obtain ⟨o2, h3, h4⟩ := hF.cellsOf ((own_iff hF.b1 hF.b2 i).2 q)
              rw [h1] at h3; cases h3; rw [h2] at h4; cases h4
            · exact (hof7.2 b (Array.getElem?_eq_some_iff.1 h1).1 (fun q => h3 ((own_iff hF.b1 hF.b2 b).2 q))).trans h1
            · rcases (own_iff hFin.b1 hFin.b2 b).1 q with q | q | q | q
              · exact .inl ((own_iff hF.b1 hF.b2 b).2 (.inl q))
              · exact .inl ((own_iff hF.b1 hF.b2 b).2 (.inr (.inl q)))
              · rcases hnw2 b q with q | q
                · exact .inl ((own_iff hF.b1 hF.b2 b).2 (.inr (.inr (.inl q))))
                · exact .inr q
              · rcases hnw3 b q with q | q
                · exact .inl ((own_iff hF.b1 hF.b2 b).2 (.inr (.inr (.inr q))))
                · exact .inr q
          clear hFin hO7 b1u b2u hof7 hF hx hFV hxV
          gi_wp2
          exact hEnd
      · have n71 : (k == 71) = false := by simpa using k71
        gi_wp2
        exact Hst.out W (Below.refl _ _) (by simp [Fx.good, k68, k71])
  case done =>
    rintro D xs W hD hS ⟨vk, vr, hF⟩ hK
    have hfw : (framesW bs).map Fr.key = xs.map Fx.key := by
      rw [framesW_fits HRW.out.2.1]
      exact takes_all good_key _ _ hS (fun x hx => (hF.xs x hx).1)
    have hO := hF.drew hwn
    gi_upto_region 10 with fail
    refine wpIn_wide.2 ?_
    obtain ⟨w8, hw8⟩ : ∃ w8, W.drew = w8 := ⟨_, rfl⟩
    have hK8 : w8.heap[D]? = some (.deferred (some [])) := by rw [← hw8]; exact hK
    rw [hw8] at hO
    have hAw : w.heap.size ≤ A := by rw [hA.out]; exact Nat.le_refl _
    have o1 := own_1c hO.out.k
    have o2 := own_1c hO.out.r
    have hO1 := hO.store1 (by omega) hAw (by omega)
    have hO2 := hO1.store2 (by omega) (by omega) (by omega)
    have hK9 : ((w8.setCell ⟨A, 0, none⟩ vk).setCell ⟨A + 1, 0, none⟩ vr).heap[D]? = some (.deferred (some [])) := (Below.heap_setCell _ ⟨A + 1, 0, none⟩ vr D (by show D ≠ A + 1; omega)).trans ((Below.heap_setCell _ ⟨A, 0, none⟩ vk D (by show D ≠ A; omega)).trans hK8)
    refine hs_begin (S := fun W' => Boxed W' A 35 vk ∧ Boxed W' (A + 1) 36 vr) 4 rfl (by kernel_rfl) ?_
    rw [hw8]
    clear hw8
    have hS : Boxed w8 A 35 vk ∧ Boxed w8 (A + 1) 36 vr := ⟨hO.b1, hO.b2⟩
    refine hs_take (i := 0) (d := some 26) (v := vk) rfl (by kernel_rfl) (by kernel_rfl) (by kernel_rfl) (by rfl) (fun w' hw => exec_load rfl rfl (load_one w' hw.1.cell Tryz.underlying35 rfl)) hS rfl ?_
    simp only [Act.put, List.setIfInBounds_toArray, List.set_cons_zero, List.set_cons_succ]
    refine hs_take (i := 1) (d := some 27) (v := vr) rfl (by kernel_rfl) (by kernel_rfl) (by kernel_rfl) (by rfl) (fun w' hw => exec_load rfl rfl (load_one w' hw.2.cell Tryz.underlying36 rfl)) hS rfl ?_
    simp only [Act.put, List.setIfInBounds_toArray, List.set_cons_zero, List.set_cons_succ]
    refine hs_store (i := 2) (w' := w8.setCell ⟨A, 0, none⟩ vk) rfl (by kernel_rfl) (by rfl) (exec_storeP rfl rfl rfl (run_store1 w8 A 0 35 vk (box_there hO.b1) iszB o1)) rfl ⟨hO1.b1, hO1.b2⟩ ?_
    refine hs_store (i := 3) (w' := (w8.setCell ⟨A, 0, none⟩ vk).setCell ⟨A + 1, 0, none⟩ vr) rfl (by kernel_rfl) (by rfl) (exec_storeP rfl rfl rfl (run_store1 _ (A + 1) 0 36 vr (box_there hO1.b2) iszP o2)) rfl ⟨hO2.b1, hO2.b2⟩ ?_
    refine hs_done (by kernel_rfl) ?_
    gi_wp2
    refine ⟨by simp, .inl ⟨_, _, rfl, run_takeDeferred hK9, ?_⟩⟩
    have hO3 : FIv w3.heap.size A (A + 1) w xs (((w8.setCell ⟨A, 0, none⟩ vk).setCell ⟨A + 1, 0, none⟩ vr).putObj D (.deferred none)) vk vr := hO2.put hwn hD hK9 rfl
    refine ⟨_, results_cell2 rfl _ _ _ rfl rfl (load_one _ hO3.b1.cell Tryz.underlying35 rfl) (load_one _ hO3.b2.cell Tryz.underlying36 rfl), ?_, ?_⟩
    · exact hO3.told hwn hfw
    · exact hO3.low
  case stop =>
    rintro D c pre W hD hSp ⟨rfl, mm, x, vk, vr, rfl, hF, hbad⟩ hK
    have hfw : (framesW bs).map Fr.key = mm.map Fx.key := by
      rw [framesW_fits HRW.out.2.1]
      exact takes_some good_key _ _ _ hSp (fun x hx => (hF.xs x hx).1) hbad
    have hO := hF.drew hwn
    gi_upto_region 10 with fail
    refine wpIn_wide.2 ?_
    obtain ⟨w8, hw8⟩ : ∃ w8, W.drew = w8 := ⟨_, rfl⟩
    have hK8 : w8.heap[D]? = some (.deferred (some [])) := by rw [← hw8]; exact hK
    rw [hw8] at hO
    have hAw : w.heap.size ≤ A := by rw [hA.out]; exact Nat.le_refl _
    have o1 := own_1c hO.out.k
    have o2 := own_1c hO.out.r
    have hO1 := hO.store1 (by omega) hAw (by omega)
    have hO2 := hO1.store2 (by omega) (by omega) (by omega)
    have hK9 : ((w8.setCell ⟨A, 0, none⟩ vk).setCell ⟨A + 1, 0, none⟩ vr).heap[D]? = some (.deferred (some [])) := (Below.heap_setCell _ ⟨A + 1, 0, none⟩ vr D (by show D ≠ A + 1; omega)).trans ((Below.heap_setCell _ ⟨A, 0, none⟩ vk D (by show D ≠ A; omega)).trans hK8)
    refine hs_begin (S := fun W' => Boxed W' A 35 vk ∧ Boxed W' (A + 1) 36 vr) 4 rfl (by kernel_rfl) ?_
    rw [hw8]
    clear hw8
    have hS : Boxed w8 A 35 vk ∧ Boxed w8 (A + 1) 36 vr := ⟨hO.b1, hO.b2⟩
    refine hs_take (i := 0) (d := some 26) (v := vk) rfl (by kernel_rfl) (by kernel_rfl) (by kernel_rfl) (by rfl) (fun w' hw => exec_load rfl rfl (load_one w' hw.1.cell Tryz.underlying35 rfl)) hS rfl ?_
    simp only [Act.put, List.setIfInBounds_toArray, List.set_cons_zero, List.set_cons_succ]
    refine hs_take (i := 1) (d := some 27) (v := vr) rfl (by kernel_rfl) (by kernel_rfl) (by kernel_rfl) (by rfl) (fun w' hw => exec_load rfl rfl (load_one w' hw.2.cell Tryz.underlying36 rfl)) hS rfl ?_
    simp only [Act.put, List.setIfInBounds_toArray, List.set_cons_zero, List.set_cons_succ]
    refine hs_store (i := 2) (w' := w8.setCell ⟨A, 0, none⟩ vk) rfl (by kernel_rfl) (by rfl) (exec_storeP rfl rfl rfl (run_store1 w8 A 0 35 vk (box_there hO.b1) iszB o1)) rfl ⟨hO1.b1, hO1.b2⟩ ?_
    refine hs_store (i := 3) (w' := (w8.setCell ⟨A, 0, none⟩ vk).setCell ⟨A + 1, 0, none⟩ vr) rfl (by kernel_rfl) (by rfl) (exec_storeP rfl rfl rfl (run_store1 _ (A + 1) 0 36 vr (box_there hO1.b2) iszP o2)) rfl ⟨hO2.b1, hO2.b2⟩ ?_
    refine hs_done (by kernel_rfl) ?_
    gi_wp2
    refine ⟨by simp, .inl ⟨_, _, rfl, run_takeDeferred hK9, ?_⟩⟩
    have hO3 : FIv w3.heap.size A (A + 1) w mm (((w8.setCell ⟨A, 0, none⟩ vk).setCell ⟨A + 1, 0, none⟩ vr).putObj D (.deferred none)) vk vr := hO2.put hwn hD hK9 rfl
    refine ⟨_, results_cell2 rfl _ _ _ rfl rfl (load_one _ hO3.b1.cell Tryz.underlying35 rfl) (load_one _ hO3.b2.cell Tryz.underlying36 rfl), ?_, ?_⟩
    · exact hO3.told hwn hfw
    · exact hO3.low
theorem frames_any (a : Option Addr) (cap : Nat) (bs : List Int) (w : World) (hrow : RowAt w a bs) (hc : bs.length ≤ cap) (hcm : cap ≤ maxLen) (hl : bs.length ≤ 100000000) :
    Calls Tryz.prog 82 #[.slice a bs.length cap] w fun e w' => FramesJ w.heap.size (framesW bs) e w' ∧ Below w.heap.size w w' :=
  (callsIn_wide (n := 8)).1 (frames_in 8 (by decide) a cap bs w hrow hc hcm hl)
end Go.Proofs.YtfkchnjbbbhmjaaGreat.Ty
namespace Go.Proofs.YtfkchnjbbbhmjaaGreat.Ty
open Go.RowKit
open Tal
/-- the greatest turn among frames, and the records -/
def turnW (fs : List Fr) : Int := fs.foldl (fun t f => if f.k = 71 then max t (turnN f.zs) else t) 0
def recsW (fs : List Fr) : List (List Int) := (fs.filter (fun f => decide (f.k ≠ 71))).map Fr.zs
def turnP (ps : List (Fr × Rc)) : Int := turnW (ps.map Prod.fst)
def keepP (ps : List (Fr × Rc)) : List Rc := (ps.filter (fun p => decide (p.1.k ≠ 71))).map Prod.snd
theorem keepP_zs : ∀ (fs : List Fr) (rs : List Rc), rs.map Rc.zs = fs.map Fr.zs → (keepP (fs.zip rs)).map Rc.zs = recsW fs
  | [], [], _ => rfl
  | [], _ :: _, h => by simp at h
  | _ :: _, [], h => by simp at h
  | f :: fs, r :: rs, h => by
    simp only [List.map_cons, List.cons.injEq] at h
    have ih := keepP_zs fs rs h.2
    unfold keepP recsW at ih ⊢
    rw [List.zip_cons_cons]
    by_cases q : f.k = 71
    · rw [List.filter_cons_of_neg (by simp [q]), List.filter_cons_of_neg (by simp [q])]
      exact ih
    · rw [List.filter_cons_of_pos (by simp [q]), List.filter_cons_of_pos (by simp [q]), List.map_cons, List.map_cons, List.map_cons, ih, h.1]
theorem turnP_zip (fs : List Fr) (rs : List Rc) (h : fs.length = rs.length) : turnP (fs.zip rs) = turnW fs := by
  unfold turnP
  rw [List.map_fst_zip (by omega)]
theorem turnP_step (ps : List (Fr × Rc)) (k : Nat) (h : k < ps.length) : turnP (ps.take (k + 1)) = if ps[k].1.k = 71 then max (turnP (ps.take k)) (turnN ps[k].1.zs) else turnP (ps.take k) := by
  unfold turnP turnW
  rw [List.take_succ_eq_append_getElem h, List.map_append, List.foldl_append]
  rfl
theorem keepP_step (ps : List (Fr × Rc)) (k : Nat) (h : k < ps.length) : keepP (ps.take (k + 1)) = if ps[k].1.k = 71 then keepP (ps.take k) else keepP (ps.take k) ++ [ps[k].2] := by
  unfold keepP
  rw [List.take_succ_eq_append_getElem h, List.filter_append, List.map_append]
  by_cases q : ps[k].1.k = 71
  · rw [if_pos q, List.filter_cons_of_neg (by simp [q])]; simp
  · rw [if_neg q, List.filter_cons_of_pos (by simp [q])]; simp
theorem keepP_mem {ps : List (Fr × Rc)} {x : Rc} (h : x ∈ keepP ps) : ∃ p ∈ ps, p.2 = x := by
  unfold keepP at h
  obtain ⟨p, hp, e⟩ := List.mem_map.1 h
  exact ⟨p, (List.mem_filter.1 hp).1, e⟩
theorem keepP_len (ps : List (Fr × Rc)) : (keepP ps).length ≤ ps.length := by
  unfold keepP
  rw [List.length_map]
  exact List.length_filter_le _ _
theorem turnN_ge (zs : List Int) (h : ∀ z ∈ zs, 0 ≤ z ∧ z < 256) : 0 ≤ turnN zs ∧ turnN zs ≤ 1099511627776 := by
  unfold turnN
  split
  · have := numS_max zs h
    unfold numS
    have hn := numR_nonneg zs h
    split
    · split
      · split
        · simp
        · simp only
          omega
      · simp
    · simp
  · simp
theorem turnW_ge (fs : List Fr) (h : ∀ f ∈ fs, ∀ z ∈ f.zs, 0 ≤ z ∧ z < 256) : 0 ≤ turnW fs ∧ turnW fs ≤ 1099511627776 := by
  have key : ∀ (fs : List Fr) (t : Int), (∀ f ∈ fs, ∀ z ∈ f.zs, 0 ≤ z ∧ z < 256) → 0 ≤ t ∧ t ≤ 1099511627776 → 0 ≤ fs.foldl (fun t f => if f.k = 71 then max t (turnN f.zs) else t) t ∧ fs.foldl (fun t f => if f.k = 71 then max t (turnN f.zs) else t) t ≤ 1099511627776 := by
    intro fs
    induction fs with
    | nil => intro t _ h; exact h
    | cons f fs ih =>
      intro t hf ht
      rw [List.foldl_cons]
      refine ih _ (fun g hg => hf g (by simp [hg])) ?_
      have := turnN_ge f.zs (hf f (by simp))
      split <;> omega
  exact key fs 0 h (by omega)
theorem fits_mem {bs : List Int} (hz : ∀ z ∈ bs, 0 ≤ z ∧ z < 256) : ∀ f ∈ fitsW bs, f.zs.length ≤ bs.length ∧ ∀ z ∈ f.zs, 0 ≤ z ∧ z < 256 := by
  generalize hn : bs.length = n
  induction n using Nat.strongRecOn generalizing bs with
  | _ n ih =>
    rw [fitsW_step hz]
    cases hf : fitW bs with
    | none => simp
    | some f =>
      obtain ⟨l1, l2⟩ := fitW_len hz hf
      obtain ⟨-, -, k3, k4⟩ := fitW_kind hz hf
      intro g hg
      rcases List.mem_cons.1 hg with rfl | hg
      · exact ⟨by omega, k3⟩
      · have := ih (bs.length - f.n) (by omega) (bs := bs.drop f.n) (fun z hh => hz z (List.mem_of_mem_drop hh)) (by rw [List.length_drop]) g hg
        exact ⟨by omega, this.2⟩
theorem frames_mem {bs : List Int} (hz : ∀ z ∈ bs, 0 ≤ z ∧ z < 256) : ∀ f ∈ framesW bs, f.zs.length ≤ bs.length ∧ ∀ z ∈ f.zs, 0 ≤ z ∧ z < 256 := fun f hf => by
  rw [framesW_fits hz] at hf
  exact fits_mem hz f ((List.takeWhile_sublist _).subset hf)
/-- records in a row of one's own -/
structure ROwn (B : Nat) (w : World) (v : Value) (rs : List Rc) : Prop where
  r : w.ownsRow B 35 1 v rs.length (rs.map Rc.val)
  rows : ∀ x ∈ rs, RowAt w x.a x.zs
  len : ∀ x ∈ rs, x.zs.length ≤ x.cap ∧ x.cap ≤ maxLen
  off : ∀ x ∈ rs, ∀ ad, x.a = some ad → B ≤ ad.block ∧ ad.block < w.heap.size ∧ v.ownBlock ≠ some ad.block
theorem ROwn.nil (B : Nat) (w : World) : ROwn B w (.slice none 0 0) [] := ⟨World.ownsRow_nil _ _ _ _, by simp, by simp, by simp⟩
theorem ROwn.below {B : Nat} {w w' : World} {v : Value} {rs : List Rc} (h : ROwn B w v rs) (hb : Below w.heap.size w w') : ROwn B w' v rs :=
  ⟨h.r.kept (gb_below hb none) (own_or _), fun x hx => (h.rows x hx).below hb, h.len, fun x hx ad q => ⟨(h.off x hx ad q).1, Nat.lt_of_lt_of_le (h.off x hx ad q).2.1 hb.size, (h.off x hx ad q).2.2⟩⟩
theorem ROwn.lower {B B' : Nat} {w : World} {v : Value} {rs : List Rc} (h : ROwn B w v rs) (hb : B' ≤ B) : ROwn B' w v rs := ⟨ownsRow_low h.r hb, h.rows, h.len, fun x hx ad q => ⟨Nat.le_trans hb (h.off x hx ad q).1, (h.off x hx ad q).2⟩⟩
theorem ROwn.add {B : Nat} {w w' : World} {v v' : Value} {rs : List Rc} {y : Rc} (h : ROwn B w v rs) (hy : RowAt w y.a y.zs) (hl : y.zs.length ≤ y.cap ∧ y.cap ≤ maxLen) (ho : ∀ ad, y.a = some ad → B ≤ ad.block ∧ ad.block < w.heap.size ∧ v.ownBlock ≠ some ad.block)
    (hown : w'.ownsRow B 35 1 v' (rs.length + 1) (rs.map Rc.val ++ [Rc.val y])) (hg : w.grownBy w' v.ownBlock) (hap : ∀ g, v'.ownBlock = some g → v.ownBlock = some g ∨ g = w.heap.size) : ROwn B w' v' (rs ++ [y]) := by
  have hoff : ∀ x ∈ rs ++ [y], ∀ ad, x.a = some ad → B ≤ ad.block ∧ ad.block < w.heap.size ∧ v.ownBlock ≠ some ad.block := fun x hx ad q => by
    rcases List.mem_append.1 hx with hx | hx
    · exact h.off x hx ad q
    · rw [List.mem_singleton.1 hx] at q; exact ho ad q
  have hrow : ∀ x ∈ rs ++ [y], RowAt w x.a x.zs := fun x hx => by
    rcases List.mem_append.1 hx with hx | hx
    · exact h.rows x hx
    · rw [List.mem_singleton.1 hx]; exact hy
  refine ⟨by simpa using hown, fun x hx => RowAt_gbo (hrow x hx) hg (fun ad q => (hoff x hx ad q).2.2), fun x hx => ?_, fun x hx ad q => ?_⟩
  · rcases List.mem_append.1 hx with hx | hx
    · exact h.len x hx
    · rw [List.mem_singleton.1 hx]; exact hl
  · obtain ⟨o1, o2, o3⟩ := hoff x hx ad q
    refine ⟨o1, Nat.lt_of_lt_of_le o2 hg.size, fun q1 => ?_⟩
    rcases hap _ q1 with q2 | q2
    · exact o3 q2
    · omega
theorem ROwn.recs {B : Nat} {w : World} {v : Value} {rs : List Rc} (h : ROwn B w v rs) (hl : rs.length ≤ 100000000) : ∃ a cap, v = .slice a rs.length cap ∧ Recs w a rs ∧ rs.length ≤ cap ∧ (∀ x, a = some x → B ≤ x.block ∧ x.block < w.heap.size) := by
  rcases own_range h.r with ⟨q, h0, _⟩ | ⟨g, cap, q, hb, hg, hn, hcm, hr⟩
  · exact ⟨none, 0, by rw [q, h0], ⟨hl, .inl (List.eq_nil_of_length_eq_zero h0), h.rows⟩, by omega, fun x hx => by cases hx⟩
  · exact ⟨_, cap, q, ⟨hl, .inr ⟨g, 0, rfl, hg, hr⟩, h.rows⟩, hn, fun x hx => by cases hx; exact ⟨hb, hg⟩⟩
set_option maxRecDepth 100000 in
set_option maxHeartbeats 8000000 in
theorem contents_any (a : Option Addr) (cap : Nat) (bs : List Int) (w : World) (hrow : RowAt w a bs) (hc : bs.length ≤ cap) (hcm : cap ≤ maxLen) (hl : bs.length ≤ 100000000) :
    Calls Tryz.prog 69 #[.slice a bs.length cap] w fun e w' => (∃ v rs, e = .returned (.tuple #[.int .i64 (turnW (framesW bs)), v]) ∧ ROwn w.heap.size w' v rs ∧ rs.map Rc.zs = recsW (framesW bs) ∧ rs.length ≤ bs.length) ∧ Below w.heap.size w w' := by
  have cF := frames_any a cap bs w hrow hc hcm hl
  have hfl : (framesW bs).length ≤ bs.length := by
    rw [framesW_fits hrow.2.1]
    exact Nat.le_trans (List.takeWhile_sublist _).length_le (fitsW_len hrow.2.1)
  have hfm := frames_mem hrow.2.1
  obtain ⟨fs, hfs⟩ : ∃ fs, Hid (framesW bs = fs) := ⟨_, hide rfl⟩
  rw [hfs.out] at cF hfl hfm ⊢
  clear hfs
  obtain ⟨i1, hj, hj0, hj1, hj2⟩ := info_parts infoS
  go_enter Tryz.func69, Tryz.ntmps69
  go_wp2_with fail
  refine cF.mono ?_
  rintro e w1 ⟨⟨vk, vr, rs, rfl, hO, hzs, hlen⟩, hB1⟩
  clear cF
  have hrl : rs.length = fs.length := by simpa using congrArg List.length hzs
  obtain ⟨ar, cr, rfl, hR⟩ := hO.recs (by omega)
  have hkb := own_bytes hO.k hO.kb (by rw [List.length_map]; unfold maxLen; omega)
  obtain ⟨ak, ck, rfl, -, -, hK⟩ := hkb
  rw [List.length_map]
  obtain ⟨ps, hps⟩ : ∃ ps, Hid (fs.zip rs = ps) := ⟨_, hide rfl⟩
  have hpl : Hid (ps.length = fs.length) := hide (by rw [← hps.out, List.length_zip]; omega)
  have hpk : ∀ k (h : k < fs.length) (h' : k < ps.length), ps[k].1 = fs[k] ∧ ps[k].2 = rs[k]'(by omega) := fun k h h' => by
    have : ps[k]? = (fs.zip rs)[k]? := by rw [hps.out]
    rw [List.getElem?_eq_getElem h', List.getElem?_eq_getElem (by rw [List.length_zip]; omega)] at this
    simp only [Option.some.injEq] at this
    rw [this, List.getElem_zip]
    exact ⟨rfl, rfl⟩
  go_wp2_with fail
  go_loopw [2, 3, 15] (fun tv v iv wr => ∃ (k : Nat) (t : Int), k ≤ fs.length ∧ iv = .int .i64 (k : Int) ∧ tv = .int .i64 t ∧ Hid (t = turnP (ps.take k)) ∧ ROwn w.heap.size wr v (keepP (ps.take k)) ∧ Below w1.heap.size w1 wr ∧ Hid (∀ g, v.ownBlock = some g → w1.heap.size ≤ g)) (fun _ _ iv _ => fs.length - (intOf iv).toNat)
  case atStart => exact ⟨0, 0, by omega, rfl, rfl, hide (by simp [turnP, turnW]), by simpa [keepP] using ROwn.nil _ _, Below.refl _ _, hide (by simp [Value.ownBlock])⟩
  case round =>
    obtain ⟨k, t, hk, rfl, rfl, hT, hW, hB, hV⟩ := hrel
    by_cases hlt : k < fs.length
    · have hlt' : k < ps.length := by rw [hpl.out]; exact hlt
      obtain ⟨p1, p2⟩ := hpk k hlt hlt'
      obtain ⟨b1, o1, hA1, hb1, hc1, hz0, hz1⟩ := hK.get k (by rw [List.length_map]; exact hlt)
      obtain ⟨b2, o2, hA2, hb2, hc2, hr2⟩ := hR.get k (by omega)
      have T1 := turnP_step ps k hlt'
      have K1 := keepP_step ps k hlt'
      have hzz : fs[k].zs = (rs[k]'(by omega)).zs := by
        have q := congrArg (·[k]?) hzs
        simp only [List.getElem?_map] at q
        rw [List.getElem?_eq_getElem hlt, List.getElem?_eq_getElem (by omega)] at q
        simpa using q.symm
      have hkk : (fs.map Fr.k).getD k 0 = fs[k].k := by
        rw [List.getD_eq_getElem?_getD, List.getElem?_map, List.getElem?_eq_getElem hlt]
        rfl
      simp only [p1, p2] at T1 K1
      rw [hzz] at T1
      rw [hkk] at hc1 hz0 hz1
      have hxm := hfm _ (List.getElem_mem hlt)
      rw [hzz] at hxm
      have hxm := hxm.1
      have hxo := hO.off _ (List.getElem_mem (show k < rs.length by omega))
      have hxl := hlen _ (List.getElem_mem (show k < rs.length by omega))
      generalize fs[k].k = kk at *
      generalize (rs[k]'(by omega)) = x at *
      obtain ⟨xa, xc, xz⟩ := x
      simp only at T1 K1 hc2 hr2 hxo hxl hxm
      subst hA1 hA2
      have g1 : wr.cell? ⟨b1, o1 + k, none⟩ = some (.int .u8 kk) := (cell_block (hB.block b1 hb1)).1.trans hc1
      have g2 : wr.cell? ⟨b2, o2 + k, none⟩ = some (.slice xa xz.length xc) := (cell_block (hB.block b2 hb2)).1.trans hc2
      have hrx := hr2.below hB
      have HT1 := hide T1
      have HK1 := hide K1
      have hkI : (k : Int) < (fs.length : Int) := by omega
      have hkl : (k : Int) < (rs.length : Int) := by omega
      have hxz : xz.length ≤ 549755813888 := by omega
      clear T1 K1 p1 p2 hzz hkk hc1 hc2 hr2 hpk hR hK hlt' hO hzs
      by_cases k71 : kk = 71
      · subst k71
        have T1 := HT1.out
        have K1 := HK1.out
        rw [if_pos rfl] at T1 K1
        have HT1 := hide T1
        have HK1 := hide K1
        clear T1 K1
        have cT := jturnOf_any xa xc xz wr hrx hxz
        obtain ⟨tn, htn⟩ : ∃ tn, Hid (turnN xz = tn) := ⟨_, hide rfl⟩
        rw [htn.out] at cT
        go_wp2_with fail
        refine cT.mono ?_
        rintro e w2 ⟨rfl, hB2⟩
        clear cT
        have hB' : Below w1.heap.size w1 w2 := hB.trans (hB2.mono hB.size)
        have hW' := hW.below hB2
        by_cases hmx : t < tn
        · have hm1 : max t tn = tn := by omega
          go_wp2
          go_roundw
          case rel =>
            refine ⟨k + 1, tn, by omega, by go_num, by first | rfl | (rw [hm1]), hide (by rw [HT1.out, htn.out, ← hT.out]; exact hm1.symm), by rw [HK1.out]; exact hW', hB', hV⟩
          case measure => simp [intOf]; omega
        · have hm1 : max t tn = t := by omega
          go_wp2
          go_roundw
          case rel =>
            refine ⟨k + 1, t, by omega, by go_num, by first | rfl | (rw [hm1]), hide (by rw [HT1.out, htn.out, ← hT.out]; exact hm1.symm), by rw [HK1.out]; exact hW', hB', hV⟩
          case measure => simp [intOf]; omega
      · have T1 := HT1.out
        have K1 := HK1.out
        rw [if_neg k71] at T1 K1
        have HT1 := hide T1
        have HK1 := hide K1
        clear T1 K1
        have n71 : (kk == 71) = false := by simpa using k71
        have hkp := keepP_len (ps.take k)
        rw [List.length_take] at hkp
        have hws : w.heap.size ≤ wr.heap.size := Nat.le_trans hB1.size hB.size
        go_wp2_with (at_builtin; refine wpList_append_own_src2 _ rfl _ _ 36 36 rfl w.heap.size 35 i1 (.slice none 0 0) 1 24 Tryz.underlying36 hj hj0 hj1 hj2 rfl _ _ _ rfl (hW.r.alloc _) _ 1 _ rfl (s1_src wr ⟨xa, xc, xz⟩) ?c1 ?c2 ?c3 ?_)
        case c1 => unfold maxLen; omega
        case c2 => omega
        case c3 => (try simp); omega
        intro v2 w2 hown2 hgr2 hap2
        have hbA : Below wr.heap.size wr (wr.alloc (.cells #[Rc.val ⟨xa, xc, xz⟩] 35)) := (Below.refl _ _).alloc (Nat.le_refl _) _
        have hB' : Below w1.heap.size w1 (wr.alloc (.cells #[Rc.val ⟨xa, xc, xz⟩] 35)) := hB.trans (hbA.mono hB.size)
        have hgn : Below w1.heap.size w1 w2 := hB'.grown hgr2 hB'.size (fun g q => hV.out g q)
        have hW' := (hW.below hbA).add (y := ⟨xa, xc, xz⟩) (hrx.below hbA) ⟨hxl.1, hxl.2.1⟩ (fun ad q => ⟨hxl.2.2 ad q, by have := (hxo ad q).1; have := hB'.size; omega, fun q1 => by have := hV.out _ q1; have := (hxo ad q).1; omega⟩) hown2 hgr2 (fun g q => by simpa using hap2 g q)
        go_wp2
        go_roundw
        case rel =>
          refine ⟨k + 1, t, by omega, by go_num, rfl, hide (by rw [HT1.out]; exact hT.out), by rw [HK1.out]; exact hW', hgn, hide (fun g q => by
            rcases hap2 g q with q | q
            · exact hV.out g q
            · have := hB.size; (try simp at q); omega)⟩
        case measure => simp [intOf]; omega
    · obtain rfl : k = fs.length := by omega
      have e1 : Hid (ps.take fs.length = ps) := hide (List.take_of_length_le (by rw [hpl.out]; exact Nat.le_refl _))
      rw [e1.out] at hT hW
      go_wp2
      go_ret2
      refine ⟨⟨_, _, ?_, hW, ?_, ?_⟩, hB1.trans (hB.mono hB1.size)⟩
      · rw [hT.out, ← hps.out, turnP_zip fs rs hrl.symm]
        rfl
      · rw [← hps.out]; exact keepP_zs fs rs hzs
      · have := keepP_len ps
        have := hpl.out
        omega
end Go.Proofs.YtfkchnjbbbhmjaaGreat.Ty
namespace Go.Proofs.YtfkchnjbbbhmjaaGreat
open Go.RowKit
def Mt.jsync (M : Mt) (j : Jv) : Int × Mt := if M.jon j.fs then M.sync j.ar else (150, M)
def Mt.jappend (M : Mt) (j : Jv) (zs : List Int) : Int × Mt := if M.jon j.fs then if zs.length ≤ 4194304 then M.append j.ar (Ty.frameL 68 (strOf zs)) else (3, M) else (150, M)
set_option maxRecDepth 100000 in
set_option maxHeartbeats 4000000 in
theorem jsync_any (j : Jv) (M : Mt) (A : Nat → Prop) (w0 : World) (h : JAt w0 j) (hT : Live A w0 j.p M) (hA : ∀ b, A b → b < w0.heap.size) (hAq : A j.q) :
    Calls Tryz.prog 21 #[jptr j] w0 fun e w' => e = .returned (.int .i64 (M.jsync j).1) ∧ Live A w' j.p (M.jsync j).2 ∧ JAt w' j ∧ Off (fun b => ¬ A b) w0 w' := by
  have cT := jtakes_any j M A none 0 [] w0 h hT (.inl rfl) (by simp)
  have hq := h.lt
  unfold Mt.jsync
  unfold jptr at *
  cases hon : M.jon j.fs
  · rw [hon, show takesE false [] = 150 from rfl] at cT
    rw [if_neg (by simp)]
    clear hon
    go_enter Tryz.func21, Tryz.ntmps21
    go_wp2_with fail
    refine cT.mono ?_
    rintro e w1 ⟨rfl, hB1⟩
    have HF := hide (And.intro (hT.below hB1) (And.intro (h.below hB1) (Off.of_below (F := fun b => ¬ A b) hB1)))
    clear cT h hT
    go_wp2_with fail
    go_ret
    exact ⟨rfl, HF.out⟩
  · rw [hon, show takesE true [] = 0 by unfold takesE; simp] at cT
    rw [if_pos rfl]
    clear hon
    obtain ⟨se, hse⟩ : ∃ se, Hid (M.sync j.ar = se) := ⟨_, hide rfl⟩
    rw [hse.out]
    go_enter Tryz.func21, Tryz.ntmps21
    go_wp2_with fail
    refine cT.mono ?_
    rintro e w ⟨rfl, hB1⟩
    clear cT
    have hJ1 := h.below hB1
    go_wp2_with fail
    obtain ⟨w8, hw8⟩ : ∃ w8, w.drew = w8 := ⟨_, rfl⟩
    have B18 : Below w.heap.size w w8 := by rw [← hw8]; exact (Below.refl _ _).drew
    have B8 : Below w0.heap.size w0 w8 := hB1.trans (B18.mono hB1.size)
    have hA8 : ∀ b, A b → b < w8.heap.size := fun b hb => Nat.lt_of_lt_of_le (hA b hb) B8.size
    have hq8 : j.q < w8.heap.size := Nat.lt_of_lt_of_le hq B8.size
    have x0 : ∀ w' : World, w'.heap[j.q]? = w.heap[j.q]? → w'.cell? ⟨j.q, 0, none⟩ = some (.pointer (some ⟨j.p, 0, none⟩)) := fun w' q => (hJ1.at q).cell 0 rfl
    have x1 : ∀ w' : World, w'.heap[j.q]? = w.heap[j.q]? → w'.cell? ⟨j.q, 1, none⟩ = some (.int .i64 j.ar) := fun w' q => (hJ1.at q).cell 1 rfl
    refine hs_begin (S := (fun w' : World => w'.heap[j.q]? = w.heap[j.q]?)) 10 rfl (by kernel_rfl) ?_
    rw [hw8]
    clear hw8
    have hS : (fun w' : World => w'.heap[j.q]? = w.heap[j.q]?) w8 := B18.block _ hJ1.lt
    refine hs_take (i := 0) (d := some 9) (v := ?_) rfl (by kernel_rfl) (by kernel_rfl) (by kernel_rfl) (by rfl) ?_ hS rfl ?_
    rotate_left
    · intro w' hw
      go_simp
      try with_reducible rfl
    simp only [Act.put, List.setIfInBounds_toArray, List.set_cons_zero, List.set_cons_succ]
    refine hs_take (i := 1) (d := some 10) (v := ?_) rfl (by kernel_rfl) (by kernel_rfl) (by kernel_rfl) (by rfl) ?_ hS rfl ?_
    rotate_left
    · intro w' hw
      go_simp
      try with_reducible rfl
    simp only [Act.put, List.setIfInBounds_toArray, List.set_cons_zero, List.set_cons_succ]
    refine hs_take (i := 2) (d := some 11) (v := ?_) rfl (by kernel_rfl) (by kernel_rfl) (by kernel_rfl) (by rfl) ?_ hS rfl ?_
    rotate_left
    · intro w' hw
      go_simp
      try with_reducible rfl
    simp only [Act.put, List.setIfInBounds_toArray, List.set_cons_zero, List.set_cons_succ]
    refine hs_take (i := 3) (d := some 12) (v := ?_) rfl (by kernel_rfl) (by kernel_rfl) (by kernel_rfl) (by rfl) ?_ hS rfl ?_
    rotate_left
    · intro w' hw
      have hc := x0 w' hw
      go_simp
      try with_reducible rfl
    simp only [Act.put, List.setIfInBounds_toArray, List.set_cons_zero, List.set_cons_succ]
    refine hs_take (i := 4) (d := some 13) (v := ?_) rfl (by kernel_rfl) (by kernel_rfl) (by kernel_rfl) (by rfl) ?_ hS rfl ?_
    rotate_left
    · intro w' hw
      go_simp
      try with_reducible rfl
    simp only [Act.put, List.setIfInBounds_toArray, List.set_cons_zero, List.set_cons_succ]
    refine hs_take (i := 5) (d := some 14) (v := ?_) rfl (by kernel_rfl) (by kernel_rfl) (by kernel_rfl) (by rfl) ?_ hS rfl ?_
    rotate_left
    · intro w' hw
      go_simp
      try with_reducible rfl
    simp only [Act.put, List.setIfInBounds_toArray, List.set_cons_zero, List.set_cons_succ]
    refine hs_take (i := 6) (d := some 15) (v := ?_) rfl (by kernel_rfl) (by kernel_rfl) (by kernel_rfl) (by rfl) ?_ hS rfl ?_
    rotate_left
    · intro w' hw
      go_simp
      try with_reducible rfl
    simp only [Act.put, List.setIfInBounds_toArray, List.set_cons_zero, List.set_cons_succ]
    refine hs_take (i := 7) (d := some 16) (v := ?_) rfl (by kernel_rfl) (by kernel_rfl) (by kernel_rfl) (by rfl) ?_ hS rfl ?_
    rotate_left
    · intro w' hw
      have hc := x1 w' hw
      go_simp
      try with_reducible rfl
    simp only [Act.put, List.setIfInBounds_toArray, List.set_cons_zero, List.set_cons_succ]
    refine hs_call (i := 8) (d := some 17) rfl (by kernel_rfl) (by rfl) (by go_simp; first | done | exact ⟨rfl, rfl⟩ | with_reducible rfl) rfl ?_
    refine (live_sync (hT.below B8) hA8 j.ar).mono ?_
    rintro e' wB ⟨rfl, hTB, hOB⟩
    have hS : (fun w' : World => w'.heap[j.q]? = w.heap[j.q]?) wB := (hOB.2 _ hq8 (fun q => q hAq)).trans hS
    refine ⟨_, rfl, hS, ?_⟩
    simp only [Act.put, List.setIfInBounds_toArray, List.set_cons_zero, List.set_cons_succ]
    refine hs_take (i := 9) (d := some 2) (v := ?_) rfl (by kernel_rfl) (by kernel_rfl) (by kernel_rfl) (by rfl) ?_ hS rfl ?_
    rotate_left
    · intro w' hw
      go_simp
      try with_reducible rfl
    simp only [Act.put, List.setIfInBounds_toArray, List.set_cons_zero, List.set_cons_succ]
    refine hs_done (by kernel_rfl) ?_
    rw [hse.out] at hTB
    have HF := hide (And.intro hTB (And.intro (hJ1.at hS) ((Off.of_below (F := fun b => ¬ A b) B8).trans hOB (fun _ _ q => q))))
    rw [hse.out]
    clear hTB hS hOB x0 x1
    go_wp2_with fail
    go_ret
    exact ⟨rfl, HF.out⟩
set_option maxRecDepth 100000 in
set_option maxHeartbeats 4000000 in
theorem jappend_any (j : Jv) (M : Mt) (A : Nat → Prop) (a : Option Addr) (cap : Nat) (zs : List Int) (w0 : World) (h : JAt w0 j) (hT : Live A w0 j.p M) (hA : ∀ b, A b → b < w0.heap.size) (hAq : A j.q) (hz : RowAt w0 a zs) :
    Calls Tryz.prog 20 #[jptr j, .slice a zs.length cap] w0 fun e w' => e = .returned (.int .i64 (M.jappend j zs).1) ∧ Live A w' j.p (M.jappend j zs).2 ∧ JAt w' j ∧ Off (fun b => ¬ A b) w0 w' := by
  have hb1 : Below w0.heap.size w0 (w0.alloc (.cells #[.slice a zs.length cap] 35)) := (Below.refl _ _).alloc (Nat.le_refl _) _
  have hR1 : RowOf Rc.cells (w0.alloc (.cells #[.slice a zs.length cap] 35)) (some ⟨w0.heap.size, 0, none⟩) [⟨a, cap, zs⟩] := .inr ⟨w0.heap.size, 0, rfl, by simp, range_new w0 #[.slice a zs.length cap] 35⟩
  have cT := jtakes_any j M A (some ⟨w0.heap.size, 0, none⟩) 1 [⟨a, cap, zs⟩] _ (h.below hb1) (hT.below hb1) hR1 (by unfold maxLen; simp)
  have hq := h.lt
  have hzl := hz.1
  unfold maxLen at hzl
  unfold Mt.jappend
  unfold jptr at *
  have stay : ∀ w', Below w0.heap.size w0 w' → Live A w' j.p M ∧ JAt w' j ∧ Off (fun b => ¬ A b) w0 w' := fun w' hb => ⟨hT.below hb, h.below hb, Off.of_below hb⟩
  cases hon : M.jon j.fs
  · rw [hon, show takesE false [⟨a, cap, zs⟩] = 150 from rfl] at cT
    rw [if_neg (by simp)]
    clear hon
    go_enter Tryz.func20, Tryz.ntmps20
    go_wp2_with fail
    refine cT.mono ?_
    rintro e w1 ⟨rfl, hB1⟩
    have HF := hide (stay w1 (hb1.trans (hB1.mono hb1.size)))
    clear cT h hT stay
    go_wp2_with fail
    go_ret
    exact ⟨rfl, HF.out⟩
  · rw [if_pos rfl]
    by_cases hlong : zs.length ≤ 4194304
    rotate_left
    · rw [hon, show takesE true [⟨a, cap, zs⟩] = 3 by unfold takesE; simp [hlong]] at cT
      rw [if_neg hlong]
      clear hon
      go_enter Tryz.func20, Tryz.ntmps20
      go_wp2_with fail
      refine cT.mono ?_
      rintro e w1 ⟨rfl, hB1⟩
      have HF := hide (stay w1 (hb1.trans (hB1.mono hb1.size)))
      clear cT h hT stay
      go_wp2_with fail
      go_ret
      exact ⟨rfl, HF.out⟩
    · rw [hon, show takesE true [⟨a, cap, zs⟩] = 0 by unfold takesE; simp [hlong]] at cT
      rw [if_pos hlong]
      clear hon stay
      have hfl : (Ty.frameL 68 (strOf zs)).length ≤ 100000000 := by
        have := Ty.Tal.putL_length (((strOf zs).size : Nat) : Int) (by rw [Ty.strOf_size]; omega)
        simp only [Ty.frameL, Ty.sumL, Ty.kindL, Ty.textL, List.length_append, List.length_cons, List.length_nil, Ty.strL_length, Ty.strOf_size] at *
        omega
      have hfresh : ∀ {w8 wB : World} {fa : Option Addr} {fc : Nat}, Ty.Mine wB w8.heap.size (.slice fa (Ty.frameL 68 (strOf zs)).length fc) (Ty.frameL 68 (strOf zs)) → Ty.frameL 68 (strOf zs) = [] ∨ ∀ x, fa = some x → More A w8 wB x.block := fun {w8 wB fa fc} hm => by
        rcases own_range hm.1 with ⟨e1, e2, _⟩ | ⟨g, c, e1, e2, e3, _⟩
        · left; exact List.eq_nil_of_length_eq_zero e2
        · right
          intro x hx
          simp only [Value.slice.injEq] at e1
          rw [hx] at e1
          have := e1.1
          simp only [Option.some.injEq] at this
          subst this
          exact .inr ⟨e2, e3⟩
      obtain ⟨se, hse⟩ : ∃ se, Hid (M.append j.ar (Ty.frameL 68 (strOf zs)) = se) := ⟨_, hide rfl⟩
      rw [hse.out]
      go_enter Tryz.func20, Tryz.ntmps20
      go_wp2_with fail
      refine cT.mono ?_
      rintro e w ⟨rfl, hB1'⟩
      clear cT
      have hB1 := hb1.trans (hB1'.mono hb1.size)
      have hJ1 := h.below hB1
      go_wp2_with fail
      obtain ⟨w8, hw8⟩ : ∃ w8, w.drew = w8 := ⟨_, rfl⟩
      have B18 : Below w.heap.size w w8 := by rw [← hw8]; exact (Below.refl _ _).drew
      have B8 : Below w0.heap.size w0 w8 := hB1.trans (B18.mono hB1.size)
      have hA8 : ∀ b, A b → b < w8.heap.size := fun b hb => Nat.lt_of_lt_of_le (hA b hb) B8.size
      have hq8 : j.q < w8.heap.size := Nat.lt_of_lt_of_le hq B8.size
      have x0 : ∀ w' : World, w'.heap[j.q]? = w.heap[j.q]? → w'.cell? ⟨j.q, 0, none⟩ = some (.pointer (some ⟨j.p, 0, none⟩)) := fun w' q => (hJ1.at q).cell 0 rfl
      have x1 : ∀ w' : World, w'.heap[j.q]? = w.heap[j.q]? → w'.cell? ⟨j.q, 1, none⟩ = some (.int .i64 j.ar) := fun w' q => (hJ1.at q).cell 1 rfl
      refine hs_begin (S := (fun w' : World => w'.heap[j.q]? = w.heap[j.q]?)) 12 rfl (by kernel_rfl) ?_
      rw [hw8]
      clear hw8
      have hS : (fun w' : World => w'.heap[j.q]? = w.heap[j.q]?) w8 := B18.block _ hJ1.lt
      refine hs_take (i := 0) (d := some 13) (v := ?_) rfl (by kernel_rfl) (by kernel_rfl) (by kernel_rfl) (by rfl) ?_ hS rfl ?_
      rotate_left
      · intro w' hw
        go_simp
        try with_reducible rfl
      simp only [Act.put, List.setIfInBounds_toArray, List.set_cons_zero, List.set_cons_succ]
      refine hs_take (i := 1) (d := some 14) (v := ?_) rfl (by kernel_rfl) (by kernel_rfl) (by kernel_rfl) (by rfl) ?_ hS rfl ?_
      rotate_left
      · intro w' hw
        go_simp
        try with_reducible rfl
      simp only [Act.put, List.setIfInBounds_toArray, List.set_cons_zero, List.set_cons_succ]
      refine hs_take (i := 2) (d := some 15) (v := ?_) rfl (by kernel_rfl) (by kernel_rfl) (by kernel_rfl) (by rfl) ?_ hS rfl ?_
      rotate_left
      · intro w' hw
        go_simp
        try with_reducible rfl
      simp only [Act.put, List.setIfInBounds_toArray, List.set_cons_zero, List.set_cons_succ]
      refine hs_take (i := 3) (d := some 16) (v := ?_) rfl (by kernel_rfl) (by kernel_rfl) (by kernel_rfl) (by rfl) ?_ hS rfl ?_
      rotate_left
      · intro w' hw
        have hc := x0 w' hw
        go_simp
        try with_reducible rfl
      simp only [Act.put, List.setIfInBounds_toArray, List.set_cons_zero, List.set_cons_succ]
      refine hs_take (i := 4) (d := some 17) (v := ?_) rfl (by kernel_rfl) (by kernel_rfl) (by kernel_rfl) (by rfl) ?_ hS rfl ?_
      rotate_left
      · intro w' hw
        go_simp
        try with_reducible rfl
      simp only [Act.put, List.setIfInBounds_toArray, List.set_cons_zero, List.set_cons_succ]
      refine hs_take (i := 5) (d := some 18) (v := ?_) rfl (by kernel_rfl) (by kernel_rfl) (by kernel_rfl) (by rfl) ?_ hS rfl ?_
      rotate_left
      · intro w' hw
        go_simp
        try with_reducible rfl
      simp only [Act.put, List.setIfInBounds_toArray, List.set_cons_zero, List.set_cons_succ]
      refine hs_take (i := 6) (d := some 19) (v := ?_) rfl (by kernel_rfl) (by kernel_rfl) (by kernel_rfl) (by rfl) ?_ hS rfl ?_
      rotate_left
      · intro w' hw
        go_simp
        try with_reducible rfl
      simp only [Act.put, List.setIfInBounds_toArray, List.set_cons_zero, List.set_cons_succ]
      refine hs_take (i := 7) (d := some 20) (v := ?_) rfl (by kernel_rfl) (by kernel_rfl) (by kernel_rfl) (by rfl) ?_ hS rfl ?_
      rotate_left
      · intro w' hw
        have hc := x1 w' hw
        go_simp
        try with_reducible rfl
      simp only [Act.put, List.setIfInBounds_toArray, List.set_cons_zero, List.set_cons_succ]
      refine hs_take (i := 8) (d := some 21) (v := ?_) rfl (by kernel_rfl) (by kernel_rfl) (by kernel_rfl) (by rfl) ?_ hS rfl ?_
      rotate_left
      · intro w' hw
        go_simp
        try with_reducible rfl
      simp only [Act.put, List.setIfInBounds_toArray, List.set_cons_zero, List.set_cons_succ]
      refine hs_call (i := 9) (d := some 22) rfl (by kernel_rfl) (by rfl) (by go_simp; first | done | exact ⟨rfl, rfl⟩ | with_reducible rfl) rfl ?_
      refine (Ty.frame_any 68 a cap zs w8 (hz.below B8) (by omega) (by omega)).mono ?_
      rintro e' wB ⟨vF, rfl, hMF, hBF⟩
      obtain ⟨fa, fc, rfl, -, -, hRF⟩ := hMF.row (by omega)
      have hS : (fun w' : World => w'.heap[j.q]? = w.heap[j.q]?) wB := (hBF.block _ hq8).trans hS
      refine ⟨_, rfl, hS, ?_⟩
      simp only [Act.put, List.setIfInBounds_toArray, List.set_cons_zero, List.set_cons_succ]
      refine hs_call (i := 10) (d := some 23) rfl (by kernel_rfl) (by rfl) (by go_simp; first | done | exact ⟨rfl, rfl⟩ | with_reducible rfl) rfl ?_
      refine (live_append ((hT.below B8).widen hBF) (More.lt hA8 hBF.size) j.ar fa fc (Ty.frameL 68 (strOf zs)) hRF (hfresh hMF)).mono ?_
      rintro e' wC ⟨rfl, hTC, hOC⟩
      have hS : (fun w' : World => w'.heap[j.q]? = w.heap[j.q]?) wC := (hOC.2 _ (Nat.lt_of_lt_of_le hq8 hBF.size) (fun q => q (.inl hAq))).trans hS
      refine ⟨_, rfl, hS, ?_⟩
      simp only [Act.put, List.setIfInBounds_toArray, List.set_cons_zero, List.set_cons_succ]
      refine hs_take (i := 11) (d := some 4) (v := ?_) rfl (by kernel_rfl) (by kernel_rfl) (by kernel_rfl) (by rfl) ?_ hS rfl ?_
      rotate_left
      · intro w' hw
        go_simp
        try with_reducible rfl
      simp only [Act.put, List.setIfInBounds_toArray, List.set_cons_zero, List.set_cons_succ]
      refine hs_done (by kernel_rfl) ?_
      rw [hse.out] at hTC
      have HF := hide (And.intro (hTC.narrow (A' := A) (fun b hb => .inl hb)) (And.intro (hJ1.at hS) (((Off.of_below (F := fun b => ¬ A b) B8).trans (Off.of_below (F := fun b => ¬ A b) hBF) (fun _ _ q => q)).trans (hOC.mono (fun b _ q q1 => q (.inl q1))) (fun _ _ q => q))))
      rw [hse.out]
      clear hTC hS hOC x0 x1 hMF hRF hfresh
      go_wp2_with fail
      go_ret
      exact ⟨rfl, HF.out⟩
end Go.Proofs.YtfkchnjbbbhmjaaGreat
namespace Go.Proofs.YtfkchnjbbbhmjaaGreat
open Go.RowKit
theorem frame_len (k : Int) (zs : List Int) (h : zs.length ≤ 100000000) : (Ty.frameL k (strOf zs)).length ≤ 100000020 := by
  have := Ty.Tal.putL_length (((strOf zs).size : Nat) : Int) (by rw [Ty.strOf_size]; omega)
  simp only [Ty.frameL, Ty.sumL, Ty.kindL, Ty.textL, List.length_append, List.length_cons, List.length_nil, Ty.strL_length, Ty.strOf_size] at *
  omega
theorem mine_fresh {A : Nat → Prop} {w8 wB : World} {fa : Option Addr} {n fc : Nat} {L : List Int} (hm : Ty.Mine wB w8.heap.size (.slice fa n fc) L) : L = [] ∨ ∀ x, fa = some x → More A w8 wB x.block := by
  rcases own_range hm.1 with ⟨e1, e2, _⟩ | ⟨g, c, e1, e2, e3, _⟩
  · left; exact List.eq_nil_of_length_eq_zero e2
  · right
    intro x hx
    simp only [Value.slice.injEq] at e1
    rw [hx] at e1
    have := e1.1
    simp only [Option.some.injEq] at this
    subst this
    exact .inr ⟨e2, e3⟩
theorem nilRow {w : World} : RowAt w none [] := ⟨by unfold maxLen; simp, by simp, .inl rfl⟩
/-- records, one behind the other -/
def layRecs (area : Int) : List (List Int) → Mt → Int × Mt
  | [], M => (0, M)
  | z :: zs, M => if (M.append area (Ty.frameL 68 (strOf z))).1 = 0 then layRecs area zs (M.append area (Ty.frameL 68 (strOf z))).2 else M.append area (Ty.frameL 68 (strOf z))
/-- only if there was no error ahead -/
def onward (r : Int × Mt) (f : Mt → Int × Mt) : Int × Mt := if r.1 = 0 then f r.2 else r
def writeM (M : Mt) (area tu : Int) (zss : List (List Int)) : Int × Mt :=
  onward (M.empty area) fun M1 => onward (layRecs area zss M1) fun M2 => onward (M2.append area (Ty.frameL 71 (strOf (Ty.Tal.putL tu)))) fun M3 => M3.sync area
set_option maxRecDepth 100000 in
set_option maxHeartbeats 4000000 in
theorem jwrite_any (j : Jv) (M : Mt) (A : Nat → Prop) (ar tu : Int) (ra : Option Addr) (rc : Nat) (rs : List Rc) (w0 : World) (h : JAt w0 j) (hT : Live A w0 j.p M) (hA : ∀ b, A b → b < w0.heap.size) (hAq : A j.q) (htu : tu ≤ 9223372036854775807)
    (hr : RowOf Rc.cells w0 ra rs) (hl : rs.length ≤ maxLen) (hrA : rs = [] ∨ ∀ x, ra = some x → A x.block) (hrs : ∀ r ∈ rs, RowAt w0 r.a r.zs ∧ r.zs.length ≤ 4194304 ∧ (r.zs = [] ∨ ∀ x, r.a = some x → A x.block)) :
    Calls Tryz.prog 64 #[jptr j, .int .i64 ar, .int .i64 tu, .slice ra rs.length rc] w0 fun e w' => e = .returned (.int .i64 (writeM M ar tu (rs.map Rc.zs)).1) ∧ Live A w' j.p (writeM M ar tu (rs.map Rc.zs)).2 ∧ JAt w' j ∧ Off (fun b => ¬ A b) w0 w' := by
  have hx0 := h.cell 0 rfl
  have cC := live_clear hT hA ar
  have hpt := Ty.Tal.putL_length tu (by omega)
  unfold maxLen at hl
  obtain ⟨we, hwe⟩ : ∃ we, writeM M ar tu (rs.map Rc.zs) = we := ⟨_, rfl⟩
  rw [hwe]
  have HW := hide hwe
  clear hwe
  obtain ⟨ce, hce⟩ : ∃ ce, M.empty ar = ce := ⟨_, rfl⟩
  obtain ⟨cE, M1⟩ := ce
  have HC := hide hce
  rw [hce] at cC
  clear hce
  unfold jptr at *
  go_enter Tryz.func64, Tryz.ntmps64
  go_wp2_with fail
  refine cC.mono ?_
  rintro e w1 ⟨rfl, hT1, hO1⟩
  clear cC hx0
  have hJ1 : JAt w1 j := h.at (hO1.2 _ h.lt (fun q => q hAq))
  by_cases hcE : cE = 0
  rotate_left
  · have hz0 : (cE == 0) = false := by simpa using hcE
    have HF : Hid (we = (cE, M1)) := hide (by rw [← HW.out]; unfold writeM onward; rw [HC.out, if_neg hcE])
    clear hcE
    have HG := hide (And.intro hT1 (And.intro hJ1 hO1))
    clear hT1 hO1
    go_wp2_with fail
    go_ret
    exact ⟨by rw [HF.out]; rfl, by rw [HF.out]; exact HG.out⟩
  · subst hcE
    have HW1 : Hid (onward (layRecs ar (rs.map Rc.zs) M1) (fun M2 => onward (M2.append ar (Ty.frameL 71 (strOf (Ty.Tal.putL tu)))) fun M3 => M3.sync ar) = we) := hide (by
      have := HW.out
      unfold writeM at this
      rw [HC.out] at this
      exact this)
    clear HW HC hT
    go_wp2_with fail
    go_loopw [25] (fun iv wr => ∃ (k : Nat) (Mk : Mt), k ≤ rs.length ∧ iv = .int .i64 (k : Int) ∧ Live A wr j.p Mk ∧ JAt wr j ∧ Off (fun b => ¬ A b) w0 wr ∧ Hid (layRecs ar (rs.map Rc.zs) M1 = layRecs ar ((rs.drop k).map Rc.zs) Mk)) (fun iv _ => rs.length - (intOf iv).toNat)
    case atStart => exact ⟨0, M1, by omega, rfl, hT1, hJ1, hO1, hide rfl⟩
    case round =>
      clear hT1 hJ1 hO1
      obtain ⟨k, Mk, hk, rfl, hTw, hJw, hOw, HL⟩ := hrel
      obtain ⟨w, rfl⟩ : ∃ w, w = wr := ⟨_, rfl⟩
      have hAw : ∀ b, A b → b < w.heap.size := fun b hb => Nat.lt_of_lt_of_le (hA b hb) hOw.size
      by_cases hlt : k < rs.length
      · have hltI : (k : Int) < (rs.length : Int) := by omega
        obtain ⟨rb, off, rfl, hrb, hre0⟩ := hr.elem (k := 1) (fun _ _ => rfl) k hlt
        have hAr : A rb := by
          rcases hrA with q | q
          · rw [q] at hlt; simp at hlt
          · exact q _ rfl
        have c0 : w.cell? ⟨rb, off + k, none⟩ = some (.slice rs[k].a rs[k].zs.length rs[k].cap) := by
          have := (range_at hre0 (hOw.2 rb hrb (fun q => q hAr))) 0 _ rfl
          simpa using this
        have hys := hrs _ (List.getElem_mem hlt)
        have HD := hide (List.drop_eq_getElem_cons hlt)
        obtain ⟨y, hy⟩ : ∃ y, Hid (rs[k] = y) := ⟨_, hide rfl⟩
        rw [hy.out] at c0 hys HD
        clear hre0 hy
        obtain ⟨hyr0, hyl, hyA⟩ := hys
        have hyr := hyr0.off hOw (by
          rcases hyA with q | q
          · exact .inl q
          · exact .inr (fun x hx q1 => q1 (q x hx)))
        obtain ⟨ae, hae⟩ : ∃ ae, Hid (Mk.append ar (Ty.frameL 68 (strOf y.zs)) = ae) := ⟨_, hide rfl⟩
        obtain ⟨aE, Ma⟩ := ae
        have HS : Hid (layRecs ar ((rs.drop k).map Rc.zs) Mk = if aE = 0 then layRecs ar ((rs.drop (k + 1)).map Rc.zs) Ma else (aE, Ma)) := hide (by
          rw [HD.out, List.map_cons]
          show (if (Mk.append ar (Ty.frameL 68 (strOf y.zs))).1 = 0 then _ else _) = _
          rw [hae.out])
        go_wp2_with fail
        obtain ⟨w8, hw8⟩ : ∃ w8, w.drew = w8 := ⟨_, rfl⟩
        have B8 : Below w.heap.size w w8 := by rw [← hw8]; exact (Below.refl _ _).drew
        have hA8 : ∀ b, A b → b < w8.heap.size := fun b hb => Nat.lt_of_lt_of_le (hAw b hb) B8.size
        have hq8 : j.q < w8.heap.size := Nat.lt_of_lt_of_le hJw.lt B8.size
        have x0 : ∀ w' : World, w'.heap[j.q]? = w.heap[j.q]? → w'.cell? ⟨j.q, 0, none⟩ = some (.pointer (some ⟨j.p, 0, none⟩)) := fun w' q => (hJw.at q).cell 0 rfl
        refine hs_begin (S := (fun w' : World => w'.heap[j.q]? = w.heap[j.q]?)) 9 rfl (by kernel_rfl) ?_
        rw [hw8]
        clear hw8
        have hS : (fun w' : World => w'.heap[j.q]? = w.heap[j.q]?) w8 := B8.block _ hJw.lt
        refine hs_take (i := 0) (d := some 29) (v := ?_) rfl (by kernel_rfl) (by kernel_rfl) (by kernel_rfl) (by rfl) ?_ hS rfl ?_
        rotate_left
        · intro w' hw
          go_simp
          try with_reducible rfl
        simp only [Act.put, List.setIfInBounds_toArray, List.set_cons_zero, List.set_cons_succ]
        refine hs_take (i := 1) (d := some 30) (v := ?_) rfl (by kernel_rfl) (by kernel_rfl) (by kernel_rfl) (by rfl) ?_ hS rfl ?_
        rotate_left
        · intro w' hw
          go_simp
          try with_reducible rfl
        simp only [Act.put, List.setIfInBounds_toArray, List.set_cons_zero, List.set_cons_succ]
        refine hs_take (i := 2) (d := some 31) (v := ?_) rfl (by kernel_rfl) (by kernel_rfl) (by kernel_rfl) (by rfl) ?_ hS rfl ?_
        rotate_left
        · intro w' hw
          go_simp
          try with_reducible rfl
        simp only [Act.put, List.setIfInBounds_toArray, List.set_cons_zero, List.set_cons_succ]
        refine hs_take (i := 3) (d := some 32) (v := ?_) rfl (by kernel_rfl) (by kernel_rfl) (by kernel_rfl) (by rfl) ?_ hS rfl ?_
        rotate_left
        · intro w' hw
          have hc := x0 w' hw
          go_simp
          try with_reducible rfl
        simp only [Act.put, List.setIfInBounds_toArray, List.set_cons_zero, List.set_cons_succ]
        refine hs_take (i := 4) (d := some 33) (v := ?_) rfl (by kernel_rfl) (by kernel_rfl) (by kernel_rfl) (by rfl) ?_ hS rfl ?_
        rotate_left
        · intro w' hw
          go_simp
          try with_reducible rfl
        simp only [Act.put, List.setIfInBounds_toArray, List.set_cons_zero, List.set_cons_succ]
        refine hs_take (i := 5) (d := some 34) (v := ?_) rfl (by kernel_rfl) (by kernel_rfl) (by kernel_rfl) (by rfl) ?_ hS rfl ?_
        rotate_left
        · intro w' hw
          go_simp
          try with_reducible rfl
        simp only [Act.put, List.setIfInBounds_toArray, List.set_cons_zero, List.set_cons_succ]
        refine hs_call (i := 6) (d := some 35) rfl (by kernel_rfl) (by rfl) (by go_simp; first | done | exact ⟨rfl, rfl⟩ | with_reducible rfl) rfl ?_
        refine (Ty.frame_any 68 y.a y.cap y.zs w8 (hyr.below B8) (by omega) (by omega)).mono ?_
        rintro e' wB ⟨vF, rfl, hMF, hBF⟩
        obtain ⟨fa, fc, rfl, -, -, hRF⟩ := hMF.row (by have := frame_len 68 y.zs (by omega); omega)
        have hS : (fun w' : World => w'.heap[j.q]? = w.heap[j.q]?) wB := (hBF.block _ hq8).trans hS
        refine ⟨_, rfl, hS, ?_⟩
        simp only [Act.put, List.setIfInBounds_toArray, List.set_cons_zero, List.set_cons_succ]
        refine hs_call (i := 7) (d := some 36) rfl (by kernel_rfl) (by rfl) (by go_simp; first | done | exact ⟨rfl, rfl⟩ | with_reducible rfl) rfl ?_
        refine (live_append ((hTw.below B8).widen hBF) (More.lt hA8 hBF.size) ar fa fc (Ty.frameL 68 (strOf y.zs)) hRF (mine_fresh hMF)).mono ?_
        rintro e' wC ⟨rfl, hTC, hOC⟩
        have hS : (fun w' : World => w'.heap[j.q]? = w.heap[j.q]?) wC := (hOC.2 _ (Nat.lt_of_lt_of_le hq8 hBF.size) (fun q => q (.inl hAq))).trans hS
        refine ⟨_, rfl, hS, ?_⟩
        simp only [Act.put, List.setIfInBounds_toArray, List.set_cons_zero, List.set_cons_succ]
        refine hs_take (i := 8) (d := some 12) (v := ?_) rfl (by kernel_rfl) (by kernel_rfl) (by kernel_rfl) (by rfl) ?_ hS rfl ?_
        rotate_left
        · intro w' hw
          go_simp
          try with_reducible rfl
        simp only [Act.put, List.setIfInBounds_toArray, List.set_cons_zero, List.set_cons_succ]
        refine hs_done (by kernel_rfl) ?_
        rw [hae.out] at hTC ⊢
        have hTn := hTC.narrow (A' := A) (fun b hb => .inl hb)
        have hJn := hJw.at hS
        have hOn : Off (fun b => ¬ A b) w0 wC := ((hOw.trans (Off.of_below (F := fun b => ¬ A b) B8) (fun _ _ q => q)).trans (Off.of_below (F := fun b => ¬ A b) hBF) (fun _ _ q => q)).trans (hOC.mono (fun b _ q q1 => q (.inl q1))) (fun _ _ q => q)
        clear hTC hOC hMF hRF x0 hS hTw hOw
        by_cases haE : aE = 0
        · subst haE
          have HN : Hid (layRecs ar (rs.map Rc.zs) M1 = layRecs ar ((rs.drop (k + 1)).map Rc.zs) Ma) := hide (by rw [HL.out, HS.out, if_pos rfl])
          clear HL HS hae HD
          go_wp2_with fail
          go_roundw
          case rel => exact ⟨k + 1, Ma, by omega, by go_num, hTn, hJn, hOn, HN⟩
          case measure => simp [intOf]; omega
        · have hz0 : (aE == 0) = false := by simpa using haE
          have HF : Hid (we = (aE, Ma)) := hide (by
            rw [← HW1.out, HL.out, HS.out, if_neg haE]
            unfold onward
            rw [if_neg haE])
          have HG := hide (And.intro hTn (And.intro hJn hOn))
          clear haE hTn hJn hOn HL HS hae HD
          go_wp2_with fail
          go_ret
          exact ⟨by rw [HF.out]; rfl, by rw [HF.out]; exact HG.out⟩
      · have k1 : ¬ (k : Int) < (rs.length : Int) := by omega
        have HLn : Hid (layRecs ar (rs.map Rc.zs) M1 = (0, Mk)) := hide (by
          rw [HL.out, List.drop_eq_nil_of_le (by omega)]
          rfl)
        obtain ⟨ae, hae⟩ : ∃ ae, Hid (Mk.append ar (Ty.frameL 71 (strOf (Ty.Tal.putL tu))) = ae) := ⟨_, hide rfl⟩
        obtain ⟨aE, Ma⟩ := ae
        have HS : Hid (we = if aE = 0 then Ma.sync ar else (aE, Ma)) := hide (by
          rw [← HW1.out, HLn.out]
          show (if (Mk.append ar (Ty.frameL 71 (strOf (Ty.Tal.putL tu)))).1 = 0 then _ else _) = _
          rw [hae.out])
        clear HL HLn
        go_wp2_with fail
        obtain ⟨w8, hw8⟩ : ∃ w8, w.drew = w8 := ⟨_, rfl⟩
        have B8 : Below w.heap.size w w8 := by rw [← hw8]; exact (Below.refl _ _).drew
        have hA8 : ∀ b, A b → b < w8.heap.size := fun b hb => Nat.lt_of_lt_of_le (hAw b hb) B8.size
        have hq8 : j.q < w8.heap.size := Nat.lt_of_lt_of_le hJw.lt B8.size
        have x0 : ∀ w' : World, w'.heap[j.q]? = w.heap[j.q]? → w'.cell? ⟨j.q, 0, none⟩ = some (.pointer (some ⟨j.p, 0, none⟩)) := fun w' q => (hJw.at q).cell 0 rfl
        refine hs_begin (S := (fun w' : World => w'.heap[j.q]? = w.heap[j.q]?)) 10 rfl (by kernel_rfl) ?_
        rw [hw8]
        clear hw8
        have hS : (fun w' : World => w'.heap[j.q]? = w.heap[j.q]?) w8 := B8.block _ hJw.lt
        refine hs_take (i := 0) (d := some 41) (v := ?_) rfl (by kernel_rfl) (by kernel_rfl) (by kernel_rfl) (by rfl) ?_ hS rfl ?_
        rotate_left
        · intro w' hw
          go_simp
          try with_reducible rfl
        simp only [Act.put, List.setIfInBounds_toArray, List.set_cons_zero, List.set_cons_succ]
        refine hs_take (i := 1) (d := some 42) (v := ?_) rfl (by kernel_rfl) (by kernel_rfl) (by kernel_rfl) (by rfl) ?_ hS rfl ?_
        rotate_left
        · intro w' hw
          go_simp
          try with_reducible rfl
        simp only [Act.put, List.setIfInBounds_toArray, List.set_cons_zero, List.set_cons_succ]
        refine hs_take (i := 2) (d := some 43) (v := ?_) rfl (by kernel_rfl) (by kernel_rfl) (by kernel_rfl) (by rfl) ?_ hS rfl ?_
        rotate_left
        · intro w' hw
          go_simp
          try with_reducible rfl
        simp only [Act.put, List.setIfInBounds_toArray, List.set_cons_zero, List.set_cons_succ]
        refine hs_take (i := 3) (d := some 44) (v := ?_) rfl (by kernel_rfl) (by kernel_rfl) (by kernel_rfl) (by rfl) ?_ hS rfl ?_
        rotate_left
        · intro w' hw
          have hc := x0 w' hw
          go_simp
          try with_reducible rfl
        simp only [Act.put, List.setIfInBounds_toArray, List.set_cons_zero, List.set_cons_succ]
        refine hs_take (i := 4) (d := some 45) (v := ?_) rfl (by kernel_rfl) (by kernel_rfl) (by kernel_rfl) (by rfl) ?_ hS rfl ?_
        rotate_left
        · intro w' hw
          go_simp
          try with_reducible rfl
        simp only [Act.put, List.setIfInBounds_toArray, List.set_cons_zero, List.set_cons_succ]
        refine hs_take (i := 5) (d := some 46) (v := ?_) rfl (by kernel_rfl) (by kernel_rfl) (by kernel_rfl) (by rfl) ?_ hS rfl ?_
        rotate_left
        · intro w' hw
          go_simp
          try with_reducible rfl
        simp only [Act.put, List.setIfInBounds_toArray, List.set_cons_zero, List.set_cons_succ]
        refine hs_call (i := 6) (d := some 47) rfl (by kernel_rfl) (by rfl) (by go_simp; first | done | exact ⟨rfl, rfl⟩ | with_reducible rfl) rfl ?_
        refine (Ty.put_any none 0 [] tu w8 nilRow (by simp) (by omega)).mono ?_
        rintro e' wA ⟨vP, rfl, hMP, hBP⟩
        rw [List.nil_append] at hMP
        obtain ⟨pa, pc, rfl, -, -, hRP⟩ := hMP.row (by omega)
        have hS : (fun w' : World => w'.heap[j.q]? = w.heap[j.q]?) wA := (hBP.block _ hq8).trans hS
        refine ⟨_, rfl, hS, ?_⟩
        simp only [Act.put, List.setIfInBounds_toArray, List.set_cons_zero, List.set_cons_succ]
        refine hs_call (i := 7) (d := some 48) rfl (by kernel_rfl) (by rfl) (by go_simp; first | done | exact ⟨rfl, rfl⟩ | with_reducible rfl) rfl ?_
        refine (Ty.frame_any 71 pa pc (Ty.Tal.putL tu) wA hRP (by omega) (by omega)).mono ?_
        rintro e' wB ⟨vF, rfl, hMF, hBF⟩
        obtain ⟨fa, fc, rfl, -, -, hRF⟩ := hMF.row (by have := frame_len 71 (Ty.Tal.putL tu) (by omega); omega)
        have hS : (fun w' : World => w'.heap[j.q]? = w.heap[j.q]?) wB := (hBF.block _ (Nat.lt_of_lt_of_le hq8 hBP.size)).trans hS
        refine ⟨_, rfl, hS, ?_⟩
        simp only [Act.put, List.setIfInBounds_toArray, List.set_cons_zero, List.set_cons_succ]
        refine hs_call (i := 8) (d := some 49) rfl (by kernel_rfl) (by rfl) (by go_simp; first | done | exact ⟨rfl, rfl⟩ | with_reducible rfl) rfl ?_
        refine (live_append ((hTw.below (B8.trans (hBP.mono B8.size))).widen hBF) (More.lt (fun b hb => Nat.lt_of_lt_of_le (hA8 b hb) hBP.size) hBF.size) ar fa fc (Ty.frameL 71 (strOf (Ty.Tal.putL tu))) hRF (mine_fresh hMF)).mono ?_
        rintro e' wC ⟨rfl, hTC, hOC⟩
        have hS : (fun w' : World => w'.heap[j.q]? = w.heap[j.q]?) wC := (hOC.2 _ (Nat.lt_of_lt_of_le (Nat.lt_of_lt_of_le hq8 hBP.size) hBF.size) (fun q => q (.inl hAq))).trans hS
        refine ⟨_, rfl, hS, ?_⟩
        simp only [Act.put, List.setIfInBounds_toArray, List.set_cons_zero, List.set_cons_succ]
        refine hs_take (i := 9) (d := some 13) (v := ?_) rfl (by kernel_rfl) (by kernel_rfl) (by kernel_rfl) (by rfl) ?_ hS rfl ?_
        rotate_left
        · intro w' hw
          go_simp
          try with_reducible rfl
        simp only [Act.put, List.setIfInBounds_toArray, List.set_cons_zero, List.set_cons_succ]
        refine hs_done (by kernel_rfl) ?_
        rw [hae.out] at hTC ⊢
        have hTn := hTC.narrow (A' := A) (fun b hb => .inl hb)
        have hJn := hJw.at hS
        have hOn : Off (fun b => ¬ A b) w0 wC := (((hOw.trans (Off.of_below (F := fun b => ¬ A b) B8) (fun _ _ q => q)).trans (Off.of_below (F := fun b => ¬ A b) hBP) (fun _ _ q => q)).trans (Off.of_below (F := fun b => ¬ A b) hBF) (fun _ _ q => q)).trans (hOC.mono (fun b _ q q1 => q (.inl q1))) (fun _ _ q => q)
        have hAn : ∀ b, A b → b < wC.heap.size := fun b hb => Nat.lt_of_lt_of_le (hA b hb) hOn.size
        clear hTC hOC hMF hRF hMP hRP x0 hS hTw hOw
        by_cases haE : aE = 0
        · subst haE
          have cY := live_sync hTn hAn ar
          have xn := hJn.cell 0 rfl
          rw [if_pos rfl] at HS
          rw [← HS.out] at cY
          clear hTn
          go_wp2_with fail
          refine cY.mono ?_
          rintro e w9 ⟨rfl, hT9, hO9⟩
          have HG := hide (And.intro hT9 (And.intro (hJn.at (hO9.2 _ hJn.lt (fun q => q hAq))) (hOn.trans hO9 (fun _ _ q => q))))
          clear cY hT9 hO9
          go_wp2_with fail
          go_ret
          exact ⟨rfl, HG.out⟩
        · have hz0 : (aE == 0) = false := by simpa using haE
          rw [if_neg haE] at HS
          have HG := hide (And.intro hTn (And.intro hJn hOn))
          clear haE hTn hJn hOn
          go_wp2_with fail
          go_ret
          exact ⟨by rw [HS.out]; rfl, by rw [HS.out]; exact HG.out⟩
end Go.Proofs.YtfkchnjbbbhmjaaGreat
namespace Go.Proofs.YtfkchnjbbbhmjaaGreat
open Go.RowKit
structure Jv.ok (j : Jv) : Prop where
  a0 : 0 ≤ j.ar
  a1 : j.ar ≤ 1
  t0 : 0 ≤ j.tu
  t1 : j.tu ≤ 1099511627776
/-- what Lay comes to: the error, the tape, the journal -/
structure LayR where
  e : Int
  M : Mt
  j : Jv
def layW (j : Jv) (r : Int × Mt) : LayR :=
  if r.1 = 0 then ⟨0, r.2, { j with ar := 1 - j.ar, tu := j.tu + 1 }⟩
  else if r.1 = 151 then if (r.2.empty (1 - j.ar)).1 = 0 then ⟨151, (r.2.empty (1 - j.ar)).2, j⟩ else ⟨(r.2.empty (1 - j.ar)).1, (r.2.empty (1 - j.ar)).2, j⟩
  else ⟨r.1, r.2, j⟩
def layM (M : Mt) (j : Jv) (rs : List Rc) : LayR :=
  if takesE (M.jon j.fs) rs = 0 then if 1099511627776 ≤ j.tu then ⟨2, M, j⟩ else layW j (writeM M (1 - j.ar) (j.tu + 1) (rs.map Rc.zs)) else ⟨takesE (M.jon j.fs) rs, M, j⟩
theorem takes_few {on : Bool} {rs : List Rc} (h : takesE on rs = 0) : ∀ r ∈ rs, r.zs.length ≤ 4194304 := by
  unfold takesE at h
  cases on
  · rw [if_neg (by simp)] at h; cases h
  · rw [if_pos rfl] at h
    split at h
    · assumption
    · cases h
theorem JAt.turned {w : World} {j : Jv} (h : JAt w j) (a t : Int) : JAt ((w.setCell ⟨j.q, 1, none⟩ (.int .i64 a)).setCell ⟨j.q, 2, none⟩ (.int .i64 t)) { j with ar := a, tu := t } := by
  have r1 := range_set h.c 1 (.int .i64 a)
  rw [Nat.zero_add] at r1
  have r2 := range_set r1 2 (.int .i64 t)
  rw [Nat.zero_add] at r2
  exact ⟨r2, there_set (there_set h.th _ _) _ _⟩
set_option maxRecDepth 100000 in
set_option maxHeartbeats 4000000 in
theorem jlay_any (j : Jv) (M : Mt) (A : Nat → Prop) (ra : Option Addr) (rc : Nat) (rs : List Rc) (w0 : World) (h : JAt w0 j) (hj : j.ok) (hT : Live A w0 j.p M) (hA : ∀ b, A b → b < w0.heap.size) (hAq : A j.q)
    (hr : RowOf Rc.cells w0 ra rs) (hl : rs.length ≤ maxLen) (hrA : rs = [] ∨ ∀ x, ra = some x → A x.block ∧ x.block ≠ j.q) (hrs : ∀ r ∈ rs, RowAt w0 r.a r.zs ∧ (r.zs = [] ∨ ∀ x, r.a = some x → A x.block)) :
    Calls Tryz.prog 35 #[jptr j, .slice ra rs.length rc] w0 fun e w' => e = .returned (.int .i64 (layM M j rs).e) ∧ Live A w' j.p (layM M j rs).M ∧ JAt w' (layM M j rs).j ∧ Off (fun b => b = j.q ∨ ¬ A b) w0 w' := by
  have cT := jtakes_any j M A ra rc rs w0 h hT hr hl
  have ha0 := hj.a0
  have ha1 := hj.a1
  have ht0 := hj.t0
  have ht1 := hj.t1
  have offm : ∀ {w w' : World}, Off (fun b => ¬ A b) w w' → Off (fun b => b = j.q ∨ ¬ A b) w w' := fun h => h.mono (fun _ _ q => .inr q)
  unfold layM
  unfold jptr at *
  by_cases hte : takesE (M.jon j.fs) rs = 0
  rotate_left
  · rw [if_neg hte]
    obtain ⟨te, htx⟩ : ∃ te, Hid (takesE (M.jon j.fs) rs = te) := ⟨_, hide rfl⟩
    rw [htx.out] at cT hte ⊢
    have hz0 : (te == 0) = false := by simpa using hte
    clear hte
    go_enter Tryz.func35, Tryz.ntmps35
    go_wp2_with fail
    refine cT.mono ?_
    rintro e w1 ⟨rfl, hB1⟩
    have HF := hide (And.intro (hT.below hB1) (And.intro (h.below hB1) (offm (Off.of_below (F := fun b => ¬ A b) hB1))))
    clear cT h hT
    go_wp2_with fail
    go_ret
    exact ⟨rfl, HF.out⟩
  · rw [if_pos hte]
    have hfew := takes_few hte
    rw [hte] at cT
    clear hte
    by_cases htm : 1099511627776 ≤ j.tu
    · rw [if_pos htm]
      go_enter Tryz.func35, Tryz.ntmps35
      go_wp2_with fail
      refine cT.mono ?_
      rintro e w1 ⟨rfl, hB1⟩
      have HF := hide (And.intro (hT.below hB1) (And.intro (h.below hB1) (offm (Off.of_below (F := fun b => ¬ A b) hB1))))
      have x2 := (h.below hB1).cell 2 rfl
      clear cT h hT
      go_wp2_with fail
      go_ret
      exact ⟨rfl, HF.out⟩
    · rw [if_neg htm]
      have hA1 : ∀ w1 : World, Below w0.heap.size w0 w1 → ∀ b, A b → b < w1.heap.size := fun w1 hb b hb' => Nat.lt_of_lt_of_le (hA b hb') hb.size
      have cW := fun w1 (hb : Below w0.heap.size w0 w1) => jwrite_any j M A (1 - j.ar) (j.tu + 1) ra rc rs w1 (h.below hb) (hT.below hb) (hA1 w1 hb) hAq (by omega) (hr.below hb) hl (hrA.imp id (fun q x hx => (q x hx).1)) (fun r hrm => ⟨(hrs r hrm).1.below hb, hfew r hrm, (hrs r hrm).2⟩)
      unfold jptr at cW
      obtain ⟨we, hwe⟩ : ∃ we, Hid (writeM M (1 - j.ar) (j.tu + 1) (rs.map Rc.zs) = we) := ⟨_, hide rfl⟩
      obtain ⟨wE, Mw⟩ := we
      simp only [hwe.out] at cW
      rw [hwe.out]
      clear hwe hfew
      obtain ⟨ot, hot⟩ : ∃ ot, Hid (1 - j.ar = ot) := ⟨_, hide rfl⟩
      obtain ⟨nt, hnt⟩ : ∃ nt, Hid (j.tu + 1 = nt) := ⟨_, hide rfl⟩
      have W1 : (1 : Int) - j.ar = ot := hot.out
      have W2 : j.tu + 1 = nt := hnt.out
      have LW : Hid (layW j (wE, Mw) = if wE = 0 then ⟨0, Mw, { j with ar := ot, tu := nt }⟩ else if wE = 151 then if (Mw.empty ot).1 = 0 then ⟨151, (Mw.empty ot).2, j⟩ else ⟨(Mw.empty ot).1, (Mw.empty ot).2, j⟩ else ⟨wE, Mw, j⟩) := hide (by unfold layW; rw [hot.out, hnt.out])
      rw [LW.out]
      simp only [hot.out, hnt.out] at cW
      clear LW hot hnt
      by_cases hw0 : wE = 0
      · subst hw0
        rw [if_pos rfl]
        go_enter Tryz.func35, Tryz.ntmps35
        go_wp2_with fail
        refine cT.mono ?_
        rintro e w1 ⟨rfl, hB1⟩
        clear cT
        have x1 := (h.below hB1).cell 1 rfl
        have x2 := (h.below hB1).cell 2 rfl
        go_wp2_with fail
        go_quiet (fail)
        have cW := cW (w1.drewN nq) (below_drewN hB1 _)
        go_wp2_with fail
        refine cW.mono ?_
        rintro e w3 ⟨rfl, hT3, hJ3, hO3⟩
        clear cW x1 x2
        have y1 := hJ3.cell 1 rfl
        have y2 := hJ3.cell 2 rfl
        have f1 : w3.frozen? ⟨j.q, 1, none⟩ = false := by have := (hJ3.th 1 (by omega)).2; rwa [Nat.zero_add] at this
        have f2 : w3.frozen? ⟨j.q, 2, none⟩ = false := by have := (hJ3.th 2 (by omega)).2; rwa [Nat.zero_add] at this
        have HF : Hid (Live A ((w3.setCell ⟨j.q, 1, none⟩ (.int .i64 ot)).setCell ⟨j.q, 2, none⟩ (.int .i64 nt)) j.p Mw ∧ JAt ((w3.setCell ⟨j.q, 1, none⟩ (.int .i64 ot)).setCell ⟨j.q, 2, none⟩ (.int .i64 nt)) { j with ar := ot, tu := nt } ∧ Off (fun b => b = j.q ∨ ¬ A b) w0 ((w3.setCell ⟨j.q, 1, none⟩ (.int .i64 ot)).setCell ⟨j.q, 2, none⟩ (.int .i64 nt))) := hide (by
          have o1 : Off (fun b => b = j.q) w3 ((w3.setCell ⟨j.q, 1, none⟩ (.int .i64 ot)).setCell ⟨j.q, 2, none⟩ (.int .i64 nt)) := (Off.of_setCell (F := fun b => b = j.q) w3 _ _ rfl).trans (Off.of_setCell (F := fun b => b = j.q) _ _ _ rfl) (fun _ _ q => q)
          exact ⟨hT3.off o1 (fun b q => by rw [q]; exact hAq), hJ3.turned ot nt, ((offm (Off.of_below (F := fun b => ¬ A b) (below_drewN hB1 _))).trans (offm hO3) (fun _ _ q => q)).trans (o1.mono (fun _ _ q => .inl q)) (fun _ _ q => q)⟩)
        clear hT3 hJ3 hO3 h hT
        go_wp2_with fail
        go_ret
        exact ⟨rfl, HF.out⟩
      · rw [if_neg hw0]
        have hz0 : (wE == 0) = false := by simpa using hw0
        by_cases hw1 : wE = 151
        · subst hw1
          rw [if_pos rfl]
          obtain ⟨ce, hce⟩ : ∃ ce, Hid (Mw.empty ot = ce) := ⟨_, hide rfl⟩
          obtain ⟨cE, Mc⟩ := ce
          rw [hce.out]
          by_cases hcE : cE = 0
          · subst hcE
            rw [if_pos rfl]
            clear hw0 hz0
            go_enter Tryz.func35, Tryz.ntmps35
            go_wp2_with fail
            refine cT.mono ?_
            rintro e w1 ⟨rfl, hB1⟩
            clear cT
            have x1 := (h.below hB1).cell 1 rfl
            have x2 := (h.below hB1).cell 2 rfl
            go_wp2_with fail
            go_quiet (fail)
            have cW := cW (w1.drewN nq) (below_drewN hB1 _)
            go_wp2_with fail
            refine cW.mono ?_
            rintro e w3 ⟨rfl, hT3, hJ3, hO3⟩
            clear cW x1 x2
            have y0 := hJ3.cell 0 rfl
            have hA3 : ∀ b, A b → b < w3.heap.size := fun b hb => by have := hA1 _ hB1 b hb; have := hO3.size; simp at this; omega
            have cC := live_clear hT3 hA3 ot
            rw [hce.out] at cC
            go_wp2_with fail
            refine cC.mono ?_
            rintro e w4 ⟨rfl, hT4, hO4⟩
            clear cC
            have HF := hide (And.intro hT4 (And.intro (hJ3.at (hO4.2 _ hJ3.lt (fun q => q hAq))) ((((offm (Off.of_below (F := fun b => ¬ A b) (below_drewN hB1 nq))).trans (offm hO3) (fun _ _ q => q)).trans (offm hO4) (fun _ _ q => q)))))
            clear hT4 hJ3 hO3 h hT hO4
            go_wp2_with fail
            go_ret
            exact ⟨rfl, HF.out⟩
          · rw [if_neg hcE]
            have hc0 : (cE == 0) = false := by simpa using hcE
            clear hw0 hz0 hcE
            go_enter Tryz.func35, Tryz.ntmps35
            go_wp2_with fail
            refine cT.mono ?_
            rintro e w1 ⟨rfl, hB1⟩
            clear cT
            have x1 := (h.below hB1).cell 1 rfl
            have x2 := (h.below hB1).cell 2 rfl
            go_wp2_with fail
            go_quiet (fail)
            have cW := cW (w1.drewN nq) (below_drewN hB1 _)
            go_wp2_with fail
            refine cW.mono ?_
            rintro e w3 ⟨rfl, hT3, hJ3, hO3⟩
            clear cW x1 x2
            have y0 := hJ3.cell 0 rfl
            have hA3 : ∀ b, A b → b < w3.heap.size := fun b hb => by have := hA1 _ hB1 b hb; have := hO3.size; simp at this; omega
            have cC := live_clear hT3 hA3 ot
            rw [hce.out] at cC
            go_wp2_with fail
            refine cC.mono ?_
            rintro e w4 ⟨rfl, hT4, hO4⟩
            clear cC
            have HF := hide (And.intro hT4 (And.intro (hJ3.at (hO4.2 _ hJ3.lt (fun q => q hAq))) ((((offm (Off.of_below (F := fun b => ¬ A b) (below_drewN hB1 nq))).trans (offm hO3) (fun _ _ q => q)).trans (offm hO4) (fun _ _ q => q)))))
            clear hT4 hJ3 hO3 h hT hO4
            go_wp2_with fail
            go_ret
            exact ⟨rfl, HF.out⟩
        · rw [if_neg hw1]
          have hz1 : (wE == 151) = false := by simpa using hw1
          clear hw0 hw1
          go_enter Tryz.func35, Tryz.ntmps35
          go_wp2_with fail
          refine cT.mono ?_
          rintro e w1 ⟨rfl, hB1⟩
          clear cT
          have x1 := (h.below hB1).cell 1 rfl
          have x2 := (h.below hB1).cell 2 rfl
          go_wp2_with fail
          go_quiet (fail)
          have cW := cW (w1.drewN nq) (below_drewN hB1 _)
          go_wp2_with fail
          refine cW.mono ?_
          rintro e w3 ⟨rfl, hT3, hJ3, hO3⟩
          have HF := hide (And.intro hT3 (And.intro hJ3 ((offm (Off.of_below (F := fun b => ¬ A b) (below_drewN hB1 nq))).trans (offm hO3) (fun _ _ q => q))))
          clear cW x1 x2 hT3 hJ3 hO3 h hT
          go_wp2_with fail
          go_ret
          exact ⟨rfl, HF.out⟩
end Go.Proofs.YtfkchnjbbbhmjaaGreat
