/- the journal's Frames -/
import Derived.Test.YtfkchnjbbbhmjabXB7
import Derived.Test.YtfkchnjbbbhmjabXB6
import Derived.RangeFuncBox
import Derived.Sort.CutIn
import Derived.Shelf.Abstract
namespace Go.Proofs.Ytfkchnjbbbhmjab.Ty
open Go Go.RowKit Go.Shelf
open Tal
attribute [local go_sem] Oper.semAt_some
theorem fitting_in (m : Nat) (a : Option Addr) (len cap : Nat) (w : World) :
    CallsIn Fence.wide m Try.prog 63 #[.slice a len cap] w fun e w' => e = .returned (.func (.func 69) #[] #[.pointer (some ⟨w.heap.size, 0, none⟩)]) ∧ w' = w.alloc (.cells #[.slice a len cap] 34) := by
  refine callsIn_of_wp Try.func63 rfl trivial ?_ rfl
  simp only [Try.ntmps63, List.size_toArray, List.length_cons, List.length_nil, Nat.reduceAdd, Nat.reduceSub, Array.replicate_succ, Array.replicate_zero, List.push_toArray, List.append_toArray, List.nil_append, List.cons_append]
  gi_wp2
  go_ret
  exact ⟨rfl, rfl⟩
/-- what Frames tells: kinds and records, the records in blocks of their own -/
def FramesJ (B : Nat) (fs : List Fr) (e : Ending) (w : World) : Prop :=
  ∃ vk vr rs, e = .returned (.tuple #[vk, vr]) ∧ Out B w vk vr (fs.map Fr.k) rs rs ∧ rs.map Rc.zs = fs.map Fr.zs ∧ ∀ x ∈ rs, x.zs.length ≤ x.cap ∧ x.cap ≤ maxLen ∧ ∀ ad, x.a = some ad → B ≤ ad.block
/-- what the loop's body may touch -/
def ownF (B1 B2 : Nat) (W : World) (b : Nat) : Prop := b = B1 ∨ b = B2 ∨ (∃ v, W.cell? ⟨B1, 0, none⟩ = some v ∧ v.ownBlock = some b) ∨ (∃ v, W.cell? ⟨B2, 0, none⟩ = some v ∧ v.ownBlock = some b)
def Fx.good (x : Fx) : Bool := decide (x.k = 68) || (decide (x.k = 71) && decide (turnN x.r.zs ≠ 0))
structure FIv (n1 B1 B2 : Nat) (w : World) (pre : List Fx) (W : World) (vk vr : Value) : Prop where
  b1 : Boxed W B1 34 vk
  b2 : Boxed W B2 22 vr
  out : Out n1 W vk vr (pre.map Fx.k) (pre.map Fx.r) (pre.map Fx.r)
  low : Below w.heap.size w W
  xs : ∀ x ∈ pre, x.good = true ∧ x.r.zs.length ≤ x.r.cap ∧ x.r.cap ≤ maxLen ∧ ∀ ad, x.r.a = some ad → n1 ≤ ad.block
def ownV (B1 B2 : Nat) (vk vr : Value) (b : Nat) : Prop := b = B1 ∨ b = B2 ∨ vk.ownBlock = some b ∨ vr.ownBlock = some b
theorem own_iff {B1 B2 : Nat} {W : World} {vk vr : Value} {t1 t2 : TypeId} (h1 : Boxed W B1 t1 vk) (h2 : Boxed W B2 t2 vr) (b : Nat) : ownF B1 B2 W b ↔ ownV B1 B2 vk vr b := by
  constructor
  · rintro (q | q | ⟨v, q1, q2⟩ | ⟨v, q1, q2⟩)
    · exact .inl q
    · exact .inr (.inl q)
    · rw [h1.cell] at q1; cases q1; exact .inr (.inr (.inl q2))
    · rw [h2.cell] at q1; cases q1; exact .inr (.inr (.inr q2))
  · rintro (q | q | q | q)
    · exact .inl q
    · exact .inr (.inl q)
    · exact .inr (.inr (.inl ⟨_, h1.cell, q⟩))
    · exact .inr (.inr (.inr ⟨_, h2.cell, q⟩))
theorem Out.grown {B : Nat} {w w' : World} {vk vr : Value} {ks : List Int} {rs xs : List Rc} {row : Option Nat} (h : Out B w vk vr ks rs xs) (hg : w.grownBy w' row) (h1 : ∀ r, row = some r → vk.ownBlock ≠ some r ∧ vr.ownBlock ≠ some r ∧ ∀ x ∈ xs, x.zs ≠ [] → ∀ ad, x.a = some ad → ad.block ≠ r) : Out B w' vk vr ks rs xs := by
  have ob : ∀ v : Value, (∀ r, row = some r → v.ownBlock ≠ some r) → v.ownBlock = none ∨ v.ownBlock ≠ row := fun v hv => by
    cases hb : v.ownBlock with
    | none => exact .inl rfl
    | some g => exact .inr (fun q => hv g q.symm hb)
  refine ⟨h.k.kept hg ?_, h.kb, h.r.kept hg ?_, h.ap, fun x hx => ?_, fun x hx ad q => ⟨Nat.lt_of_lt_of_le (h.off x hx ad q).1 hg.size, (h.off x hx ad q).2⟩⟩
  · exact ob vk (fun r e => (h1 r e).1)
  · exact ob vr (fun r e => (h1 r e).2.1)
  · have hr := h.rows x hx
    by_cases hz : x.zs = []
    · exact ⟨hr.1, hr.2.1, .inl hz⟩
    · exact RowAt_gbo hr hg (fun ad q e => (h1 _ e).2.2 x hx hz ad q rfl)
theorem Out.cells {B : Nat} {w : World} {vk vr : Value} {ks : List Int} {rs xs : List Rc} (h : Out B w vk vr ks rs xs) {b : Nat} (q : vk.ownBlock = some b ∨ vr.ownBlock = some b) : ∃ o : Obj, w.heap[b]? = some o ∧ o.isCells = true := by
  rcases q with q | q
  · rcases h.k.2 with ⟨e, _⟩ | ⟨g, c, cur, e, _, hg, _⟩
    · rw [e] at q; cases q
    · rw [e] at q; cases q; exact ⟨_, hg, rfl⟩
  · rcases h.r.2 with ⟨e, _⟩ | ⟨g, c, cur, e, _, hg, _⟩
    · rw [e] at q; cases q
    · rw [e] at q; cases q; exact ⟨_, hg, rfl⟩
def FIs (n1 B1 B2 : Nat) (w : World) (pre : List Fx) (W : World) : Prop := ∃ vk vr, FIv n1 B1 B2 w pre W vk vr
def FXs (n1 B1 B2 : Nat) (w : World) (c : Code) (xs : List Fx) (W : World) : Prop := c = .exit 0 ∧ ∃ (mm : List Fx) (x : Fx) (vk vr : Value), xs = mm ++ [x] ∧ FIv n1 B1 B2 w mm W vk vr ∧ x.good = false
theorem FIs.mk {n1 B1 B2 : Nat} {w : World} {pre : List Fx} {W : World} {vk vr : Value} (h : FIv n1 B1 B2 w pre W vk vr) : FIs n1 B1 B2 w pre W := ⟨vk, vr, h⟩
theorem FXs.mk {n1 B1 B2 : Nat} {w : World} {mm : List Fx} {x : Fx} {W : World} {vk vr : Value} (h : FIv n1 B1 B2 w mm W vk vr) (hx : x.good = false) : FXs n1 B1 B2 w (.exit 0) (mm ++ [x]) W := ⟨rfl, mm, x, vk, vr, rfl, h, hx⟩
theorem takes_all {good : Fr → Bool} {goodX : Fx → Bool} (hg : ∀ f x, Fr.key f = Fx.key x → good f = goodX x) : ∀ (fs : List Fr) (mm : List Fx), mm.map Fx.key = fs.map Fr.key → (∀ x ∈ mm, goodX x = true) → (fs.takeWhile good).map Fr.key = mm.map Fx.key
  | [], [], _, _ => rfl
  | [], _ :: _, h, _ => by simp at h
  | _ :: _, [], h, _ => by simp at h
  | f :: fs, x :: mm, h, hx => by
    simp only [List.map_cons, List.cons.injEq] at h
    have h1 := hg f x h.1.symm
    rw [hx x (by simp)] at h1
    rw [List.takeWhile_cons_of_pos h1, List.map_cons, List.map_cons, takes_all hg fs mm h.2 (fun y hy => hx y (by simp [hy])), h.1]
theorem takes_some {good : Fr → Bool} {goodX : Fx → Bool} (hg : ∀ f x, Fr.key f = Fx.key x → good f = goodX x) : ∀ (fs : List Fr) (mm : List Fx) (x : Fx), (mm ++ [x]).map Fx.key <+: fs.map Fr.key → (∀ x ∈ mm, goodX x = true) → goodX x = false → (fs.takeWhile good).map Fr.key = mm.map Fx.key
  | [], [], x, h, _, _ => by simp at h
  | [], _ :: _, x, h, _, _ => by simp at h
  | f :: fs, [], x, h, _, hb => by
    simp only [List.nil_append, List.map_cons, List.map_nil, List.cons_prefix_cons] at h
    have h1 := hg f x h.1.symm
    rw [hb] at h1
    rw [List.takeWhile_cons_of_neg (by simp [h1])]
    rfl
  | f :: fs, y :: mm, x, h, hx, hb => by
    simp only [List.cons_append, List.map_cons, List.cons_prefix_cons] at h
    have h1 := hg f y h.1.symm
    rw [hx y (by simp)] at h1
    rw [List.takeWhile_cons_of_pos h1, List.map_cons, List.map_cons, takes_some hg fs mm x h.2 (fun z hz => hx z (by simp [hz])) hb, h.1]
theorem good_key (f : Fr) (x : Fx) (h : Fr.key f = Fx.key x) : f.good = x.good := by
  simp only [Fr.key, Fx.key, Prod.mk.injEq] at h
  unfold Fr.good Fx.good
  rw [h.1, h.2]
theorem results_cell2 {fn : Func} {p q : Tmp} {t u : TypeId} (h : fn.results = #[.cell p t, .cell q u]) (tmps : Array Value) (P : Program) (w : World) {a b : Addr} {v x : Value} (ha : tmps.getD p undef = .pointer (some a)) (hb : tmps.getD q undef = .pointer (some b)) (hv : (loadVar t a).run P w = .ok v w) (hx : (loadVar u b).run P w = .ok x w) :
    (results fn tmps).run P w = .ok (.tuple #[v, x]) w := by
  simp only [Array.getD_eq_getD_getElem?] at ha hb
  simp only [results, h]
  simp [Sem.run_bind, Result.andThen, ha, hb, asAddr, hv, hx]
theorem FIv.grown {n1 B1 B2 : Nat} {w : World} {pre : List Fx} {A B : World} {vk vr : Value} {row : Option Nat} (h : FIv n1 B1 B2 w pre A vk vr) (hw : w.heap.size ≤ n1) (hg : A.grownBy B row) (hr : ∀ r, row = some r → n1 ≤ r ∧ ¬ ownF B1 B2 A r ∧ ∀ x ∈ pre, ¬ x.blk r) :
    FIv n1 B1 B2 w pre B vk vr ∧ ∀ b, ownF B1 B2 B b → ownF B1 B2 A b := by
  have ho := own_iff h.b1 h.b2
  have hno : ∀ r, row = some r → ¬ ownV B1 B2 vk vr r := fun r e q => (hr r e).2.1 ((ho r).2 q)
  have b1 : Boxed B B1 34 vk := h.b1.kept hg (fun e => hno _ e.symm (.inl rfl))
  have b2 : Boxed B B2 22 vr := h.b2.kept hg (fun e => hno _ e.symm (.inr (.inl rfl)))
  refine ⟨⟨b1, b2, h.out.grown hg (fun r e => ⟨fun q => hno r e (.inr (.inr (.inl q))), fun q => hno r e (.inr (.inr (.inr q))), fun x hx hz ad q e2 => ?_⟩), h.low.grown hg h.low.size (fun k e => Nat.le_trans hw (hr k e).1), h.xs⟩, fun b q => (ho b).2 ((own_iff b1 b2 b).1 q)⟩
  obtain ⟨y, hy, rfl⟩ := List.mem_map.1 hx
  exact (hr r e).2.2 y hy ⟨hz, ad, q, e2⟩
theorem FIv.cellsOf {n1 B1 B2 : Nat} {w : World} {pre : List Fx} {A : World} {vk vr : Value} (h : FIv n1 B1 B2 w pre A vk vr) {b : Nat} (q : ownF B1 B2 A b) : ∃ o : Obj, A.heap[b]? = some o ∧ o.isCells = true := by
  rcases (own_iff h.b1 h.b2 b).1 q with q | q | q | q
  · subst q; exact ⟨_, h.b1, rfl⟩
  · subst q; exact ⟨_, h.b2, rfl⟩
  · exact h.out.cells (.inl q)
  · exact h.out.cells (.inr q)
theorem row_cell {w : World} {a : Option Addr} {zs : List Int} (h : RowAt w a zs) (hz : zs ≠ []) {ad : Addr} (q : a = some ad) : ∃ o : Obj, w.heap[ad.block]? = some o ∧ o.isCells = true := by
  have hl : 0 < zs.length := List.length_pos_iff.2 hz
  obtain ⟨b, off, e, -, hc, -, -⟩ := h.get 0 hl
  rw [q] at e
  cases e
  exact cells_of_cell hc
theorem FIv.blkOf {n1 B1 B2 : Nat} {w : World} {pre : List Fx} {A : World} {vk vr : Value} (h : FIv n1 B1 B2 w pre A vk vr) {x : Fx} (hx : x ∈ pre) {b : Nat} (q : x.blk b) : ∃ o : Obj, A.heap[b]? = some o ∧ o.isCells = true := by
  obtain ⟨hz, ad, q1, rfl⟩ := q
  exact row_cell (h.out.rows x.r (List.mem_map.2 ⟨x, hx, rfl⟩)) hz q1
theorem FIv.put {n1 B1 B2 : Nat} {w : World} {pre : List Fx} {A : World} {vk vr : Value} {l : Nat} {o o' : Obj} (h : FIv n1 B1 B2 w pre A vk vr) (hw : w.heap.size ≤ n1) (hl : n1 ≤ l) (ho : A.heap[l]? = some o) (hc : o.isCells = false) : FIv n1 B1 B2 w pre (A.putObj l o') vk vr := by
  refine (h.grown hw (grownBy_putObj' A l o') (fun r e => ?_)).1
  cases e
  refine ⟨hl, fun q => ?_, fun x hx q => ?_⟩
  · obtain ⟨o2, h2, h3⟩ := h.cellsOf q
    rw [ho] at h2; cases h2; rw [hc] at h3; cases h3
  · obtain ⟨o2, h2, h3⟩ := h.blkOf hx q
    rw [ho] at h2; cases h2; rw [hc] at h3; cases h3
theorem own_slice {w : World} {base : Nat} {e : TypeId} {v : Value} {n : Nat} {xs : List Value} (h : w.ownsRow base e 1 v n xs) (k : IntKind) (z : Int) : v ≠ .int k z := by
  rcases own_range h with ⟨q, -, -⟩ | ⟨g, cap, q, -⟩
  · rw [q]; simp
  · rw [q]; simp
theorem box_int {W : World} {B : Nat} {t : TypeId} {v : Value} (h : Boxed W B t v) (hv : ∀ k z, v ≠ .int k z) (o : Nat) (k : IntKind) (z : Int) : W.cell? ⟨B, o, none⟩ ≠ some (.int k z) := by
  intro q
  have e : W.cell? ⟨B, o, none⟩ = (#[v] : Array Value)[o]? := by simp [World.cell?, show W.heap[B]? = _ from h]
  rw [e] at q
  cases o with
  | zero => simp at q; exact hv k z q
  | succ o => simp at q
theorem XF.put {n1 B1 B2 : Nat} {x : Fx} {A : World} {l : Nat} {o o' : Obj} (h : XF n1 (ownF B1 B2) x A) (h1 : B1 < l) (h2 : B2 < l) (ho : A.heap[l]? = some o) (hc : o.isCells = false) : XF n1 (ownF B1 B2) x (A.putObj l o') := by
  have hg := grownBy_putObj' A l o'
  have hcell : ∀ B, B < l → (A.putObj l o').cell? ⟨B, 0, none⟩ = A.cell? ⟨B, 0, none⟩ := fun B hB => by
    simp only [World.cell?, World.putObj_heap_other (show B ≠ l by omega)]
  refine ⟨?_, h.k0, h.k1, h.le, h.lc, h.cm, fun ad q => ?_⟩
  · by_cases hz : x.r.zs = []
    · exact ⟨h.row.1, h.row.2.1, .inl hz⟩
    · refine RowAt_gbo h.row hg (fun ad q e => ?_)
      obtain ⟨o2, h3, h4⟩ := row_cell h.row hz q
      cases e
      rw [ho] at h3; cases h3; rw [hc] at h4; cases h4
  · obtain ⟨q1, q2, q3⟩ := h.off ad q
    refine ⟨q1, Nat.lt_of_lt_of_le q2 hg.size, fun q4 => q3 ?_⟩
    unfold ownF at q4 ⊢
    rw [hcell B1 h1, hcell B2 h2] at q4
    exact q4
theorem ownsRow_low {w : World} {base base' : Nat} {e : TypeId} {v : Value} {n : Nat} {xs : List Value} (h : w.ownsRow base e 1 v n xs) (hb : base' ≤ base) : w.ownsRow base' e 1 v n xs := by
  refine ⟨h.1, ?_⟩
  rcases h.2 with h | ⟨g, cap, cur, hv, hg, r⟩
  · exact .inl h
  · exact .inr ⟨g, cap, cur, hv, Nat.le_trans hb hg, r⟩
theorem Out.lower {B B' : Nat} {w : World} {vk vr : Value} {ks : List Int} {rs xs : List Rc} (h : Out B w vk vr ks rs xs) (hb : B' ≤ B) : Out B' w vk vr ks rs xs := ⟨ownsRow_low h.k hb, h.kb, ownsRow_low h.r hb, h.ap, h.rows, h.off⟩
theorem FIv.drew {n1 B1 B2 : Nat} {w : World} {pre : List Fx} {A : World} {vk vr : Value} (h : FIv n1 B1 B2 w pre A vk vr) (hw : w.heap.size ≤ n1) : FIv n1 B1 B2 w pre A.drew vk vr := (h.grown hw (gb_drew (gb_refl A none)) (fun r e => by cases e)).1
theorem FIv.store1 {n1 B1 B2 : Nat} {w : World} {pre : List Fx} {A : World} {vk vr : Value} (h : FIv n1 B1 B2 w pre A vk vr) (hn : B1 < n1) (hw : w.heap.size ≤ B1) (hne : B2 ≠ B1) : FIv n1 B1 B2 w pre (A.setCell ⟨B1, 0, none⟩ vk) vk vr :=
  ⟨h.b1.set vk, h.b2.other hne vk, h.out.grown (gb_set A B1 0 vk) (fun r e => by
    cases e
    refine ⟨fun q => by have := (h.out.k.lt _ q).1; omega, fun q => by have := (h.out.r.lt _ q).1; omega, fun x hx hz ad q e2 => ?_⟩
    obtain ⟨y, hy, rfl⟩ := List.mem_map.1 hx
    have := (h.xs y hy).2.2.2 ad q
    omega), h.low.grown (gb_set A B1 0 vk) h.low.size (fun k e => by cases e; exact hw), h.xs⟩
theorem FIv.store2 {n1 B1 B2 : Nat} {w : World} {pre : List Fx} {A : World} {vk vr : Value} (h : FIv n1 B1 B2 w pre A vk vr) (hn : B2 < n1) (hw : w.heap.size ≤ B2) (hne : B1 ≠ B2) : FIv n1 B1 B2 w pre (A.setCell ⟨B2, 0, none⟩ vr) vk vr :=
  ⟨h.b1.other hne vr, h.b2.set vr, h.out.grown (gb_set A B2 0 vr) (fun r e => by
    cases e
    refine ⟨fun q => by have := (h.out.k.lt _ q).1; omega, fun q => by have := (h.out.r.lt _ q).1; omega, fun x hx hz ad q e2 => ?_⟩
    obtain ⟨y, hy, rfl⟩ := List.mem_map.1 hx
    have := (h.xs y hy).2.2.2 ad q
    omega), h.low.grown (gb_set A B2 0 vr) h.low.size (fun k e => by cases e; exact hw), h.xs⟩
theorem box_there {W : World} {B : Nat} {t : TypeId} {v : Value} (h : Boxed W B t v) : W.there B 0 1 := fun j hj => by
  obtain rfl : j = 0 := by omega
  exact ⟨by rw [Nat.add_zero, h.cell]; rfl, by rw [Nat.add_zero]; exact h.frozen⟩
theorem own_1c {w : World} {base : Nat} {e : TypeId} {v : Value} {n : Nat} {xs : List Value} (h : w.ownsRow base e 1 v n xs) : v.oneCell' = true := by
  rcases own_range h with ⟨q, -, -⟩ | ⟨g, cap, q, -⟩ <;> rw [q] <;> rfl
theorem iszB : (Try.prog.info? 34).map (·.size) = some 1 := by kernel_rfl
theorem iszP : (Try.prog.info? 22).map (·.size) = some 1 := by kernel_rfl
theorem FIv.told {n1 B1 B2 : Nat} {w : World} {pre : List Fx} {A : World} {vk vr : Value} {fs : List Fr} (h : FIv n1 B1 B2 w pre A vk vr) (hw : w.heap.size ≤ n1) (hf : fs.map Fr.key = pre.map Fx.key) : FramesJ w.heap.size fs (.returned (.tuple #[vk, vr])) A := by
  have hk : fs.map Fr.k = pre.map Fx.k := by have q := congrArg (List.map Prod.fst) hf; rw [List.map_map, List.map_map] at q; exact q
  have hz : fs.map Fr.zs = (pre.map Fx.r).map Rc.zs := by have q := congrArg (List.map Prod.snd) hf; rw [List.map_map, List.map_map] at q; rw [List.map_map]; exact q
  refine ⟨vk, vr, pre.map Fx.r, rfl, by rw [hk]; exact h.out.lower hw, hz.symm, fun x hx => ?_⟩
  obtain ⟨y, hy, rfl⟩ := List.mem_map.1 hx
  exact ⟨(h.xs y hy).2.1, (h.xs y hy).2.2.1, fun ad q => Nat.le_trans hw ((h.xs y hy).2.2.2 ad q)⟩
set_option maxRecDepth 100000 in
set_option maxHeartbeats 8000000 in
theorem frames_in (m : Nat) (hn : 3 ≤ m) (a : Option Addr) (cap : Nat) (bs : List Int) (w : World) (hrow : RowAt w a bs) (hc : bs.length ≤ cap) (hcm : cap ≤ maxLen) (hl : bs.length ≤ 100000000) :
    CallsIn Fence.wide m Try.prog 54 #[.slice a bs.length cap] w fun e w' => FramesJ w.heap.size (framesW bs) e w' ∧ Below w.heap.size w w' := by
  have h1 : 1 ≤ m := by omega
  have hro : Fence.wide.round = none := rfl
  have cA := fitting_in (m - 1) a bs.length cap
  have HRW := hide hrow
  obtain ⟨i0, hi, hz0, hz1, hz2⟩ := info_parts info8
  obtain ⟨i1, hj, hj0, hj1, hj2⟩ := info_parts infoS
  clear hrow
  refine callsIn_of_wp_marks Try.func54 rfl trivial ?_ hro
  simp only [Try.ntmps54, List.size_toArray, List.length_cons, List.length_nil, Nat.reduceAdd, Nat.reduceSub, Array.replicate_succ, Array.replicate_zero, List.push_toArray, List.append_toArray, List.nil_append, List.cons_append]
  gi_wp2
  refine wpIn_wide.2 (wp_scope_straight ((wpIn_wide (n := m)).1 ?_))
  gi_wp2
  refine wpIn_label ?_
  gi_wp2_with (refine And.intro trivial ?_; gi_at_call 63; refine (cA _).mono ?_; rintro e w2 ⟨rfl, rfl⟩)
  clear cA
  simp only [Nat.add_assoc, Nat.reduceAdd]
  have b1 : Boxed (((w.alloc (.cells #[.slice none 0 0] 34)).alloc (.cells #[.slice none 0 0] 22)).alloc (.cells #[.slice a bs.length cap] 34)) w.heap.size 34 (.slice none 0 0) := ((Boxed.new w 34 _).alloc _).alloc _
  have b2 : Boxed (((w.alloc (.cells #[.slice none 0 0] 34)).alloc (.cells #[.slice none 0 0] 22)).alloc (.cells #[.slice a bs.length cap] 34)) (w.heap.size + 1) 22 (.slice none 0 0) := by
    have := (Boxed.new (w.alloc (.cells #[.slice none 0 0] 34)) 22 (.slice none 0 0)).alloc (.cells #[.slice a bs.length cap] 34)
    rwa [World.size_alloc] at this
  have b3 : Boxed (((w.alloc (.cells #[.slice none 0 0] 34)).alloc (.cells #[.slice none 0 0] 22)).alloc (.cells #[.slice a bs.length cap] 34)) (w.heap.size + 2) 34 (.slice a bs.length cap) := by
    have := Boxed.new ((w.alloc (.cells #[.slice none 0 0] 34)).alloc (.cells #[.slice none 0 0] 22)) 34 (.slice a bs.length cap)
    rwa [World.size_alloc, World.size_alloc] at this
  have hB3 : Below w.heap.size w (((w.alloc (.cells #[.slice none 0 0] 34)).alloc (.cells #[.slice none 0 0] 22)).alloc (.cells #[.slice a bs.length cap] 34)) := (((Below.refl _ w).alloc (Nat.le_refl _) _).alloc (by simp) _).alloc (by simp; omega) _
  have hsz : w.heap.size + 3 ≤ (((w.alloc (.cells #[.slice none 0 0] 34)).alloc (.cells #[.slice none 0 0] 22)).alloc (.cells #[.slice a bs.length cap] 34)).heap.size := by simp
  obtain ⟨w3, hw3⟩ : ∃ w3, Hid ((((w.alloc (.cells #[.slice none 0 0] 34)).alloc (.cells #[.slice none 0 0] 22)).alloc (.cells #[.slice a bs.length cap] 34)) = w3) := ⟨_, hide rfl⟩
  rw [hw3.out] at b1 b2 b3 hB3 hsz ⊢
  clear hw3
  obtain ⟨A, hA⟩ : ∃ A, Hid (w.heap.size = A) := ⟨_, hide rfl⟩
  rw [hA.out] at b1 b2 b3 hsz ⊢
  have hwn : w.heap.size ≤ w3.heap.size := hB3.size
  have ST := fitting1_any (m - 1) w3.heap.size (A + 2) a cap bs (ownF A (A + 1)) w3 b3.cell (HRW.out.below hB3) hc hcm hl (Nat.le_refl _) (fun W hW q => by
    have e1 : W.cell? ⟨A, 0, none⟩ = some (.slice none 0 0) := (cell_block (hW.block A b1.lt)).1.trans b1.cell
    have e2 : W.cell? ⟨A + 1, 0, none⟩ = some (.slice none 0 0) := (cell_block (hW.block (A + 1) b2.lt)).1.trans b2.cell
    rcases q with q | q | ⟨v, q1, q2⟩ | ⟨v, q1, q2⟩
    · omega
    · omega
    · rw [e1] at q1; cases q1; simp [Value.ownBlock] at q2
    · rw [e2] at q1; cases q1; simp [Value.ownBlock] at q2)
  refine range_own hro h1 (gf := 69) (lb := #[.pointer (some ⟨A + 2, 0, none⟩)]) rfl trivial (enters_of Try.func69 (by kernel_rfl) rfl) ST (fun _ => rfl)
    (FIs w3.heap.size A (A + 1) w)
    (FXs w3.heap.size A (A + 1) w)
    ?hI ?hIx ?hOC ?hBC ?hOZ ?hX ?h0
    (fun x => { tmps := #[.slice a bs.length cap, undef, .pointer (some ⟨A, 0, none⟩), .pointer (some ⟨A + 1, 0, none⟩), .int .u8 x.k, .slice x.r.a x.r.zs.length x.r.cap, .slice a bs.length cap, .func (.func 69) #[] #[.pointer (some ⟨A + 2, 0, none⟩)], .int .u8 x.k, .slice x.r.a x.r.zs.length x.r.cap, undef, undef, undef, undef, undef, undef, undef, undef, undef, undef, undef, undef, undef, undef, undef, undef, undef, undef], defers := [] }) ?assign ?body ?done ?stop
  case hI =>
    rintro pre X Y row ⟨vk, vr, h⟩ hg hr
    obtain ⟨q1, q2⟩ := h.grown hwn hg hr
    exact ⟨⟨vk, vr, q1⟩, q2⟩
  case hIx =>
    rintro c pre X l o o' ⟨hc, mm, x, vk, vr, e, h, hb⟩ hl ho hc2
    exact ⟨hc, mm, x, vk, vr, e, h.put hwn hl ho hc2, hb⟩
  case hOC =>
    rintro pre X ⟨vk, vr, h⟩ b q
    exact h.cellsOf q
  case hBC =>
    rintro pre X ⟨vk, vr, h⟩ x hx b q
    exact h.blkOf hx q
  case hOZ =>
    rintro pre X ⟨vk, vr, h⟩ b q hlt o k z
    rcases (own_iff h.b1 h.b2 b).1 q with q | q | q | q
    · subst q; exact box_int h.b1 (own_slice h.out.k) o k z
    · subst q; exact box_int h.b2 (own_slice h.out.r) o k z
    · have := (h.out.k.lt b q).1; omega
    · have := (h.out.r.lt b q).1; omega
  case hX =>
    rintro x X l o o' hl h ho hc2
    exact h.put (by omega) (by omega) ho hc2
  case h0 => exact ⟨_, _, b1, b2, Out.nil _ _, hB3, by simp⟩
  case assign =>
    intro l x W K hK
    simp only [encF]
    gi_wp2
    exact hK
  case body =>
    rintro l pre ⟨k, ⟨ra, rcap, rz⟩⟩ W ⟨vk, vr, hF⟩ hx hws hlt
    have hk0 := hx.k0
    have hk1 := hx.k1
    simp only at hk0 hk1
    have stop : ∀ W', Below W.heap.size W W' → Fx.good ⟨k, ⟨ra, rcap, rz⟩⟩ = false → KeepsFrom w3.heap.size W W' ∧ FXs w3.heap.size A (A + 1) w (.exit 0) (pre ++ [⟨k, ⟨ra, rcap, rz⟩⟩]) W' := fun W' hb hg =>
      ⟨⟨hb.size, fun i o _ h1 _ => (hb.block i (Array.getElem?_eq_some_iff.1 h1).1).trans h1⟩, FXs.mk (hF.grown hwn (gb_below hb none) (fun r e => by cases e)).1 hg⟩
    have hblk : ∀ y ∈ pre.map Fx.r ++ [(⟨ra, rcap, rz⟩ : Rc)], ∀ ad, y.a = some ad → w3.heap.size ≤ ad.block := fun y hy ad q => by
      rcases List.mem_append.1 hy with hy | hy
      · obtain ⟨z, hz, rfl⟩ := List.mem_map.1 hy
        exact (hF.xs z hz).2.2.2 ad q
      · rw [List.mem_singleton.1 hy] at q
        exact (hx.off ad q).1
    have Hst := hide stop
    clear stop
    by_cases k68 : k = 68
    · subst k68
      have hFV := hF
      have hxV := hx
      have hWV : Below W.heap.size W W := Below.refl _ _
      have hOm := hFV.out.more ⟨ra, rcap, rz⟩ hxV.row (fun ad q => ⟨(hxV.off ad q).2.1, fun q1 => (hxV.off ad q).2.2 ((own_iff hFV.b1 hFV.b2 _).2 (.inr (.inr (.inl q1)))), fun q1 => (hxV.off ad q).2.2 ((own_iff hFV.b1 hFV.b2 _).2 (.inr (.inr (.inr q1))))⟩)
      have c1 := hFV.b1.cell
      gi_upto_region 8 with fail
      refine region_round (by kernel_rfl) (fun ⟨_, _, h⟩ => h) ?_
      go_wp2_with (at_builtin; refine wpList_append_own_src2 _ rfl _ _ 34 34 rfl w3.heap.size 5 i0 (.int .u8 0) 1 1 Try.underlying34 hi hz0 hz1 hz2 rfl _ _ _ rfl (hOm.k.alloc _) _ 1 _ rfl (b1_src _ _) ?c1 ?c2 ?c3 ?_)
      case c1 => unfold maxLen; (try simp only [List.length_map]); omega
      case c2 => (try simp only [List.length_map]); omega
      case c3 => (try simp); omega
      intro v2 w4 hown2 hgr2 hap2
      have hbA : Below W.heap.size W (W.alloc (.cells #[.int .u8 68] 5)) := (Below.refl _ _).alloc (Nat.le_refl _) _
      have hO2 := (hOm.below hbA).addK (z := 68) ⟨by omega, by omega⟩ (by rw [List.length_map]; exact hown2) hgr2 (fun g q => by simpa using hap2 g q)
      have b1' : Boxed w4 A 34 vk := (hFV.b1.alloc _).kept hgr2 (fun q => by have := (hOm.k.lt A q.symm).1; omega)
      have b2' : Boxed w4 (A + 1) 22 vr := (hFV.b2.alloc _).kept hgr2 (fun q => by have := (hOm.k.lt (A + 1) q.symm).1; omega)
      have hof4 : Off (ownV A (A + 1) vk vr) W w4 := ((Off.of_below hWV).trans (Off.of_below hbA) (fun _ _ q => q)).trans (Off.of_grown hgr2 (fun k q => .inr (.inr (.inl q)))) (fun _ _ q => q)
      have hnw2 : ∀ g, v2.ownBlock = some g → vk.ownBlock = some g ∨ W.heap.size ≤ g := fun g q => by
        rcases hap2 g q with q | q
        · exact .inl q
        · right; have := hWV.size; (try simp at q); omega
      have hlt2 : ∀ g, v2.ownBlock = some g → w3.heap.size ≤ g := fun g q => (hO2.k.lt g q).1
      obtain ⟨g2, k2, rfl⟩ := ownsRow_succ hown2
      have c1' := b1'.cell
      have f1' := b1'.frozen
      clear c1 hown2 hgr2 hap2 hbA
      go_wp2
      have hgs : w4.grownBy (w4.setCell ⟨A, 0, none⟩ (.slice (some ⟨g2, 0, none⟩) (pre.length + 1) k2)) (some A) := gb_set _ _ _ _
      have hO4 := hO2.grown hgs (fun r e => by
        cases e
        refine ⟨fun q => by have := hlt2 _ q; omega, fun q => by have := (hO2.r.lt _ q).1; omega, fun y hy hz ad q e2 => ?_⟩
        have := hblk y hy ad q
        omega)
      have b1s := b1'.set (.slice (some ⟨g2, 0, none⟩) (pre.length + 1) k2)
      have b2s := b2'.other (show A + 1 ≠ A by omega) (.slice (some ⟨g2, 0, none⟩) (pre.length + 1) k2)
      have hof5 := hof4.trans (Off.of_setCell (F := ownV A (A + 1) vk vr) w4 ⟨A, 0, none⟩ (.slice (some ⟨g2, 0, none⟩) (pre.length + 1) k2) (.inl rfl)) (fun _ _ q => q)
      obtain ⟨w5, hw5⟩ : ∃ w5, Hid (w4.setCell ⟨A, 0, none⟩ (.slice (some ⟨g2, 0, none⟩) (pre.length + 1) k2) = w5) := ⟨_, hide rfl⟩
      rw [hw5.out] at hO4 b1s b2s hof5 ⊢
      clear hw5 hgs b1' b2' c1' f1' hof4 hO2 hOm
      have hs5 := hof5.size
      have d2 := b2s.cell
      gi_upto_region 9 with fail
      refine region_round (by kernel_rfl) (fun ⟨_, _, h⟩ => h) ?_
      go_wp2_with (at_builtin; refine wpList_append_own_src2 _ rfl _ _ 22 22 rfl w3.heap.size 34 i1 (.slice none 0 0) 1 24 Try.underlying22 hj hj0 hj1 hj2 rfl _ _ _ rfl (hO4.r.alloc _) _ 1 _ rfl (s1_src w5 ⟨ra, rcap, rz⟩) ?c1 ?c2 ?c3 ?_)
      case c1 => unfold maxLen; (try simp only [List.length_map]); omega
      case c2 => (try simp only [List.length_map]); omega
      case c3 => (try simp); omega
      intro v3 w6 hown3 hgr3 hap3
      have hbB : Below w5.heap.size w5 (w5.alloc (.cells #[Rc.val ⟨ra, rcap, rz⟩] 34)) := (Below.refl _ _).alloc (Nat.le_refl _) _
      have hO6 := (hO4.below hbB).addR (y := ⟨ra, rcap, rz⟩) (by rw [List.length_map, List.map_map]; exact hown3) hgr3 (fun g q => by simpa using hap3 g q)
      have b1t : Boxed w6 A 34 _ := (b1s.alloc _).kept hgr3 (fun q => by have := (hO4.r.lt A q.symm).1; omega)
      have b2t : Boxed w6 (A + 1) 22 vr := (b2s.alloc _).kept hgr3 (fun q => by have := (hO4.r.lt (A + 1) q.symm).1; omega)
      have hof6 : Off (ownV A (A + 1) vk vr) W w6 := (hof5.trans (Off.of_below hbB) (fun _ _ q => q)).trans (Off.of_grown (F := ownV A (A + 1) vk vr) hgr3 (fun k q => .inr (.inr (.inr q)))) (fun _ _ q => q)
      have hnw3 : ∀ g, v3.ownBlock = some g → vr.ownBlock = some g ∨ W.heap.size ≤ g := fun g q => by
        rcases hap3 g q with q | q
        · exact .inl q
        · right; (try simp at q); omega
      have hlt3 : ∀ g, v3.ownBlock = some g → w3.heap.size ≤ g := fun g q => (hO6.r.lt g q).1
      obtain ⟨g3, k3, rfl⟩ := ownsRow_succ hown3
      have d2' := b2t.cell
      have f2' := b2t.frozen
      clear d2 hown3 hgr3 hap3 hbB
      go_wp2
      have hgt : w6.grownBy (w6.setCell ⟨A + 1, 0, none⟩ (.slice (some ⟨g3, 0, none⟩) (pre.length + 1) k3)) (some (A + 1)) := gb_set _ _ _ _
      have hO7 := hO6.grown hgt (fun r e => by
        cases e
        refine ⟨fun q => by have := (hO6.k.lt _ q).1; omega, fun q => by have := hlt3 _ q; omega, fun y hy hz ad q e2 => ?_⟩
        have := hblk y hy ad q
        omega)
      have b1u := b1t.other (show A ≠ A + 1 by omega) (.slice (some ⟨g3, 0, none⟩) (pre.length + 1) k3)
      have b2u := b2t.set (.slice (some ⟨g3, 0, none⟩) (pre.length + 1) k3)
      have hof7 := hof6.trans (Off.of_setCell (F := ownV A (A + 1) vk vr) w6 ⟨A + 1, 0, none⟩ (.slice (some ⟨g3, 0, none⟩) (pre.length + 1) k3) (.inr (.inl rfl))) (fun _ _ q => q)
      obtain ⟨w7, hw7⟩ : ∃ w7, Hid (w6.setCell ⟨A + 1, 0, none⟩ (.slice (some ⟨g3, 0, none⟩) (pre.length + 1) k3) = w7) := ⟨_, hide rfl⟩
      rw [hw7.out] at hO7 b1u b2u hof7 ⊢
      clear hw7 hgt b1t b2t d2' f2' hof6 hO6 hO4 b1s b2s hof5
      have hFin : FIv w3.heap.size A (A + 1) w (pre ++ [⟨68, ⟨ra, rcap, rz⟩⟩]) w7 (.slice (some ⟨g2, 0, none⟩) (pre.length + 1) k2) (.slice (some ⟨g3, 0, none⟩) (pre.length + 1) k3) :=
        ⟨b1u, b2u, by simpa using hO7, hF.low.trans (hof7.below hF.low.size (fun b hb q => by
          rcases q with q | q | q | q
          · have := hA.out; omega
          · have := hA.out; omega
          · have := (hF.out.k.lt _ q).1; omega
          · have := (hF.out.r.lt _ q).1; omega)), fun y hy => by
          rcases List.mem_append.1 hy with hy | hy
          · exact hF.xs y hy
          · rw [List.mem_singleton.1 hy]
            exact ⟨rfl, hx.lc, hx.cm, fun ad q => (hx.off ad q).1⟩⟩
      have hEnd : KeepsFrom w3.heap.size W w7 ∧ KpO (ownF A (A + 1)) W w7 ∧ FIs w3.heap.size A (A + 1) w (pre ++ [⟨68, ⟨ra, rcap, rz⟩⟩]) w7 := by
        refine ⟨⟨hof7.size, fun i o _ h1 h2 => ?_⟩, ⟨hof7.size, fun b o h1 h2 h3 => ?_, fun b q => ?_⟩, FIs.mk hFin⟩
        · refine (hof7.2 i (Array.getElem?_eq_some_iff.1 h1).1 (fun q => ?_)).trans h1
          obtain ⟨o2, h3, h4⟩ := hF.cellsOf ((own_iff hF.b1 hF.b2 i).2 q)
          rw [h1] at h3; cases h3; rw [h2] at h4; cases h4
        · exact (hof7.2 b (Array.getElem?_eq_some_iff.1 h1).1 (fun q => h3 ((own_iff hF.b1 hF.b2 b).2 q))).trans h1
        · rcases (own_iff hFin.b1 hFin.b2 b).1 q with q | q | q | q
          · exact .inl ((own_iff hF.b1 hF.b2 b).2 (.inl q))
          · exact .inl ((own_iff hF.b1 hF.b2 b).2 (.inr (.inl q)))
          · rcases hnw2 b q with q | q
            · exact .inl ((own_iff hF.b1 hF.b2 b).2 (.inr (.inr (.inl q))))
            · exact .inr q
          · rcases hnw3 b q with q | q
            · exact .inl ((own_iff hF.b1 hF.b2 b).2 (.inr (.inr (.inr q))))
            · exact .inr q
      clear hFin hO7 b1u b2u hof7 hF hx hFV hxV
      gi_wp2
      exact hEnd
    · have n68 : (k == 68) = false := by simpa using k68
      by_cases k71 : k = 71
      · subst k71
        have cT := jturnOf_any ra rcap rz W hx.row (by have := hx.le; simp only at this; omega)
        obtain ⟨tn, htn⟩ : ∃ tn, Hid (turnN rz = tn) := ⟨_, hide rfl⟩
        rw [htn.out] at cT
        by_cases t0 : tn = 0
        · subst t0
          gi_upto_region 7 with fail
          refine region_round (by kernel_rfl) (fun ⟨_, _, h⟩ => h) ?_
          go_wp2_with fail
          refine cT.mono ?_
          rintro e V ⟨rfl, hWV⟩
          clear cT
          go_wp2
          gi_wp2
          exact Hst.out V hWV (by simp [Fx.good, htn.out])
        · have nt0 : (tn == 0) = false := by simpa using t0
          gi_upto_region 7 with fail
          refine region_round (by kernel_rfl) (fun ⟨_, _, h⟩ => h) ?_
          go_wp2_with fail
          refine cT.mono ?_
          rintro e V ⟨rfl, hWV⟩
          clear cT
          have hFV := (hF.grown hwn (gb_below hWV none) (fun r e => by cases e)).1
          have hxV : XF w3.heap.size (ownF A (A + 1)) ⟨71, ⟨ra, rcap, rz⟩⟩ V := ⟨hx.row.below hWV, hx.k0, hx.k1, hx.le, hx.lc, hx.cm, fun ad q => ⟨(hx.off ad q).1, Nat.lt_of_lt_of_le (hx.off ad q).2.1 hWV.size, fun q1 => (hx.off ad q).2.2 ((own_iff hF.b1 hF.b2 _).2 ((own_iff hFV.b1 hFV.b2 _).1 q1))⟩⟩
          have hws := Nat.le_trans hws hWV.size
          go_wp2
          have hOm := hFV.out.more ⟨ra, rcap, rz⟩ hxV.row (fun ad q => ⟨(hxV.off ad q).2.1, fun q1 => (hxV.off ad q).2.2 ((own_iff hFV.b1 hFV.b2 _).2 (.inr (.inr (.inl q1)))), fun q1 => (hxV.off ad q).2.2 ((own_iff hFV.b1 hFV.b2 _).2 (.inr (.inr (.inr q1))))⟩)
          have c1 := hFV.b1.cell
          gi_upto_region 8 with fail
          refine region_round (by kernel_rfl) (fun ⟨_, _, h⟩ => h) ?_
          go_wp2_with (at_builtin; refine wpList_append_own_src2 _ rfl _ _ 34 34 rfl w3.heap.size 5 i0 (.int .u8 0) 1 1 Try.underlying34 hi hz0 hz1 hz2 rfl _ _ _ rfl (hOm.k.alloc _) _ 1 _ rfl (b1_src _ _) ?c1 ?c2 ?c3 ?_)
          case c1 => unfold maxLen; (try simp only [List.length_map]); omega
          case c2 => (try simp only [List.length_map]); omega
          case c3 => (try simp); omega
          intro v2 w4 hown2 hgr2 hap2
          have hbA : Below V.heap.size V (V.alloc (.cells #[.int .u8 71] 5)) := (Below.refl _ _).alloc (Nat.le_refl _) _
          have hO2 := (hOm.below hbA).addK (z := 71) ⟨by omega, by omega⟩ (by rw [List.length_map]; exact hown2) hgr2 (fun g q => by simpa using hap2 g q)
          have b1' : Boxed w4 A 34 vk := (hFV.b1.alloc _).kept hgr2 (fun q => by have := (hOm.k.lt A q.symm).1; omega)
          have b2' : Boxed w4 (A + 1) 22 vr := (hFV.b2.alloc _).kept hgr2 (fun q => by have := (hOm.k.lt (A + 1) q.symm).1; omega)
          have hof4 : Off (ownV A (A + 1) vk vr) W w4 := ((Off.of_below hWV).trans (Off.of_below hbA) (fun _ _ q => q)).trans (Off.of_grown hgr2 (fun k q => .inr (.inr (.inl q)))) (fun _ _ q => q)
          have hnw2 : ∀ g, v2.ownBlock = some g → vk.ownBlock = some g ∨ W.heap.size ≤ g := fun g q => by
            rcases hap2 g q with q | q
            · exact .inl q
            · right; have := hWV.size; (try simp at q); omega
          have hlt2 : ∀ g, v2.ownBlock = some g → w3.heap.size ≤ g := fun g q => (hO2.k.lt g q).1
          obtain ⟨g2, k2, rfl⟩ := ownsRow_succ hown2
          have c1' := b1'.cell
          have f1' := b1'.frozen
          clear c1 hown2 hgr2 hap2 hbA
          go_wp2
          have hgs : w4.grownBy (w4.setCell ⟨A, 0, none⟩ (.slice (some ⟨g2, 0, none⟩) (pre.length + 1) k2)) (some A) := gb_set _ _ _ _
          have hO4 := hO2.grown hgs (fun r e => by
            cases e
            refine ⟨fun q => by have := hlt2 _ q; omega, fun q => by have := (hO2.r.lt _ q).1; omega, fun y hy hz ad q e2 => ?_⟩
            have := hblk y hy ad q
            omega)
          have b1s := b1'.set (.slice (some ⟨g2, 0, none⟩) (pre.length + 1) k2)
          have b2s := b2'.other (show A + 1 ≠ A by omega) (.slice (some ⟨g2, 0, none⟩) (pre.length + 1) k2)
          have hof5 := hof4.trans (Off.of_setCell (F := ownV A (A + 1) vk vr) w4 ⟨A, 0, none⟩ (.slice (some ⟨g2, 0, none⟩) (pre.length + 1) k2) (.inl rfl)) (fun _ _ q => q)
          obtain ⟨w5, hw5⟩ : ∃ w5, Hid (w4.setCell ⟨A, 0, none⟩ (.slice (some ⟨g2, 0, none⟩) (pre.length + 1) k2) = w5) := ⟨_, hide rfl⟩
          rw [hw5.out] at hO4 b1s b2s hof5 ⊢
          clear hw5 hgs b1' b2' c1' f1' hof4 hO2 hOm
          have hs5 := hof5.size
          have d2 := b2s.cell
          gi_upto_region 9 with fail
          refine region_round (by kernel_rfl) (fun ⟨_, _, h⟩ => h) ?_
          go_wp2_with (at_builtin; refine wpList_append_own_src2 _ rfl _ _ 22 22 rfl w3.heap.size 34 i1 (.slice none 0 0) 1 24 Try.underlying22 hj hj0 hj1 hj2 rfl _ _ _ rfl (hO4.r.alloc _) _ 1 _ rfl (s1_src w5 ⟨ra, rcap, rz⟩) ?c1 ?c2 ?c3 ?_)
          case c1 => unfold maxLen; (try simp only [List.length_map]); omega
          case c2 => (try simp only [List.length_map]); omega
          case c3 => (try simp); omega
          intro v3 w6 hown3 hgr3 hap3
          have hbB : Below w5.heap.size w5 (w5.alloc (.cells #[Rc.val ⟨ra, rcap, rz⟩] 34)) := (Below.refl _ _).alloc (Nat.le_refl _) _
          have hO6 := (hO4.below hbB).addR (y := ⟨ra, rcap, rz⟩) (by rw [List.length_map, List.map_map]; exact hown3) hgr3 (fun g q => by simpa using hap3 g q)
          have b1t : Boxed w6 A 34 _ := (b1s.alloc _).kept hgr3 (fun q => by have := (hO4.r.lt A q.symm).1; omega)
          have b2t : Boxed w6 (A + 1) 22 vr := (b2s.alloc _).kept hgr3 (fun q => by have := (hO4.r.lt (A + 1) q.symm).1; omega)
          have hof6 : Off (ownV A (A + 1) vk vr) W w6 := (hof5.trans (Off.of_below hbB) (fun _ _ q => q)).trans (Off.of_grown (F := ownV A (A + 1) vk vr) hgr3 (fun k q => .inr (.inr (.inr q)))) (fun _ _ q => q)
          have hnw3 : ∀ g, v3.ownBlock = some g → vr.ownBlock = some g ∨ W.heap.size ≤ g := fun g q => by
            rcases hap3 g q with q | q
            · exact .inl q
            · right; (try simp at q); omega
          have hlt3 : ∀ g, v3.ownBlock = some g → w3.heap.size ≤ g := fun g q => (hO6.r.lt g q).1
          obtain ⟨g3, k3, rfl⟩ := ownsRow_succ hown3
          have d2' := b2t.cell
          have f2' := b2t.frozen
          clear d2 hown3 hgr3 hap3 hbB
          go_wp2
          have hgt : w6.grownBy (w6.setCell ⟨A + 1, 0, none⟩ (.slice (some ⟨g3, 0, none⟩) (pre.length + 1) k3)) (some (A + 1)) := gb_set _ _ _ _
          have hO7 := hO6.grown hgt (fun r e => by
            cases e
            refine ⟨fun q => by have := (hO6.k.lt _ q).1; omega, fun q => by have := hlt3 _ q; omega, fun y hy hz ad q e2 => ?_⟩
            have := hblk y hy ad q
            omega)
          have b1u := b1t.other (show A ≠ A + 1 by omega) (.slice (some ⟨g3, 0, none⟩) (pre.length + 1) k3)
          have b2u := b2t.set (.slice (some ⟨g3, 0, none⟩) (pre.length + 1) k3)
          have hof7 := hof6.trans (Off.of_setCell (F := ownV A (A + 1) vk vr) w6 ⟨A + 1, 0, none⟩ (.slice (some ⟨g3, 0, none⟩) (pre.length + 1) k3) (.inr (.inl rfl))) (fun _ _ q => q)
          obtain ⟨w7, hw7⟩ : ∃ w7, Hid (w6.setCell ⟨A + 1, 0, none⟩ (.slice (some ⟨g3, 0, none⟩) (pre.length + 1) k3) = w7) := ⟨_, hide rfl⟩
          rw [hw7.out] at hO7 b1u b2u hof7 ⊢
          clear hw7 hgt b1t b2t d2' f2' hof6 hO6 hO4 b1s b2s hof5
          have hFin : FIv w3.heap.size A (A + 1) w (pre ++ [⟨71, ⟨ra, rcap, rz⟩⟩]) w7 (.slice (some ⟨g2, 0, none⟩) (pre.length + 1) k2) (.slice (some ⟨g3, 0, none⟩) (pre.length + 1) k3) :=
            ⟨b1u, b2u, by simpa using hO7, hF.low.trans (hof7.below hF.low.size (fun b hb q => by
              rcases q with q | q | q | q
              · have := hA.out; omega
              · have := hA.out; omega
              · have := (hF.out.k.lt _ q).1; omega
              · have := (hF.out.r.lt _ q).1; omega)), fun y hy => by
              rcases List.mem_append.1 hy with hy | hy
              · exact hF.xs y hy
              · rw [List.mem_singleton.1 hy]
                exact ⟨by simp [Fx.good, htn.out, t0], hx.lc, hx.cm, fun ad q => (hx.off ad q).1⟩⟩
          have hEnd : KeepsFrom w3.heap.size W w7 ∧ KpO (ownF A (A + 1)) W w7 ∧ FIs w3.heap.size A (A + 1) w (pre ++ [⟨71, ⟨ra, rcap, rz⟩⟩]) w7 := by
            refine ⟨⟨hof7.size, fun i o _ h1 h2 => ?_⟩, ⟨hof7.size, fun b o h1 h2 h3 => ?_, fun b q => ?_⟩, FIs.mk hFin⟩
            · refine (hof7.2 i (Array.getElem?_eq_some_iff.1 h1).1 (fun q => ?_)).trans h1
              obtain ⟨o2, h3, h4⟩ := hF.cellsOf ((own_iff hF.b1 hF.b2 i).2 q)
              rw [h1] at h3; cases h3; rw [h2] at h4; cases h4
            · exact (hof7.2 b (Array.getElem?_eq_some_iff.1 h1).1 (fun q => h3 ((own_iff hF.b1 hF.b2 b).2 q))).trans h1
            · rcases (own_iff hFin.b1 hFin.b2 b).1 q with q | q | q | q
              · exact .inl ((own_iff hF.b1 hF.b2 b).2 (.inl q))
              · exact .inl ((own_iff hF.b1 hF.b2 b).2 (.inr (.inl q)))
              · rcases hnw2 b q with q | q
                · exact .inl ((own_iff hF.b1 hF.b2 b).2 (.inr (.inr (.inl q))))
                · exact .inr q
              · rcases hnw3 b q with q | q
                · exact .inl ((own_iff hF.b1 hF.b2 b).2 (.inr (.inr (.inr q))))
                · exact .inr q
          clear hFin hO7 b1u b2u hof7 hF hx hFV hxV
          gi_wp2
          exact hEnd
      · have n71 : (k == 71) = false := by simpa using k71
        gi_wp2
        exact Hst.out W (Below.refl _ _) (by simp [Fx.good, k68, k71])
  case done =>
    rintro D xs W hD hS ⟨vk, vr, hF⟩ hK
    have hfw : (framesW bs).map Fr.key = xs.map Fx.key := by
      rw [framesW_fits HRW.out.2.1]
      exact takes_all good_key _ _ hS (fun x hx => (hF.xs x hx).1)
    have hO := hF.drew hwn
    gi_upto_region 10 with fail
    refine wpIn_wide.2 ?_
    obtain ⟨w8, hw8⟩ : ∃ w8, W.drew = w8 := ⟨_, rfl⟩
    have hK8 : w8.heap[D]? = some (.deferred (some [])) := by rw [← hw8]; exact hK
    rw [hw8] at hO
    have hAw : w.heap.size ≤ A := by rw [hA.out]; exact Nat.le_refl _
    have o1 := own_1c hO.out.k
    have o2 := own_1c hO.out.r
    have hO1 := hO.store1 (by omega) hAw (by omega)
    have hO2 := hO1.store2 (by omega) (by omega) (by omega)
    have hK9 : ((w8.setCell ⟨A, 0, none⟩ vk).setCell ⟨A + 1, 0, none⟩ vr).heap[D]? = some (.deferred (some [])) := (Below.heap_setCell _ ⟨A + 1, 0, none⟩ vr D (by show D ≠ A + 1; omega)).trans ((Below.heap_setCell _ ⟨A, 0, none⟩ vk D (by show D ≠ A; omega)).trans hK8)
    refine hs_begin (S := fun W' => Boxed W' A 34 vk ∧ Boxed W' (A + 1) 22 vr) 4 rfl (by kernel_rfl) ?_
    rw [hw8]
    clear hw8
    have hS : Boxed w8 A 34 vk ∧ Boxed w8 (A + 1) 22 vr := ⟨hO.b1, hO.b2⟩
    refine hs_take (i := 0) (d := some 26) (v := vk) rfl (by kernel_rfl) (by kernel_rfl) (by kernel_rfl) (by rfl) (fun w' hw => exec_load rfl rfl (load_one w' hw.1.cell Try.underlying34 rfl)) hS rfl ?_
    simp only [Act.put, List.setIfInBounds_toArray, List.set_cons_zero, List.set_cons_succ]
    refine hs_take (i := 1) (d := some 27) (v := vr) rfl (by kernel_rfl) (by kernel_rfl) (by kernel_rfl) (by rfl) (fun w' hw => exec_load rfl rfl (load_one w' hw.2.cell Try.underlying22 rfl)) hS rfl ?_
    simp only [Act.put, List.setIfInBounds_toArray, List.set_cons_zero, List.set_cons_succ]
    refine hs_store (i := 2) (w' := w8.setCell ⟨A, 0, none⟩ vk) rfl (by kernel_rfl) (by rfl) (exec_storeP rfl rfl rfl (run_store1 w8 A 0 34 vk (box_there hO.b1) iszB o1)) rfl ⟨hO1.b1, hO1.b2⟩ ?_
    refine hs_store (i := 3) (w' := (w8.setCell ⟨A, 0, none⟩ vk).setCell ⟨A + 1, 0, none⟩ vr) rfl (by kernel_rfl) (by rfl) (exec_storeP rfl rfl rfl (run_store1 _ (A + 1) 0 22 vr (box_there hO1.b2) iszP o2)) rfl ⟨hO2.b1, hO2.b2⟩ ?_
    refine hs_done (by kernel_rfl) ?_
    gi_wp2
    refine ⟨by simp, .inl ⟨_, _, rfl, run_takeDeferred hK9, ?_⟩⟩
    have hO3 : FIv w3.heap.size A (A + 1) w xs (((w8.setCell ⟨A, 0, none⟩ vk).setCell ⟨A + 1, 0, none⟩ vr).putObj D (.deferred none)) vk vr := hO2.put hwn hD hK9 rfl
    refine ⟨_, results_cell2 rfl _ _ _ rfl rfl (load_one _ hO3.b1.cell Try.underlying34 rfl) (load_one _ hO3.b2.cell Try.underlying22 rfl), ?_, ?_⟩
    · exact hO3.told hwn hfw
    · exact hO3.low
  case stop =>
    rintro D c pre W hD hSp ⟨rfl, mm, x, vk, vr, rfl, hF, hbad⟩ hK
    have hfw : (framesW bs).map Fr.key = mm.map Fx.key := by
      rw [framesW_fits HRW.out.2.1]
      exact takes_some good_key _ _ _ hSp (fun x hx => (hF.xs x hx).1) hbad
    have hO := hF.drew hwn
    gi_upto_region 10 with fail
    refine wpIn_wide.2 ?_
    obtain ⟨w8, hw8⟩ : ∃ w8, W.drew = w8 := ⟨_, rfl⟩
    have hK8 : w8.heap[D]? = some (.deferred (some [])) := by rw [← hw8]; exact hK
    rw [hw8] at hO
    have hAw : w.heap.size ≤ A := by rw [hA.out]; exact Nat.le_refl _
    have o1 := own_1c hO.out.k
    have o2 := own_1c hO.out.r
    have hO1 := hO.store1 (by omega) hAw (by omega)
    have hO2 := hO1.store2 (by omega) (by omega) (by omega)
    have hK9 : ((w8.setCell ⟨A, 0, none⟩ vk).setCell ⟨A + 1, 0, none⟩ vr).heap[D]? = some (.deferred (some [])) := (Below.heap_setCell _ ⟨A + 1, 0, none⟩ vr D (by show D ≠ A + 1; omega)).trans ((Below.heap_setCell _ ⟨A, 0, none⟩ vk D (by show D ≠ A; omega)).trans hK8)
    refine hs_begin (S := fun W' => Boxed W' A 34 vk ∧ Boxed W' (A + 1) 22 vr) 4 rfl (by kernel_rfl) ?_
    rw [hw8]
    clear hw8
    have hS : Boxed w8 A 34 vk ∧ Boxed w8 (A + 1) 22 vr := ⟨hO.b1, hO.b2⟩
    refine hs_take (i := 0) (d := some 26) (v := vk) rfl (by kernel_rfl) (by kernel_rfl) (by kernel_rfl) (by rfl) (fun w' hw => exec_load rfl rfl (load_one w' hw.1.cell Try.underlying34 rfl)) hS rfl ?_
    simp only [Act.put, List.setIfInBounds_toArray, List.set_cons_zero, List.set_cons_succ]
    refine hs_take (i := 1) (d := some 27) (v := vr) rfl (by kernel_rfl) (by kernel_rfl) (by kernel_rfl) (by rfl) (fun w' hw => exec_load rfl rfl (load_one w' hw.2.cell Try.underlying22 rfl)) hS rfl ?_
    simp only [Act.put, List.setIfInBounds_toArray, List.set_cons_zero, List.set_cons_succ]
    refine hs_store (i := 2) (w' := w8.setCell ⟨A, 0, none⟩ vk) rfl (by kernel_rfl) (by rfl) (exec_storeP rfl rfl rfl (run_store1 w8 A 0 34 vk (box_there hO.b1) iszB o1)) rfl ⟨hO1.b1, hO1.b2⟩ ?_
    refine hs_store (i := 3) (w' := (w8.setCell ⟨A, 0, none⟩ vk).setCell ⟨A + 1, 0, none⟩ vr) rfl (by kernel_rfl) (by rfl) (exec_storeP rfl rfl rfl (run_store1 _ (A + 1) 0 22 vr (box_there hO1.b2) iszP o2)) rfl ⟨hO2.b1, hO2.b2⟩ ?_
    refine hs_done (by kernel_rfl) ?_
    gi_wp2
    refine ⟨by simp, .inl ⟨_, _, rfl, run_takeDeferred hK9, ?_⟩⟩
    have hO3 : FIv w3.heap.size A (A + 1) w mm (((w8.setCell ⟨A, 0, none⟩ vk).setCell ⟨A + 1, 0, none⟩ vr).putObj D (.deferred none)) vk vr := hO2.put hwn hD hK9 rfl
    refine ⟨_, results_cell2 rfl _ _ _ rfl rfl (load_one _ hO3.b1.cell Try.underlying34 rfl) (load_one _ hO3.b2.cell Try.underlying22 rfl), ?_, ?_⟩
    · exact hO3.told hwn hfw
    · exact hO3.low
theorem frames_any (a : Option Addr) (cap : Nat) (bs : List Int) (w : World) (hrow : RowAt w a bs) (hc : bs.length ≤ cap) (hcm : cap ≤ maxLen) (hl : bs.length ≤ 100000000) :
    Calls Try.prog 54 #[.slice a bs.length cap] w fun e w' => FramesJ w.heap.size (framesW bs) e w' ∧ Below w.heap.size w w' :=
  (callsIn_wide (n := 8)).1 (frames_in 8 (by decide) a cap bs w hrow hc hcm hl)
end Go.Proofs.Ytfkchnjbbbhmjab.Ty
