/- the reader's lists; the reader's certs, and what was held; the reader's lists of what was held; changes; the reader's changes; messages, read; messages, read: k -/
import Derived.Test.YtcbpbkefggekmaaGreatDoorJR0
import Derived.Test.YtcbpbkefggekmaaGreatDoorJR8
namespace Go.Proofs.YtcbpbkefggekmaaGreatDoor
open Go.RowKit
open Sha Tal
set_option linter.unusedVariables false
set_option linter.unusedSimpArgs false
abbrev Rst := List Int × Int × Bool
def itG {α : Type} (one : Rst → α × Rst) (s : Rst) : Nat → List α × Rst
  | 0 => ([], s)
  | k + 1 => ((itG one s k).1 ++ [(one (itG one s k).2).1], (one (itG one s k).2).2)
theorem itG_length {α : Type} (one : Rst → α × Rst) (s : Rst) (k : Nat) : (itG one s k).1.length = k := by
  induction k with
  | zero => rfl
  | succ k ih => simp [itG, ih]
theorem itG_len {α : Type} {one : Rst → α × Rst} (h : ∀ s, (one s).2.1.length ≤ s.1.length) (s : Rst) (k : Nat) : (itG one s k).2.1.length ≤ s.1.length := by
  induction k with
  | zero => exact Nat.le_refl _
  | succ k ih => exact Nat.le_trans (h _) ih
def nuS (most : Int) (s : Rst) : Int × Rst := ((numS s.1 s.2.1 most).1, (numS s.1 s.2.1 most).2.1, (numS s.1 s.2.1 most).2.2, s.2.2)
def siS (s : Rst) : Sg × Rst := ((sgS s.1 s.2.1).1, (sgS s.1 s.2.1).2.1, (sgS s.1 s.2.1).2.2, s.2.2)
def enS (s : Rst) : Ev × Rst := ((evS s.1 s.2.1).1, (evS s.1 s.2.1).2.1, (evS s.1 s.2.1).2.2, s.2.2)
def voS (s : Rst) : Vt × Rst := ((vtS s.1 s.2.1).1, (vtS s.1 s.2.1).2.1, (vtS s.1 s.2.1).2.2, kdZ s.1 s.2.1 2 s.2.2)
def lsS {α : Type} (most : Int) (one : Rst → α × Rst) (s : Rst) : List α × Rst := itG one (nuS most s).2 (nuS most s).1.toNat
theorem nuS_len (most : Int) (s : Rst) : (nuS most s).2.1.length ≤ s.1.length := numS_len _ _ _
theorem siS_len (s : Rst) : (siS s).2.1.length ≤ s.1.length := sgS_len _ _
theorem enS_len (s : Rst) : (enS s).2.1.length ≤ s.1.length := evS_len _ _
theorem voS_len (s : Rst) : (voS s).2.1.length ≤ s.1.length := vtS_len _ _
theorem lsS_len {α : Type} {one : Rst → α × Rst} (h : ∀ s, (one s).2.1.length ≤ s.1.length) (most : Int) (s : Rst) : (lsS most one s).2.1.length ≤ s.1.length := Nat.le_trans (itG_len h _ _) (nuS_len _ _)
structure RS (w : World) (Q R : Nat) (s : Rst) : Prop where
 st : St w R s.1 s.2.1
 mr : MrAt w Q R s.2.2
 qt : w.there Q 0 2
theorem St.bs {w : World} {R : Nat} {rest : List Int} {e : Int} (h : St w R rest e) : e = 0 → Bs rest := fun he => by
 obtain ⟨a, cap, g1, g2, g3, g4, g5⟩ := h.2 he
 exact g4.2.1
theorem RS.gb {w w' : World} {Q R : Nat} {s : Rst} {r : List Int} {e : Int} (h : RS w Q R s) (hg : w.grownBy w' (some R)) (hs : St w' R r e) : RS w' Q R (r, e, s.2.2) :=
 ⟨hs, h.mr.gb hg, there_gbR h.qt hg h.mr.lt (by have := h.mr.ne; omega)⟩
theorem RS.low {w w' : World} {Q R n : Nat} {s : Rst} (h : RS w Q R s) (hb : Below n w w') (hQ : Q < n) : RS w' Q R s :=
 ⟨h.st.belowN hb (Nat.lt_trans h.mr.ne hQ), h.mr.at (hb.block Q hQ) hb.size, there_blk h.qt (hb.block Q hQ)⟩
theorem RS.below {w w' : World} {Q R : Nat} {s : Rst} (h : RS w Q R s) (hb : Below w.heap.size w w') : RS w' Q R s := h.low hb h.mr.lt
theorem Kept.low {w W W' : World} {R Q n : Nat} (h : Kept w R Q W) (hb : Below n W W') (hn : w.heap.size ≤ n) : Kept w R Q W' :=
 ⟨hb.os.trans h.os, hb.tape.trans h.tape, hb.output.trans h.output, Nat.le_trans h.size hb.size, fun i hi k1 k2 => (hb.block i (by omega)).trans (h.block i hi k1 k2)⟩
theorem own_kept {w w' : World} {B k n : Nat} {t : TypeId} {v : Value} {xs : List Value} {R Q : Nat} (h : w.ownsRow B t k v n xs) (hk : Kept w R Q w') (hR : R < B) (hQ : Q < B) : w'.ownsRow B t k v n xs := by
 refine ⟨h.1, ?_⟩
 rcases h.2 with hn | ⟨g, cap, cur, rfl, hb, hgg, rest⟩
 ·exact .inl hn
 ·refine .inr ⟨g, cap, cur, rfl, hb, ?_, rest⟩
  rw [hk.block g (Array.getElem?_eq_some_iff.1 hgg).1 (by omega) (by omega)]
  exact hgg
theorem own_low {B : Nat} {w w1 w2 : World} {v : Value} {n k : Nat} {t : TypeId} {xs : List Value} (hb : Below B w w1) (hB : B ≤ w1.heap.size) (ho : w1.ownsRow B t k v n xs) (hg : w1.grownBy w2 v.ownBlock) : Below B w w2 :=
 hb.grown hg hB (fun k hk => (ho.lt k hk).1)
def Sl.Bk {α : Type} (x : Sl α) (P : Nat → Prop) : Prop := ∀ b, x.xs ≠ [] → x.a = some b → P b.block
theorem Sl.Bk.mono {α : Type} {x : Sl α} {P P' : Nat → Prop} (h : x.Bk P) (hp : ∀ b, P b → P' b) : x.Bk P' := fun b h1 h2 => hp _ (h b h1 h2)
theorem Sl.At.on {α : Type} {E : El α} {w w' : World} {x : Sl α} {P : Nat → Prop} (h : x.At E w) (hs : w.heap.size ≤ w'.heap.size) (hb : x.Bk P) (hp : ∀ b, P b → b < w.heap.size → w'.heap[b]? = w.heap[b]?) : x.At E w' := by
 refine ⟨h.1, h.2.1, ?_⟩
 by_cases h0 : x.xs = []
 ·exact .inl h0
 ·rcases h.2.2 with q | ⟨b, off, e, h1, h2⟩
  ·exact .inl q
  ·exact .inr ⟨b, off, e, Nat.lt_of_lt_of_le h1 hs, range_blk h2 (hp _ (hb _ h0 e) h1)⟩
theorem Sl.At.kept {α : Type} {E : El α} {w w' : World} {R Q n : Nat} {x : Sl α} {P : Nat → Prop} (h : x.At E w) (k : Kept w R Q w') (hR : R < n) (hQ : Q < n) (hb : x.Bk P) (hp : ∀ b, P b → n ≤ b) : x.At E w' :=
 h.on k.size hb (fun b hP hlt => k.block b hlt (by have := hp b hP; omega) (by have := hp b hP; omega))
theorem own_rows {α : Type} {E : El α} {w : World} {B : Nat} {t : TypeId} {v : Value} {ys : List α} (h : w.ownsRow B t E.k v ys.length (ys.flatMap E.f)) (hok : ∀ y ∈ ys, E.ok y) (hm : ys.length ≤ maxLen) :
  ∃ x : Sl α, v = x.val ∧ x.xs = ys ∧ x.At E w ∧ (∀ b, x.a = some b → B ≤ b.block ∧ b.block < w.heap.size ∧ v.ownBlock = some b.block) := by
 rcases h.2 with ⟨rfl, h0⟩ | ⟨g, cap, cur, rfl, hb, hg, hn, hcm, hcs, ht⟩
 ·have : ys = [] := List.eq_nil_of_length_eq_zero h0
  subst this
  exact ⟨⟨none, 0, []⟩, rfl, rfl, RowsAt.none, fun x hx => by cases hx⟩
 ·refine ⟨⟨some ⟨g, 0, none⟩, cap, ys⟩, rfl, rfl, ⟨hm, hok, Or.inr ⟨g, 0, rfl, (Array.getElem?_eq_some_iff.1 hg).1, fun j u hu => ?_⟩⟩, fun x hx => by cases hx; exact ⟨hb, (Array.getElem?_eq_some_iff.1 hg).1, rfl⟩⟩
  have := h.cells (g := g) rfl j u hu
  rwa [Addr.add_mid] at this
theorem run_bs1 {P : Program} (t e : TypeId) (i : TypeInfo) (z : Value) (u : List Value) (ht : P.underlying t = some (.slice e)) (hi : P.info? e = some i) (hz : i.zero = some z) (hs : i.size = u.length) (h0 : 0 < u.length) (hm : u.length ≤ 1000) (w : World) :
  (Instr.buildSlice t 1 #[(0, .agg u.toArray)]).run P w = .ok (.slice (some ⟨w.heap.size, 0, none⟩) 1 1) (w.alloc (.cells u.toArray e)) := by
 have h1 : ¬ 2 ^ 24 < u.length := by omega
 have h2 : u ≠ [] := fun h => by rw [h] at h0; simp at h0
 have hf := fold_u ((Array.range u.length).map (z.cells[· % z.cells.size]!)) u (by simp)
 unfold Instr.buildSlice
 simp [run_underlying ht, sizeOf, zeroValue, typeInfo, hi, hz, hs, h1, h2, Instr.fill, Value.cells, newRow]
 rw [fold_u _ u (by simp)]
theorem exec_bs1 {P : Program} {o : Oper} {a : Act} {w : World} {t e : TypeId} {x : Operand} {u : List Value} (ho : o.op = .buildSlice t 1 #[(0, x)]) (hx : a.eval x = .agg u.toArray) (hr : (Instr.buildSlice t 1 #[(0, .agg u.toArray)]).run P w = .ok (.slice (some ⟨w.heap.size, 0, none⟩) 1 1) (w.alloc (.cells u.toArray e))) :
   (execOp a.eval o).run P w = .ok (.value (.slice (some ⟨w.heap.size, 0, none⟩) 1 1)) (w.alloc (.cells u.toArray e)) := by
  unfold execOp
  simp [ho, hx, hr]
theorem exec_append1 {P : Program} {o : Oper} {a : Act} {w w' : World} {s x : Operand} {t tx : TypeId} {v xv v' : Value} (ho : o.op = .call { callee := .builtin .append, args := #[s, x], argTypes := #[t, tx] }) (hv : a.eval s = v) (hx : a.eval x = xv)
    (hr : (Builtin.append_ #[t, tx] o.type #[v, xv]).run P w = .ok v' w') : (execOp a.eval o).run P w = .ok (.value v') w' := by
  unfold execOp
  simp [ho, resolve, invoke, builtin, hv, hx, hr]
theorem pl_runX {P : Program} {ops : Array Oper} {Q : Exit → Act → World → Prop} {o : Oper} {rest : List Oper} {d : Option Nat} {a : Act} {w : World} {R : Value → World → Prop} (hw : Region.wanted o (yielded ops a.tmps) = true) (hd : o.dst = d) (hy : ∃ v w', (execOp a.eval o).run P w = .ok (.value v) w' ∧ R v w')
  (h : ∀ v w', R v w' → Pl P ops Q rest (a.put d v) w') : Pl P ops Q (o :: rest) a w := by
 obtain ⟨v, w', h1, h2⟩ := hy
 exact pl_run hw h1 hd (h v w' h2)
theorem ex_mk {P : Program} {o : Oper} {a : Act} {w : World} {t e : TypeId} {x : Operand} {i : TypeInfo} {z : Value} {k B : Nat} {c : Int} (ho : o.op = .makeSlice t (.const (.int .i64 0)) x) (hx : a.eval x = .int .i64 c) (h0 : 0 ≤ c) (hc : c ≤ 1000) (ht : P.underlying t = some (.slice e)) (hi : P.info? e = some i) (hz : i.zero = some z) (hs : i.size = k) (hb : i.bytes ≤ 100000) (hB : B ≤ w.heap.size) :
  ∃ v w', (execOp a.eval o).run P w = .ok (.value v) w' ∧ w'.ownsRow B e k v 0 [] ∧ w.grownBy w' none := by
 obtain ⟨n, rfl⟩ : ∃ n : Nat, c = (n : Int) := ⟨c.toNat, by omega⟩
 obtain ⟨w', h1, h2, h3⟩ := run_make_own (P := P) (w := w) B t e i z k ht hi hz hs .i64 .i64 n (Nat.le_trans (Nat.mul_le_mul hb (show n ≤ 1000 by omega)) (by decide)) (by unfold maxLen; omega) hB
 refine ⟨_, w', ?_, h2, h3⟩
 unfold execOp
 have h4 : a.eval (.const (.int .i64 0)) = .int .i64 0 := rfl
 simp only [ho, hx, h4, Sem.run_bind, h1, Result.andThen_ok, Sem.run_pure]
theorem ex_app1 {P : Program} {o : Oper} {a : Act} {w : World} {s x : Operand} {t e : TypeId} {i : TypeInfo} {z : Value} {B cb k : Nat} {v : Value} {n : Nat} {xs u : List Value} (ho : o.op = .call { callee := .builtin .append, args := #[s, x], argTypes := #[t, t] }) (hv : a.eval s = v) (hx : a.eval x = .slice (some ⟨cb, 0, none⟩) 1 1)
    (ht : P.underlying t = some (.slice e)) (hi : P.info? e = some i) (hz : i.zero = some z) (hs : i.size = k) (hb : i.bytes ≤ 100000) (hty : o.type = t)
    (hown : w.ownsRow B e k v n xs) (hB : B ≤ w.heap.size) (hr : w.rangeAt cb 0 u) (hu : u.length = k) (h1 : ∀ y ∈ u, y.oneCell' = true) (hn : n ≤ 1000) (hzk : z.cells.size = k) :
    ∃ v' w', (execOp a.eval o).run P w = .ok (.value v') w' ∧ (w'.ownsRow B e k v' (n + 1) (xs ++ u) ∧ w.grownBy w' v.ownBlock ∧ ∀ g, v'.ownBlock = some g → v.ownBlock = some g ∨ w.heap.size ≤ g) := by
  have hsrc : Src P k t (.slice (some ⟨cb, 0, none⟩) 1 1) 1 u w := Src.ofSlice _ ht ⟨cb, 0, none⟩ 1 1 _ (by simpa using hu) (fun j y hy => by have := hr j y hy; rw [Addr.add_mid]; exact this) h1
  obtain ⟨v', w', hrun, ho2, hg, hap⟩ := run_append_own_src2 (P := P) w B t t o.type e i _ k i.bytes ht hi hz hs rfl (by rw [hzk]) v n xs hown _ 1 u hsrc (by unfold maxLen; omega) (Nat.le_trans (Nat.mul_le_mul (show n + 1 ≤ 1001 by omega) hb) (by decide)) hB
  exact ⟨v', w', exec_append1 ho hv hx hrun, ho2, hg, fun g hg' => (hap g hg').imp id (fun e => by omega)⟩
theorem numS_bz {rest : List Int} {e most : Int} (hb : e = 0 → Bs rest) : (numS rest e most).2.2 = 0 → Bs (numS rest e most).2.1 := fun h => by
 obtain ⟨k, hk⟩ := numS_sub rest e most
 rw [hk]
 exact (hb (numS_err h)).sub _
theorem textS_bz {rest : List Int} {e most : Int} (hb : e = 0 → Bs rest) : (textS rest e most).2.2 = 0 → Bs (textS rest e most).2.1 := fun h => by
 obtain ⟨k, hk⟩ := textS_sub rest e most
 rw [hk]
 exact (hb (textS_err h)).sub _
theorem padN_bs {n : Nat} {zs : List Int} (h : Bs zs) : Bs (padN n zs) := by
 unfold padN
 split
 ·exact h
 ·intro z hz
  have := List.eq_of_mem_replicate hz
  omega
theorem siS_ok (s : Rst) (hb : s.2.1 = 0 → Bs s.1) : SgE.ok (siS s).1 := by
 have h1 := numS_bd (most := 64) hb (by omega)
 exact ⟨padN_len _ _, padN_bs (rawS_t (numS_bz hb)), by show -9223372036854775808 ≤ (numS s.1 s.2.1 64).1; omega, by show (numS s.1 s.2.1 64).1 ≤ _; omega⟩
theorem enS_ok (s : Rst) (hb : s.2.1 = 0 → Bs s.1) : EvE.ok (enS s).1 := by
 have h1 := numS_bd (most := 64) hb (by omega)
 have h2 := textS_s (rest := (numS s.1 s.2.1 64).2.1) (e := (numS s.1 s.2.1 64).2.2) (most := 4194304) (by omega)
 refine ⟨padN_len _ _, padN_bs (rawS_t (textS_bz (numS_bz hb))), ?_, by show -9223372036854775808 ≤ (numS s.1 s.2.1 64).1; omega, by show (numS s.1 s.2.1 64).1 ≤ _; omega⟩
 show (strOf (textS (numS s.1 s.2.1 64).2.1 (numS s.1 s.2.1 64).2.2 4194304).1).size ≤ maxLen
 rw [strOf_size]
 unfold maxLen
 omega
theorem voS_ok (s : Rst) (hb : s.2.1 = 0 → Bs s.1) : (voS s).1.ok := by
 have b1 := numS_bz (most := 2) hb
 have b2 := numS_bz (most := 1048576) b1
 have b3 := numS_bz (most := 1099511627776) b2
 have b4 := numS_bz (most := 1099511627776) b3
 have h1 := (numS_bd (most := 2) hb (by omega)).2
 have h2 := (numS_bd (most := 1048576) b1 (by omega)).2
 have h3 := (numS_bd (most := 1099511627776) b2 (by omega)).2
 have h4 := (numS_bd (most := 1099511627776) b3 (by omega)).2
 exact ⟨Int.le_trans h1 (by decide), Int.le_trans h2 (by decide), Int.le_trans h3 (by decide), Int.le_trans h4 (by decide), padN_len _ _, padN_bs (rawS_t b4)⟩
theorem rsignS (Q R : Nat) (s : Rst) (w : World) (h : RS w Q R s) (hl : s.1.length ≤ 40000) : Calls Tryz.prog 116 #[.pointer (some ⟨Q, 0, none⟩)] w fun en w' => en = .returned (.agg (SgE.f (siS s).1).toArray) ∧ RS w' Q R (siS s).2 ∧ Kept w R Q w' :=
 (rsign_any Q R s.2.2 s.1 s.2.1 w h.st h.mr hl).mono (by rintro _ w1 ⟨rfl, h1, h2⟩; exact ⟨rfl, h.gb h2 h1, Kept.of h2⟩)
theorem renvS (Q R : Nat) (s : Rst) (w : World) (h : RS w Q R s) (hl : s.1.length ≤ 40000) : Calls Tryz.prog 112 #[.pointer (some ⟨Q, 0, none⟩)] w fun en w' => en = .returned (.agg (EvE.f (enS s).1).toArray) ∧ RS w' Q R (enS s).2 ∧ Kept w R Q w' :=
 (renv_any Q R s.2.2 s.1 s.2.1 w h.st h.mr hl).mono (by rintro _ w1 ⟨rfl, h1, h2⟩; exact ⟨rfl, h.gb h2 h1, Kept.of h2⟩)
theorem rvoteS (Q R : Nat) (s : Rst) (w : World) (h : RS w Q R s) (hl : s.1.length ≤ 40000) : Calls Tryz.prog 109 #[.pointer (some ⟨Q, 0, none⟩)] w fun en w' => en = .returned (.agg (voS s).1.cells.toArray) ∧ RS w' Q R (voS s).2 ∧ Kept w R Q w' :=
 (rvote_any Q R s.2.2 s.1 s.2.1 w h.st h.mr h.qt hl).mono (by rintro _ w1 ⟨rfl, h1, h2, h3, h4⟩; exact ⟨rfl, ⟨h1, h2, h4⟩, h3⟩)
structure LR {α : Type} (w : World) (Q R : Nat) (E : El α) (Te : TypeId) (one : Rst → α × Rst) (t : Rst) (k : Nat) (v : Value) (W : World) : Prop where
 own : W.ownsRow w.heap.size Te E.k v k ((itG one t k).1.flatMap E.f)
 rs : RS W Q R (itG one t k).2
 kept : Kept w R Q W
 ok : ∀ y ∈ (itG one t k).1, E.ok y
theorem itG_okS {α : Type} {E : El α} {one : Rst → α × Rst} {t : Rst} {k : Nat} (h : ∀ y ∈ (itG one t k).1, E.ok y) (h1 : E.ok (one (itG one t k).2).1) : ∀ y ∈ (itG one t (k + 1)).1, E.ok y := by
 intro y hy
 rcases List.mem_append.1 (show y ∈ (itG one t k).1 ++ [(one (itG one t k).2).1] from hy) with g | g
 ·exact h y g
 ·rw [List.mem_singleton.1 g]; exact h1
def infoSg0 : List Value := [Value.int .i64 0] ++ v8 (List.replicate 16 0)
def infoEv0 : List Value := [Value.int .i64 0, .string ⟨#[]⟩] ++ v8 (List.replicate 16 0)
theorem infoSg : (Tryz.prog.info? 133).map (fun i => (i.zero, i.size, i.bytes)) = some (some (.agg infoSg0.toArray), 17, 24) := by kernel_rfl
theorem infoEv : (Tryz.prog.info? 25).map (fun i => (i.zero, i.size, i.bytes)) = some (some (.agg infoEv0.toArray), 18, 40) := by kernel_rfl
theorem zk_rlistS_any : (Value.agg (infoSg0).toArray).cells.size = 17 := by decide
set_option maxRecDepth 100000 in
set_option maxHeartbeats 1000000 in
theorem rlistS_any (Q R : Nat) (s : Rst) (w : World) (h : RS w Q R s) (hl : s.1.length ≤ 40000) : Calls Tryz.prog 115 #[.func (.func 39) #[.pointer (some ⟨R, 0, none⟩)] #[], .int .i64 64, .func (.func 116) #[.pointer (some ⟨Q, 0, none⟩)] #[]] w fun en w' => ∃ x : Sl Sg, en = .returned x.val ∧ x.xs = (lsS 64 siS s).1 ∧ x.At SgE w' ∧ x.Bk (fun b => w.heap.size ≤ b ∧ b < w'.heap.size) ∧ RS w' Q R (lsS 64 siS s).2 ∧ Kept w R Q w' := by
 obtain ⟨i1, hi1, hiz, his, hib⟩ := info_parts infoSg
 have hzk := zk_rlistS_any
 have hRw := h.st.1.1
 have hQw := h.mr.lt
 have cn := fun w0 h0 => num_any R s.1 s.2.1 64 w0 h0
 have hx1 := numS_bd (most := 64) h.st.bs (by omega)
 have hx2 := nuS_len 64 s
 have hRS := fun w0 (g : w.grownBy w0 (some R)) hs => h.gb (r := (nuS 64 s).2.1) (e := (nuS 64 s).2.2.1) g hs
 unfold lsS
 have e1 : (numS s.1 s.2.1 64).1 = (nuS 64 s).1 := rfl
 have e2 : (numS s.1 s.2.1 64).2.1 = (nuS 64 s).2.1 := rfl
 have e3 : (numS s.1 s.2.1 64).2.2 = (nuS 64 s).2.2.1 := rfl
 have e4 : s.2.2 = (nuS 64 s).2.2.2 := rfl
 rw [e1] at hx1
 simp only [e1, e2, e3] at cn
 simp only [e4] at hRS
 clear e1 e2 e3 e4
 generalize nuS 64 s = p_ at hx1 hx2 cn hRS ⊢
 obtain ⟨n, t⟩ := p_
 simp only at hx1 hx2 cn hRS ⊢
 obtain ⟨N, rfl⟩ : ∃ N : Nat, n = (N : Int) := ⟨n.toNat, by omega⟩
 have hN : N ≤ 64 := by omega
 rw [Int.toNat_natCast]
 have hlt2 : t.1.length ≤ 40000 := Nat.le_trans hx2 hl
 clear hx1 hx2 hl
 go_enter Tryz.func115, Tryz.ntmps115
 go_upto_region 1 with fail
 try simp only [Act.put]
 refine pl_begin ?_
 refine pl_t 9 (?_) (by rfl) ?_ rfl ?_
 rotate_left
 ·go_simp
  try with_reducible rfl
 simp only [nz]
 refine pl_t 10 (?_) (by rfl) ?_ rfl ?_
 rotate_left
 ·go_simp
  try with_reducible rfl
 simp only [nz]
 refine pl_call (d := some 11) (by rfl) (by go_simp; first | done | exact ⟨rfl, rfl⟩ | with_reducible rfl) rfl ?_
 refine (cn w h.st).mono ?_
 rintro _ w2 ⟨rfl, h2, g2⟩
 refine ⟨_, rfl, ?_⟩
 simp only [nz]
 refine pl_t 7 (?_) (by rfl) ?_ rfl ?_
 rotate_left
 ·go_simp
  try with_reducible rfl
 simp only [nz]
 refine pl_nil ?_
 have S2 := hRS w2 g2 h2
 have k2 : Kept w R Q w2 := Kept.of g2
 clear cn hRS h2 g2
 go_upto_region 2 with fail
 try simp only [Act.put]
 refine pl_begin ?_
 refine pl_t 12 (?_) (by rfl) ?_ rfl ?_
 rotate_left
 ·go_simp
  try with_reducible rfl
 simp only [nz]
 refine pl_runX (d := some 13) (by rfl) rfl (ex_mk (B := w.heap.size) (c := (N : Int)) rfl rfl (by omega) (by omega) Tryz.underlying48 hi1 hiz his (by rw [hib]; decide) k2.size) ?_
 rintro v3 w3 ⟨o3, g3⟩
 simp only [nz]
 refine pl_t 8 (?_) (by rfl) ?_ rfl ?_
 rotate_left
 ·go_simp
  try with_reducible rfl
 simp only [nz]
 refine pl_nil ?_
 have hb3 : Below w2.heap.size w2 w3 := (Below.refl _ _).grown g3 (Nat.le_refl _) (fun k hk => by cases hk)
 have HL0 : Hid (LR w Q R SgE 133 siS t 0 v3 w3) := hide ⟨o3, S2.below hb3, k2.below hb3, fun y hy => by cases hy⟩
 clear o3 g3 hb3 S2 k2 h
 go_wp2_with fail
 go_loopw [8, 15] (fun ov iv wr => ∃ k : Nat, k ≤ N ∧ iv = .int .i64 (k : Int) ∧ Hid (LR w Q R SgE 133 siS t k ov wr)) (fun _ iv _ => N - (intOf iv).toNat)
 case atStart => exact ⟨0, by omega, rfl, HL0⟩
 case round =>
  clear HL0
  obtain ⟨k, hk, rfl, HL⟩ := hrel
  by_cases hlt : k < N
  ·have k1 : (k : Int) < N := by omega
   have HL := HL.out
   have hle := Nat.le_trans (itG_len siS_len t k) hlt2
   have cE := rsignS Q R (itG siS t k).2 wr HL.rs hle
   have hok := siS_ok (itG siS t k).2 HL.rs.st.bs
   have HS : Hid ((itG siS t (k + 1)).1.flatMap SgE.f = (itG siS t k).1.flatMap SgE.f ++ SgE.f (siS (itG siS t k).2).1) := hide (by
    show ((itG siS t k).1 ++ [(siS (itG siS t k).2).1]).flatMap SgE.f = _
    rw [List.flatMap_append]
    simp)
   have HT : Hid ((itG siS t (k + 1)).2 = (siS (itG siS t k).2).2) := hide rfl
   have hul : (SgE.f (siS (itG siS t k).2).1).length = 17 := SgE.len _ hok
   have hone := SgE.one (siS (itG siS t k).2).1
   obtain ⟨u, hu⟩ : ∃ u, Hid (SgE.f (siS (itG siS t k).2).1 = u) := ⟨_, hide rfl⟩
   obtain ⟨t', ht'⟩ : ∃ t', Hid ((siS (itG siS t k).2).2 = t') := ⟨_, hide rfl⟩
   have cE : Calls Tryz.prog 116 #[.pointer (some ⟨Q, 0, none⟩)] wr fun en w' => en = .returned (.agg (SgE.f (siS (itG siS t k).2).1).toArray) ∧ RS w' Q R (siS (itG siS t k).2).2 ∧ Kept wr R Q w' := cE
   rw [hu.out] at HS hul hone cE
   rw [ht'.out] at HT cE
   have HO : Hid (∀ y ∈ (itG siS t (k + 1)).1, SgE.ok y) := hide (itG_okS HL.ok hok)
   clear hu ht' hok hle
   go_upto_region 5 with fail
   try simp only [Act.put]
   refine pl_begin ?_
   refine pl_t 17 (?_) (by rfl) ?_ rfl ?_
   rotate_left
   ·go_simp
    try with_reducible rfl
   simp only [nz]
   refine pl_t 18 (?_) (by rfl) ?_ rfl ?_
   rotate_left
   ·go_simp
    try with_reducible rfl
   simp only [nz]
   refine pl_call (d := some 19) (by rfl) (by go_simp; first | done | exact ⟨rfl, rfl⟩ | with_reducible rfl) rfl ?_
   refine (cE).mono ?_
   rintro _ w4 hfin
   obtain ⟨rfl, S4, k4⟩ := hfin
   refine ⟨_, rfl, ?_⟩
   simp only [nz]
   have o4 := own_kept HL.own k4 (by omega) (by omega)
   have hb5 : Below w4.heap.size w4 (w4.alloc (.cells u.toArray 133)) := (Below.refl _ _).alloc (Nat.le_refl _) _
   have r5 : (w4.alloc (.cells u.toArray 133)).rangeAt w4.heap.size 0 u := by simpa using range_new w4 u.toArray 133
   have o5 := o4.alloc (.cells u.toArray 133)
   refine pl_run (d := some 20) (v := .slice (some ⟨w4.heap.size, 0, none⟩) 1 1) (w' := w4.alloc (.cells u.toArray 133)) (by rfl) (exec_bs1 rfl rfl (run_bs1 48 133 i1 _ u Tryz.underlying48 hi1 hiz (by rw [his, hul]) (by omega) (by omega) _)) rfl ?_
   simp only [nz]
   have s4 : w.heap.size ≤ w4.heap.size := Nat.le_trans HL.kept.size k4.size
   obtain ⟨w5, hw5⟩ : ∃ W, w4.alloc (.cells u.toArray 133) = W := ⟨_, rfl⟩
   rw [hw5] at hb5 r5 o5 ⊢
   clear hw5
   refine pl_runX (d := some 21) (by rfl) rfl (ex_app1 rfl rfl rfl Tryz.underlying48 hi1 hiz his (by rw [hib]; decide) rfl o5 (Nat.le_trans s4 hb5.size) r5 hul hone (by omega) hzk) ?_
   rintro v6 w6 ⟨o6, g6, -⟩
   simp only [nz]
   refine pl_t 8 (?_) (by rfl) ?_ rfl ?_
   rotate_left
   ·go_simp
    try with_reducible rfl
   simp only [nz]
   refine pl_nil ?_
   have b6 : Below w.heap.size w4 w6 := own_low (hb5.mono s4) (Nat.le_trans s4 hb5.size) o5 g6
   have HL6 : Hid (LR w Q R SgE 133 siS t (k + 1) v6 w6) := hide ⟨by rw [HS.out]; exact o6, by rw [HT.out]; exact S4.low b6 hQw, (HL.kept.trans k4).low b6 (Nat.le_refl _), HO.out⟩
   clear HL o4 o5 o6 g6 b6 S4 k4 hb5 r5 HS HT cE
   go_wp2_with fail
   go_roundw
   case rel => exact ⟨k + 1, by omega, by go_num, HL6⟩
   case measure => simp [intOf]; omega
  ·obtain rfl : k = N := by omega
   have HL := HL.out
   have hok := HL.ok
   obtain ⟨x, rfl, hx, hA, hB⟩ := own_rows (E := SgE) (ys := (itG siS t k).1) (by rw [itG_length]; exact HL.own) hok (by rw [itG_length]; unfold maxLen; omega)
   have HF : Hid (∃ y : Sl Sg, Ending.returned x.val = .returned y.val ∧ y.xs = (itG siS t k).1 ∧ y.At SgE wr ∧ y.Bk (fun b => w.heap.size ≤ b ∧ b < wr.heap.size) ∧ RS wr Q R (itG siS t k).2 ∧ Kept w R Q wr) := hide ⟨x, rfl, hx, hA, fun b _ hb => ⟨(hB b hb).1, (hB b hb).2.1⟩, HL.rs, HL.kept⟩
   clear HL hok hA hB hx
   go_wp2_with fail
   go_ret
   exact HF.out
theorem zk_rlistE_any : (Value.agg (infoEv0).toArray).cells.size = 18 := by decide
set_option maxRecDepth 100000 in
set_option maxHeartbeats 1000000 in
theorem rlistE_any (Q R : Nat) (s : Rst) (w : World) (h : RS w Q R s) (hl : s.1.length ≤ 40000) : Calls Tryz.prog 111 #[.func (.func 39) #[.pointer (some ⟨R, 0, none⟩)] #[], .int .i64 64, .func (.func 112) #[.pointer (some ⟨Q, 0, none⟩)] #[]] w fun en w' => ∃ x : Sl Ev, en = .returned x.val ∧ x.xs = (lsS 64 enS s).1 ∧ x.At EvE w' ∧ x.Bk (fun b => w.heap.size ≤ b ∧ b < w'.heap.size) ∧ RS w' Q R (lsS 64 enS s).2 ∧ Kept w R Q w' := by
 obtain ⟨i1, hi1, hiz, his, hib⟩ := info_parts infoEv
 have hzk := zk_rlistE_any
 have hRw := h.st.1.1
 have hQw := h.mr.lt
 have cn := fun w0 h0 => num_any R s.1 s.2.1 64 w0 h0
 have hx1 := numS_bd (most := 64) h.st.bs (by omega)
 have hx2 := nuS_len 64 s
 have hRS := fun w0 (g : w.grownBy w0 (some R)) hs => h.gb (r := (nuS 64 s).2.1) (e := (nuS 64 s).2.2.1) g hs
 unfold lsS
 have e1 : (numS s.1 s.2.1 64).1 = (nuS 64 s).1 := rfl
 have e2 : (numS s.1 s.2.1 64).2.1 = (nuS 64 s).2.1 := rfl
 have e3 : (numS s.1 s.2.1 64).2.2 = (nuS 64 s).2.2.1 := rfl
 have e4 : s.2.2 = (nuS 64 s).2.2.2 := rfl
 rw [e1] at hx1
 simp only [e1, e2, e3] at cn
 simp only [e4] at hRS
 clear e1 e2 e3 e4
 generalize nuS 64 s = p_ at hx1 hx2 cn hRS ⊢
 obtain ⟨n, t⟩ := p_
 simp only at hx1 hx2 cn hRS ⊢
 obtain ⟨N, rfl⟩ : ∃ N : Nat, n = (N : Int) := ⟨n.toNat, by omega⟩
 have hN : N ≤ 64 := by omega
 rw [Int.toNat_natCast]
 have hlt2 : t.1.length ≤ 40000 := Nat.le_trans hx2 hl
 clear hx1 hx2 hl
 go_enter Tryz.func111, Tryz.ntmps111
 go_upto_region 1 with fail
 try simp only [Act.put]
 refine pl_begin ?_
 refine pl_t 9 (?_) (by rfl) ?_ rfl ?_
 rotate_left
 ·go_simp
  try with_reducible rfl
 simp only [nz]
 refine pl_t 10 (?_) (by rfl) ?_ rfl ?_
 rotate_left
 ·go_simp
  try with_reducible rfl
 simp only [nz]
 refine pl_call (d := some 11) (by rfl) (by go_simp; first | done | exact ⟨rfl, rfl⟩ | with_reducible rfl) rfl ?_
 refine (cn w h.st).mono ?_
 rintro _ w2 ⟨rfl, h2, g2⟩
 refine ⟨_, rfl, ?_⟩
 simp only [nz]
 refine pl_t 7 (?_) (by rfl) ?_ rfl ?_
 rotate_left
 ·go_simp
  try with_reducible rfl
 simp only [nz]
 refine pl_nil ?_
 have S2 := hRS w2 g2 h2
 have k2 : Kept w R Q w2 := Kept.of g2
 clear cn hRS h2 g2
 go_upto_region 2 with fail
 try simp only [Act.put]
 refine pl_begin ?_
 refine pl_t 12 (?_) (by rfl) ?_ rfl ?_
 rotate_left
 ·go_simp
  try with_reducible rfl
 simp only [nz]
 refine pl_runX (d := some 13) (by rfl) rfl (ex_mk (B := w.heap.size) (c := (N : Int)) rfl rfl (by omega) (by omega) Tryz.underlying47 hi1 hiz his (by rw [hib]; decide) k2.size) ?_
 rintro v3 w3 ⟨o3, g3⟩
 simp only [nz]
 refine pl_t 8 (?_) (by rfl) ?_ rfl ?_
 rotate_left
 ·go_simp
  try with_reducible rfl
 simp only [nz]
 refine pl_nil ?_
 have hb3 : Below w2.heap.size w2 w3 := (Below.refl _ _).grown g3 (Nat.le_refl _) (fun k hk => by cases hk)
 have HL0 : Hid (LR w Q R EvE 25 enS t 0 v3 w3) := hide ⟨o3, S2.below hb3, k2.below hb3, fun y hy => by cases hy⟩
 clear o3 g3 hb3 S2 k2 h
 go_wp2_with fail
 go_loopw [8, 15] (fun ov iv wr => ∃ k : Nat, k ≤ N ∧ iv = .int .i64 (k : Int) ∧ Hid (LR w Q R EvE 25 enS t k ov wr)) (fun _ iv _ => N - (intOf iv).toNat)
 case atStart => exact ⟨0, by omega, rfl, HL0⟩
 case round =>
  clear HL0
  obtain ⟨k, hk, rfl, HL⟩ := hrel
  by_cases hlt : k < N
  ·have k1 : (k : Int) < N := by omega
   have HL := HL.out
   have hle := Nat.le_trans (itG_len enS_len t k) hlt2
   have cE := renvS Q R (itG enS t k).2 wr HL.rs hle
   have hok := enS_ok (itG enS t k).2 HL.rs.st.bs
   have HS : Hid ((itG enS t (k + 1)).1.flatMap EvE.f = (itG enS t k).1.flatMap EvE.f ++ EvE.f (enS (itG enS t k).2).1) := hide (by
    show ((itG enS t k).1 ++ [(enS (itG enS t k).2).1]).flatMap EvE.f = _
    rw [List.flatMap_append]
    simp)
   have HT : Hid ((itG enS t (k + 1)).2 = (enS (itG enS t k).2).2) := hide rfl
   have hul : (EvE.f (enS (itG enS t k).2).1).length = 18 := EvE.len _ hok
   have hone := EvE.one (enS (itG enS t k).2).1
   obtain ⟨u, hu⟩ : ∃ u, Hid (EvE.f (enS (itG enS t k).2).1 = u) := ⟨_, hide rfl⟩
   obtain ⟨t', ht'⟩ : ∃ t', Hid ((enS (itG enS t k).2).2 = t') := ⟨_, hide rfl⟩
   have cE : Calls Tryz.prog 112 #[.pointer (some ⟨Q, 0, none⟩)] wr fun en w' => en = .returned (.agg (EvE.f (enS (itG enS t k).2).1).toArray) ∧ RS w' Q R (enS (itG enS t k).2).2 ∧ Kept wr R Q w' := cE
   rw [hu.out] at HS hul hone cE
   rw [ht'.out] at HT cE
   have HO : Hid (∀ y ∈ (itG enS t (k + 1)).1, EvE.ok y) := hide (itG_okS HL.ok hok)
   clear hu ht' hok hle
   go_upto_region 5 with fail
   try simp only [Act.put]
   refine pl_begin ?_
   refine pl_t 17 (?_) (by rfl) ?_ rfl ?_
   rotate_left
   ·go_simp
    try with_reducible rfl
   simp only [nz]
   refine pl_t 18 (?_) (by rfl) ?_ rfl ?_
   rotate_left
   ·go_simp
    try with_reducible rfl
   simp only [nz]
   refine pl_call (d := some 19) (by rfl) (by go_simp; first | done | exact ⟨rfl, rfl⟩ | with_reducible rfl) rfl ?_
   refine (cE).mono ?_
   rintro _ w4 hfin
   obtain ⟨rfl, S4, k4⟩ := hfin
   refine ⟨_, rfl, ?_⟩
   simp only [nz]
   have o4 := own_kept HL.own k4 (by omega) (by omega)
   have hb5 : Below w4.heap.size w4 (w4.alloc (.cells u.toArray 25)) := (Below.refl _ _).alloc (Nat.le_refl _) _
   have r5 : (w4.alloc (.cells u.toArray 25)).rangeAt w4.heap.size 0 u := by simpa using range_new w4 u.toArray 25
   have o5 := o4.alloc (.cells u.toArray 25)
   refine pl_run (d := some 20) (v := .slice (some ⟨w4.heap.size, 0, none⟩) 1 1) (w' := w4.alloc (.cells u.toArray 25)) (by rfl) (exec_bs1 rfl rfl (run_bs1 47 25 i1 _ u Tryz.underlying47 hi1 hiz (by rw [his, hul]) (by omega) (by omega) _)) rfl ?_
   simp only [nz]
   have s4 : w.heap.size ≤ w4.heap.size := Nat.le_trans HL.kept.size k4.size
   obtain ⟨w5, hw5⟩ : ∃ W, w4.alloc (.cells u.toArray 25) = W := ⟨_, rfl⟩
   rw [hw5] at hb5 r5 o5 ⊢
   clear hw5
   refine pl_runX (d := some 21) (by rfl) rfl (ex_app1 rfl rfl rfl Tryz.underlying47 hi1 hiz his (by rw [hib]; decide) rfl o5 (Nat.le_trans s4 hb5.size) r5 hul hone (by omega) hzk) ?_
   rintro v6 w6 ⟨o6, g6, -⟩
   simp only [nz]
   refine pl_t 8 (?_) (by rfl) ?_ rfl ?_
   rotate_left
   ·go_simp
    try with_reducible rfl
   simp only [nz]
   refine pl_nil ?_
   have b6 : Below w.heap.size w4 w6 := own_low (hb5.mono s4) (Nat.le_trans s4 hb5.size) o5 g6
   have HL6 : Hid (LR w Q R EvE 25 enS t (k + 1) v6 w6) := hide ⟨by rw [HS.out]; exact o6, by rw [HT.out]; exact S4.low b6 hQw, (HL.kept.trans k4).low b6 (Nat.le_refl _), HO.out⟩
   clear HL o4 o5 o6 g6 b6 S4 k4 hb5 r5 HS HT cE
   go_wp2_with fail
   go_roundw
   case rel => exact ⟨k + 1, by omega, by go_num, HL6⟩
   case measure => simp [intOf]; omega
  ·obtain rfl : k = N := by omega
   have HL := HL.out
   have hok := HL.ok
   obtain ⟨x, rfl, hx, hA, hB⟩ := own_rows (E := EvE) (ys := (itG enS t k).1) (by rw [itG_length]; exact HL.own) hok (by rw [itG_length]; unfold maxLen; omega)
   have HF : Hid (∃ y : Sl Ev, Ending.returned x.val = .returned y.val ∧ y.xs = (itG enS t k).1 ∧ y.At EvE wr ∧ y.Bk (fun b => w.heap.size ≤ b ∧ b < wr.heap.size) ∧ RS wr Q R (itG enS t k).2 ∧ Kept w R Q wr) := hide ⟨x, rfl, hx, hA, fun b _ hb => ⟨(hB b hb).1, (hB b hb).2.1⟩, HL.rs, HL.kept⟩
   clear HL hok hA hB hx
   go_wp2_with fail
   go_ret
   exact HF.out
def BRq.un (r : BRq) : Rq := ⟨r.c, r.n, r.s, r.t⟩
theorem rows_req {w : World} {a : Option Addr} {rs : List BRq} (h : ReqsAt w a rs) : RowsAt RqE w a (rs.map BRq.un) := by
 refine ⟨by rw [List.length_map]; exact h.1, fun r hr => ?_, ?_⟩
 ·obtain ⟨y, hy, rfl⟩ := List.mem_map.1 hr
  have k : y.ok := h.2.1 y hy
  exact ⟨k.tl, k.tb, k.sl, k.cl, k.ch, k.nl, k.nh⟩
 ·rcases h.2.2 with q | ⟨b, off, rfl, h1, h2⟩
  ·exact .inl (by rw [q]; rfl)
  ·refine .inr ⟨b, off, rfl, h1, ?_⟩
   have e : (rs.map BRq.un).flatMap RqE.f = flatR rs := by
    unfold flatR
    rw [List.flatMap_map]
    rfl
   rw [e]
   exact h2
structure Hp where
 q : Bool
 rs : List Rq
 vt : Vt
 sg : List Sg
def Hd.pure (h : Hd) : Hp := ⟨h.q, h.rs.xs, h.vt, h.sg.xs⟩
def baS (s : Rst) : (Bool × List Rq) × Rst := (((getB s.1 s.2.1).q, (getB s.1 s.2.1).rs.map BRq.un), (getB s.1 s.2.1).rest, (getB s.1 s.2.1).err, s.2.2)
def ceS (s : Rst) : (Vt × List Sg) × Rst := (((voS s).1, (lsS 64 siS (voS s).2).1), (lsS 64 siS (voS s).2).2)
def heS (s : Rst) : Hp × Rst := (⟨(baS s).1.1, (baS s).1.2, (ceS (baS s).2).1.1, (ceS (baS s).2).1.2⟩, (ceS (baS s).2).2)
theorem getB_len (rest : List Int) (e : Int) : (getB rest e).rest.length ≤ rest.length := by
 unfold getB
 split
 ·exact numS_len _ _ _
 ·exact Nat.le_trans (getRs_le _ _ _) (numS_len _ _ _)
theorem baS_len (s : Rst) : (baS s).2.1.length ≤ s.1.length := getB_len _ _
theorem ceS_len (s : Rst) : (ceS s).2.1.length ≤ s.1.length := Nat.le_trans (lsS_len siS_len _ _) (voS_len _)
theorem heS_len (s : Rst) : (heS s).2.1.length ≤ s.1.length := Nat.le_trans (ceS_len _) (baS_len _)
theorem zeroCeE (w : World) : (zeroValue 50).run Tryz.prog w = .ok (.agg (Vt.zero.cells ++ [Value.slice none 0 0]).toArray) w := by kernel_rfl
theorem zeroHdE (w : World) : (zeroValue 113).run Tryz.prog w = .ok (.agg ([Value.bool false, .slice none 0 0] ++ (Vt.zero.cells ++ [Value.slice none 0 0])).toArray) w := by kernel_rfl
set_option maxRecDepth 100000 in
theorem build_cert (t : List Value) (x : Sl Sg) (ht : t.length = 36) (w : World) : (Instr.build 50 #[(0, .agg t.toArray), (1, x.val)]).run Tryz.prog w = .ok (.agg (t ++ [x.val]).toArray) w :=
 build_fill (zs := Vt.zero.cells ++ [Value.slice none 0 0]) (pl := #[(0, 36), (36, 1)]) (zeroCeE w) (by kernel_rfl) (by kernel_rfl) _ _ (fill_two (c1 := t) (c2 := [x.val]) rfl rfl (by decide) rfl ht rfl rfl rfl)
set_option maxRecDepth 100000 in
theorem build_held (q : Bool) (x : Value) (t : List Value) (ht : t.length = 37) (hx : x.cells = #[x]) (w : World) : (Instr.build 113 #[(0, .agg #[.bool q, x]), (1, .agg t.toArray)]).run Tryz.prog w = .ok (.agg (.bool q :: x :: t).toArray) w :=
 build_fill (zs := [Value.bool false, .slice none 0 0] ++ (Vt.zero.cells ++ [Value.slice none 0 0])) (pl := #[(0, 2), (2, 37)]) (zeroHdE w) (by kernel_rfl) (by kernel_rfl) _ _ (fill_two (c1 := [.bool q, x]) (c2 := t) rfl rfl (by decide) (by decide) rfl ht rfl rfl)
theorem bgetS (Q R : Nat) (s : Rst) (w : World) (h : RS w Q R s) (hl : s.1.length ≤ 40000) : Calls Tryz.prog 108 #[.pointer (some ⟨R, 0, none⟩)] w fun en w' => ∃ x : Sl Rq, en = .returned (.agg #[.bool (baS s).1.1, x.val]) ∧ x.xs = (baS s).1.2 ∧ x.At RqE w' ∧ x.Bk (fun b => w.heap.size ≤ b ∧ b < w'.heap.size) ∧ RS w' Q R (baS s).2 ∧ Kept w R Q w' :=
 (bget_any R s.1 s.2.1 w h.st hl h.st.bs).mono (by
  rintro _ w1 ⟨a, cap, rfl, h1, h2, h3, h4, h5, h6⟩
  have e : (getB s.1 s.2.1).rs.length = ((getB s.1 s.2.1).rs.map BRq.un).length := (List.length_map ..).symm
  refine ⟨⟨a, cap, _⟩, ?_, rfl, rows_req h3, ?_, h.gb h6 h5, Kept.of h6⟩
  ·show _ = Ending.returned (.agg #[_, .slice a ((getB s.1 s.2.1).rs.map BRq.un).length cap])
   rw [← e]; rfl
  ·intro b hne hb
   refine ⟨h4 b hb, ?_⟩
   rcases h3.2.2 with q | ⟨c, off, e1, h7, _⟩
   ·exact absurd (by show ((getB s.1 s.2.1).rs.map BRq.un) = []; rw [q]; rfl) hne
   ·have hb : a = some b := hb
    rw [hb] at e1
    injection e1 with e1
    rw [e1]
    exact h7)
set_option maxRecDepth 100000 in
set_option maxHeartbeats 1000000 in
theorem rcertS (Q R : Nat) (s : Rst) (w : World) (h : RS w Q R s) (hl : s.1.length ≤ 40000) : Calls Tryz.prog 114 #[.pointer (some ⟨Q, 0, none⟩)] w fun en w' => ∃ x : Sl Sg, en = .returned (.agg (certL (ceS s).1.1 x).toArray) ∧ x.xs = (ceS s).1.2 ∧ x.At SgE w' ∧ x.Bk (fun b => w.heap.size ≤ b ∧ b < w'.heap.size) ∧ (ceS s).1.1.ok ∧ RS w' Q R (ceS s).2 ∧ Kept w R Q w' := by
 obtain ⟨zc, hzl, hzr⟩ : ∃ z : List Value, z.length = 37 ∧ ∀ w : World, (zeroValue 50).run Tryz.prog w = .ok (.agg z.toArray) w := ⟨_, by decide, zeroCeE⟩
 have cv := fun w0 h0 => rvoteS Q R s w0 h0 hl
 have hv2 := voS_ok s h.st.bs
 have hvl := hv2.len
 have hvo := Vt.one (voS s).1
 have hln := voS_len s
 unfold ceS certL
 generalize voS s = p_ at cv hv2 hvl hvo hln ⊢
 obtain ⟨vt, t⟩ := p_
 simp only at cv hv2 hvl hvo hln ⊢
 have cs := fun w0 h0 => rlistS_any Q R t w0 h0 (Nat.le_trans hln hl)
 generalize lsS 64 siS t = p_ at cs ⊢
 obtain ⟨ls, t'⟩ := p_
 simp only at cs ⊢
 obtain ⟨vc, hvc⟩ : ∃ q, Hid (vt.cells = q) := ⟨_, hide rfl⟩
 rw [hvc.out] at hvl hvo
 simp only [hvc.out] at cv ⊢
 clear hvc hln
 replace hv2 := hide hv2
 obtain ⟨hB1, hr1, hs1⟩ := boxed_new w zc 50
 have ht1 := there_newN w zc.toArray 50 (n := 37) (by simp [hzl])
 have hRw := h.st.1.1
 have hQw := h.mr.lt
 go_enter Tryz.func114, Tryz.ntmps114
 go_upto_region 0 with fail
 try simp only [Act.put]
 refine pl_begin ?_
 refine pl_run (d := some 2) (v := .pointer (some ⟨w.heap.size, 0, none⟩)) (w' := w.alloc (.cells zc.toArray 50)) (by rfl) (ex_alloc rfl (hzr _)) rfl ?_
 simp only [nz]
 refine pl_nil ?_
 obtain ⟨W1, hW1⟩ : ∃ W, w.alloc (.cells zc.toArray 50) = W := ⟨_, rfl⟩
 rw [hW1] at hB1 hr1 hs1 ht1 ⊢
 clear hW1 hr1 hzr hzl
 go_upto_region 1 with fail
 have hB8 := hB1.drew
 have ht8 : W1.drew.there w.heap.size 0 37 := ht1
 have hs8 : w.heap.size < W1.drew.heap.size := hs1
 refine hs_begin (S := (fun W' => W'.cell? ⟨Q, 0, none⟩ = some (.pointer (some ⟨R, 0, none⟩)))) 12 rfl (by kernel_rfl) ?_
 obtain ⟨w8, hw8⟩ : ∃ W, W1.drew = W := ⟨_, rfl⟩
 rw [hw8] at hB8 ht8 hs8 ⊢
 clear hw8
 have S8 := h.below hB8
 have hS : (fun W' => W'.cell? ⟨Q, 0, none⟩ = some (.pointer (some ⟨R, 0, none⟩))) w8 := S8.mr.c0
 refine hs_t 0 3 (?_) rfl (by kernel_rfl) (by kernel_rfl) (by kernel_rfl) (by rfl) ?_ hS rfl ?_
 rotate_left
 ·intro w' hw
  go_simp
  try with_reducible rfl
 simp only [nz]
 refine hs_t 2 5 (?_) rfl (by kernel_rfl) (by kernel_rfl) (by kernel_rfl) (by rfl) ?_ hS rfl ?_
 rotate_left
 ·intro w' hw
  go_simp
  try with_reducible rfl
 simp only [nz]
 refine hs_t 3 6 (?_) rfl (by kernel_rfl) (by kernel_rfl) (by kernel_rfl) (by rfl) ?_ hS rfl ?_
 rotate_left
 ·intro w' hw
  go_simp
  try with_reducible rfl
 simp only [nz]
 refine hs_t 4 7 (?_) rfl (by kernel_rfl) (by kernel_rfl) (by kernel_rfl) (by rfl) ?_ hS rfl ?_
 rotate_left
 ·intro w' hw
  go_simp
  try with_reducible rfl
 simp only [nz]
 refine hs_t 5 8 (.pointer (some ⟨R, 0, none⟩)) rfl (by kernel_rfl) (by kernel_rfl) (by kernel_rfl) (by rfl) (fun w' hw => pl_one rfl rfl hw Tryz.underlying98 rfl) hS rfl ?_
 simp only [nz]
 refine hs_t 6 9 (?_) rfl (by kernel_rfl) (by kernel_rfl) (by kernel_rfl) (by rfl) ?_ hS rfl ?_
 rotate_left
 ·intro w' hw
  go_simp
  try with_reducible rfl
 simp only [nz]
 refine hs_t 7 10 (?_) rfl (by kernel_rfl) (by kernel_rfl) (by kernel_rfl) (by rfl) ?_ hS rfl ?_
 rotate_left
 ·intro w' hw
  go_simp
  try with_reducible rfl
 simp only [nz]
 refine hs_t 8 11 (?_) rfl (by kernel_rfl) (by kernel_rfl) (by kernel_rfl) (by rfl) ?_ hS rfl ?_
 rotate_left
 ·intro w' hw
  go_simp
  try with_reducible rfl
 simp only [nz]
 refine hs_call (i := 1) (d := some 4) rfl (by kernel_rfl) (by rfl) (by go_simp; first | done | exact ⟨rfl, rfl⟩ | with_reducible rfl) rfl ?_
 refine (cv w8 S8).mono ?_
 rintro _ w2 ⟨rfl, S2, k2⟩
 have hS : (fun W' => W'.cell? ⟨Q, 0, none⟩ = some (.pointer (some ⟨R, 0, none⟩))) w2 := S2.mr.c0
 refine ⟨_, rfl, hS, ?_⟩
 simp only [nz]
 refine hs_call (i := 9) (d := some 12) rfl (by kernel_rfl) (by rfl) (by go_simp; first | done | exact ⟨rfl, rfl⟩ | with_reducible rfl) rfl ?_
 refine (cs w2 S2).mono ?_
 rintro _ w3 ⟨x, rfl, hx, hA, hB, S3, k3⟩
 have hS : (fun W' => W'.cell? ⟨Q, 0, none⟩ = some (.pointer (some ⟨R, 0, none⟩))) w3 := S3.mr.c0
 refine ⟨_, rfl, hS, ?_⟩
 simp only [nz]
 have k8 : Kept w R Q w3 := (((Kept.refl w R Q).below hB8).trans k2).trans k3
 have thA : w3.there w.heap.size 0 37 := there_blk (there_blk ht8 (k2.block _ hs8 (by omega) (by omega))) (k3.block _ (Nat.lt_of_lt_of_le hs8 k2.size) (by omega) (by omega))
 have hbs := fun w0 => build_cert vc x hvl w0
 have hpl : (vc ++ [x.val]).length = 37 := by rw [List.length_append, hvl]; rfl
 have hip : (Tryz.prog.info? 50).map (·.size) = some (vc ++ [x.val]).length := by rw [hpl]; exact iszCe
 have hp1 : ∀ v ∈ vc ++ [x.val], v.oneCell' = true := fun v hv => by
  rcases List.mem_append.1 hv with g | g
  ·exact hvo v g
  ·rw [List.mem_singleton.1 g]; rfl
 obtain ⟨pc, hpc⟩ : ∃ p, Hid (vc ++ [x.val] = p) := ⟨_, hide rfl⟩
 simp only [hpc.out] at hbs hpl hip hp1
 refine hs_t 10 13 (.agg pc.toArray) rfl (by kernel_rfl) (by kernel_rfl) (by kernel_rfl) (by rfl) (fun w' hw => ex_build (parts := [(0, .tmp 4), (1, .tmp 12)]) rfl rfl (hbs _)) hS rfl ?_
 simp only [nz]
 have hSE : (fun W' => W'.cell? ⟨Q, 0, none⟩ = some (.pointer (some ⟨R, 0, none⟩))) (w3.setCells w.heap.size 0 pc) := (S3.low (below_sets (Nat.le_refl _) pc 0 _ (Below.refl _ w3)) hQw).mr.c0
 refine hs_store (i := 11) (w' := w3.setCells w.heap.size 0 pc) rfl (by kernel_rfl) (by rfl) (ex_put (cs := pc.toArray) rfl rfl rfl (by simpa [hpl] using thA) (by simpa using hip) (all_one hp1)) rfl hSE ?_
 refine hs_done (by kernel_rfl) ?_
 have hlow : Below w.heap.size w3 (w3.setCells w.heap.size 0 pc) := below_sets (Nat.le_refl _) pc 0 _ (Below.refl _ w3)
 have hrs := run_loadVar_mid (P := Tryz.prog) (w3.setCells w.heap.size 0 pc) w.heap.size 0 50 pc _ (World.rangeAt_setCells_same w3 w.heap.size 0 pc (by rw [hpl]; exact thA)) Tryz.underlying50 rfl hip
 have HF : Hid (∃ y : Sl Sg, Ending.returned (.agg pc.toArray) = .returned (.agg (vc ++ [y.val]).toArray) ∧ y.xs = ls ∧ y.At SgE (w3.setCells w.heap.size 0 pc) ∧ y.Bk (fun b => w.heap.size ≤ b ∧ b < (w3.setCells w.heap.size 0 pc).heap.size) ∧ vt.ok ∧ RS (w3.setCells w.heap.size 0 pc) Q R t' ∧ Kept w R Q (w3.setCells w.heap.size 0 pc)) := hide ⟨x, by rw [hpc.out], hx, hA.on (by rw [size_sets]; exact Nat.le_refl _) hB (fun b hb hlt => blk_sets (by have := hb.1; have := k2.size; omega)), hB.mono (fun b hb => ⟨by have := hb.1; have := k2.size; omega, by rw [size_sets]; exact hb.2⟩), hv2.out, S3.low hlow hQw, k8.low hlow (Nat.le_refl _)⟩
 clear hA hB S3 k3 S2 k2 hpc hbs hx k8
 go_wp2_with fail
 refine bodyPost_ret (v := .agg pc.toArray) ?_ rfl ?_
 ·simp [results, Tryz.results114, Act.put, asAddr, hrs]
 ·exact HF.out
def Hd.Bk (h : Hd) (P : Nat → Prop) : Prop := h.rs.Bk P ∧ h.sg.Bk P
theorem Hd.Bk.mono {h : Hd} {P P' : Nat → Prop} (k : h.Bk P) (hp : ∀ b, P b → P' b) : h.Bk P' := ⟨k.1.mono hp, k.2.mono hp⟩
theorem Hd.At.on {w w' : World} {h : Hd} {P : Nat → Prop} (k : h.At w) (hs : w.heap.size ≤ w'.heap.size) (hb : h.Bk P) (hp : ∀ b, P b → b < w.heap.size → w'.heap[b]? = w.heap[b]?) : h.At w' := ⟨Sl.At.on k.1 hs hb.1 hp, Sl.At.on k.2 hs hb.2 hp⟩
set_option maxRecDepth 100000 in
set_option maxHeartbeats 1000000 in
theorem rheldS (Q R : Nat) (s : Rst) (w : World) (h : RS w Q R s) (hl : s.1.length ≤ 40000) : Calls Tryz.prog 156 #[.pointer (some ⟨Q, 0, none⟩)] w fun en w' => ∃ y : Hd, en = .returned (.agg y.cells.toArray) ∧ y.pure = (heS s).1 ∧ y.At w' ∧ y.Bk (fun b => w.heap.size ≤ b ∧ b < w'.heap.size) ∧ y.vt.ok ∧ RS w' Q R (heS s).2 ∧ Kept w R Q w' := by
 obtain ⟨zc, hzl, hzr⟩ : ∃ z : List Value, z.length = 39 ∧ ∀ w : World, (zeroValue 113).run Tryz.prog w = .ok (.agg z.toArray) w := ⟨_, by decide, zeroHdE⟩
 have cb := fun w0 h0 => bgetS Q R s w0 h0 hl
 have hln := baS_len s
 unfold heS
 generalize baS s = p_ at cb hln ⊢
 obtain ⟨⟨q, rs⟩, t⟩ := p_
 simp only at cb hln ⊢
 have cc := fun w0 h0 => rcertS Q R t w0 h0 (Nat.le_trans hln hl)
 generalize ceS t = p_ at cc ⊢
 obtain ⟨⟨vt, sg⟩, t'⟩ := p_
 simp only at cc ⊢
 clear hln
 obtain ⟨hB1, hr1, hs1⟩ := boxed_new w zc 113
 have ht1 := there_newN w zc.toArray 113 (n := 39) (by simp [hzl])
 have hRw := h.st.1.1
 have hQw := h.mr.lt
 go_enter Tryz.func156, Tryz.ntmps156
 go_upto_region 0 with fail
 try simp only [Act.put]
 refine pl_begin ?_
 refine pl_run (d := some 2) (v := .pointer (some ⟨w.heap.size, 0, none⟩)) (w' := w.alloc (.cells zc.toArray 113)) (by rfl) (ex_alloc rfl (hzr _)) rfl ?_
 simp only [nz]
 refine pl_nil ?_
 obtain ⟨W1, hW1⟩ : ∃ W, w.alloc (.cells zc.toArray 113) = W := ⟨_, rfl⟩
 rw [hW1] at hB1 hr1 hs1 ht1 ⊢
 clear hW1 hr1 hzr hzl
 have S1 := h.below hB1
 go_upto_region 1 with fail
 try simp only [Act.put]
 refine pl_begin ?_
 refine pl_t 3 (?_) (by rfl) ?_ rfl ?_
 rotate_left
 ·go_simp
  try with_reducible rfl
 simp only [nz]
 refine pl_t 4 (?_) (by rfl) ?_ rfl ?_
 rotate_left
 ·go_simp
  try with_reducible rfl
 simp only [nz]
 refine pl_t 5 (?_) (by rfl) ?_ rfl ?_
 rotate_left
 ·go_simp
  try with_reducible rfl
 simp only [nz]
 refine pl_t 6 (.pointer (some ⟨R, 0, none⟩)) (by rfl) (pl_one rfl rfl S1.mr.c0 Tryz.underlying98 rfl) rfl ?_
 simp only [nz]
 refine pl_call (d := some 7) (by rfl) (by go_simp; first | done | exact ⟨rfl, rfl⟩ | with_reducible rfl) rfl ?_
 refine (cb W1 S1).mono ?_
 rintro _ w2 ⟨x, rfl, hx, hA, hB, S2, k2⟩
 refine ⟨_, rfl, ?_⟩
 simp only [nz]
 refine pl_t 8 (?_) (by rfl) ?_ rfl ?_
 rotate_left
 ·go_simp
  try with_reducible rfl
 simp only [nz]
 refine pl_call (d := some 9) (by rfl) (by go_simp; first | done | exact ⟨rfl, rfl⟩ | with_reducible rfl) rfl ?_
 refine (cc w2 S2).mono ?_
 rintro _ w3 ⟨y, rfl, hy, hC, hD, hvt, S3, k3⟩
 refine ⟨_, rfl, ?_⟩
 simp only [nz]
 have k8 : Kept w R Q w3 := (((Kept.refl w R Q).below hB1).trans k2).trans k3
 have thA : w3.there w.heap.size 0 39 := there_blk (there_blk ht1 (k2.block _ hs1 (by omega) (by omega))) (k3.block _ (Nat.lt_of_lt_of_le hs1 k2.size) (by omega) (by omega))
 have hvl : (certL vt y).length = 37 := by have := hvt.len; simp [certL]; omega
 have hbs := fun w0 => build_held q x.val (certL vt y) hvl rfl w0
 have hpl : (Value.bool q :: x.val :: certL vt y).length = 39 := by simp [hvl]
 have hip : (Tryz.prog.info? 113).map (·.size) = some (Value.bool q :: x.val :: certL vt y).length := by rw [hpl]; exact iszH
 have hp1 : ∀ v ∈ Value.bool q :: x.val :: certL vt y, v.oneCell' = true := HdE.one ⟨q, x, vt, y⟩
 have hA3 : x.At RqE w3 := hA.kept k3 (n := W1.heap.size) (by omega) (by omega) hB (fun b hb => hb.1)
 obtain ⟨pc, hpc⟩ : ∃ p, Hid (Value.bool q :: x.val :: certL vt y = p) := ⟨_, hide rfl⟩
 simp only [hpc.out] at hbs hpl hip hp1
 refine pl_t 10 (.agg pc.toArray) (by rfl) (ex_build (parts := [(0, .tmp 7), (1, .tmp 9)]) rfl rfl (hbs _)) rfl ?_
 simp only [nz]
 refine pl_store (w' := w3.setCells w.heap.size 0 pc) (by rfl) (ex_put (cs := pc.toArray) rfl rfl rfl (by simpa [hpl] using thA) (by simpa using hip) (all_one hp1)) rfl ?_
 refine pl_nil ?_
 have hlow : Below w.heap.size w3 (w3.setCells w.heap.size 0 pc) := below_sets (Nat.le_refl _) pc 0 _ (Below.refl _ w3)
 have hrs := run_loadVar_mid (P := Tryz.prog) (w3.setCells w.heap.size 0 pc) w.heap.size 0 113 pc _ (World.rangeAt_setCells_same w3 w.heap.size 0 pc (by rw [hpl]; exact thA)) Tryz.underlying113 rfl hip
 have HF : Hid (∃ g : Hd, Ending.returned (.agg pc.toArray) = .returned (.agg g.cells.toArray) ∧ g.pure = ⟨q, rs, vt, sg⟩ ∧ g.At (w3.setCells w.heap.size 0 pc) ∧ g.Bk (fun b => w.heap.size ≤ b ∧ b < (w3.setCells w.heap.size 0 pc).heap.size) ∧ g.vt.ok ∧ RS (w3.setCells w.heap.size 0 pc) Q R t' ∧ Kept w R Q (w3.setCells w.heap.size 0 pc)) := by
  have z2 := k2.size
  have z3 := k3.size
  have hBk : Hd.Bk ⟨q, x, vt, y⟩ (fun b => W1.heap.size ≤ b ∧ b < w3.heap.size) := ⟨hB.mono (fun b hb => ⟨hb.1, by omega⟩), hD.mono (fun b hb => ⟨by omega, hb.2⟩)⟩
  refine hide ⟨⟨q, x, vt, y⟩, by rw [← hpc.out]; rfl, by rw [← hx, ← hy]; rfl, Hd.At.on ⟨hA3, hC⟩ (by rw [size_sets]; exact Nat.le_refl _) hBk (fun b hb hlt => blk_sets (by omega)), hBk.mono (fun b hb => ⟨by omega, by rw [size_sets]; exact hb.2⟩), hvt, S3.low hlow hQw, k8.low hlow (Nat.le_refl _)⟩
 clear hA hB S3 k3 S2 k2 hpc hbs hx k8 hA3 hC hD hy
 go_wp2_with fail
 refine bodyPost_ret (v := .agg pc.toArray) ?_ rfl ?_
 ·simp [results, Tryz.results156, Act.put, asAddr, hrs]
 ·exact HF.out
theorem numRS (Q R : Nat) (most : Int) (s : Rst) (w : World) (h : RS w Q R s) : Calls Tryz.prog 39 #[.pointer (some ⟨R, 0, none⟩), .int .i64 most] w fun en w' => en = .returned (.int .i64 (nuS most s).1) ∧ RS w' Q R (nuS most s).2 ∧ Kept w R Q w' :=
 (num_any R s.1 s.2.1 most w h.st).mono (by rintro _ w1 ⟨rfl, h1, h2⟩; exact ⟨rfl, h.gb h2 h1, Kept.of h2⟩)
def kiS (most : Int) (s : Rst) : Int × Rst := ((numS s.1 s.2.1 most).1, (numS s.1 s.2.1 most).2.1, (numS s.1 s.2.1 most).2.2, kdZ s.1 s.2.1 most s.2.2)
def dgS (s : Rst) : List Int × Rst := (padN 32 (rawS s.1 s.2.1 32).1, (rawS s.1 s.2.1 32).2.1, (rawS s.1 s.2.1 32).2.2, s.2.2)
def txS (most : Int) (s : Rst) : ByteArray × Rst := (strOf (textS s.1 s.2.1 most).1, (textS s.1 s.2.1 most).2.1, (textS s.1 s.2.1 most).2.2, s.2.2)
theorem kiS_len (most : Int) (s : Rst) : (kiS most s).2.1.length ≤ s.1.length := numS_len _ _ _
theorem dgS_len (s : Rst) : (dgS s).2.1.length ≤ s.1.length := rawS_len _ _ _
theorem txS_len (most : Int) (s : Rst) : (txS most s).2.1.length ≤ s.1.length := textS_len _ _ _
theorem dgS_ok (s : Rst) (hb : s.2.1 = 0 → Bs s.1) : (dgS s).1.length = 32 ∧ ∀ z ∈ (dgS s).1, 0 ≤ z ∧ z < 256 := ⟨padN_len _ _, padN_bs (rawS_t hb)⟩
theorem kindRS (Q R : Nat) (most : Int) (s : Rst) (w : World) (h : RS w Q R s) : Calls Tryz.prog 107 #[.pointer (some ⟨Q, 0, none⟩), .int .i64 most] w fun en w' => en = .returned (.int .i64 (kiS most s).1) ∧ RS w' Q R (kiS most s).2 ∧ Kept w R Q w' :=
 (rkind_any Q R s.2.2 s.1 s.2.1 most w h.st h.mr h.qt).mono (by rintro _ w1 ⟨rfl, h1, h2, h3, h4⟩; exact ⟨rfl, ⟨h1, h2, h4⟩, h3⟩)
theorem digRS (Q R : Nat) (s : Rst) (w : World) (h : RS w Q R s) (hl : s.1.length ≤ 40000) : Calls Tryz.prog 113 #[.pointer (some ⟨Q, 0, none⟩)] w fun en w' => en = .returned (.agg (v8 (dgS s).1).toArray) ∧ RS w' Q R (dgS s).2 ∧ Kept w R Q w' :=
 (rdigest_any Q R s.2.2 s.1 s.2.1 w h.st h.mr hl).mono (by rintro _ w1 ⟨rfl, h1, h2⟩; exact ⟨rfl, h.gb h2 h1, Kept.of h2⟩)
theorem textRS (Q R : Nat) (most : Int) (s : Rst) (w : World) (h : RS w Q R s) : Calls Tryz.prog 40 #[.pointer (some ⟨R, 0, none⟩), .int .i64 most] w fun en w' => en = .returned (.string (txS most s).1) ∧ RS w' Q R (txS most s).2 ∧ Kept w R Q w' :=
 (text_any R s.1 s.2.1 most w h.st h.st.pos).mono (by rintro _ w1 ⟨rfl, h1, h2⟩; exact ⟨rfl, h.gb h2 h1, Kept.of h2⟩)
structure LH (w : World) (Q R : Nat) (t : Rst) (k : Nat) (v : Value) (W : World) : Prop where
 ex : ∃ ys : List Hd, ys.map Hd.pure = (itG heS t k).1 ∧ W.ownsRow w.heap.size 113 39 v k (ys.flatMap Hd.cells) ∧ ∀ y ∈ ys, y.vt.ok ∧ y.At W ∧ y.Bk (fun b => w.heap.size ≤ b ∧ b < W.heap.size ∧ v.ownBlock ≠ some b)
 rs : RS W Q R (itG heS t k).2
 kept : Kept w R Q W
def infoHd0 : List Value := [Value.bool false, .slice none 0 0] ++ (Vt.zero.cells ++ [Value.slice none 0 0])
theorem infoHd : (Tryz.prog.info? 113).map (fun i => (i.zero, i.size, i.bytes)) = some (some (.agg infoHd0.toArray), 39, 120) := by kernel_rfl
theorem zk_held : (Value.agg infoHd0.toArray).cells.size = 39 := by decide
theorem LH.step {w wr w4 w5 w6 : World} {Q R k : Nat} {t : Rst} {v v6 : Value} {y : Hd} (hQ : Q < w.heap.size) (hR : R < w.heap.size) (H : LH w Q R t k v wr) (e1 : y.pure = (heS (itG heS t k).2).1) (hy : y.At w4) (hB : y.Bk (fun b => wr.heap.size ≤ b ∧ b < w4.heap.size)) (hvt : y.vt.ok) (S4 : RS w4 Q R (heS (itG heS t k).2).2) (k4 : Kept wr R Q w4)
  (hb5 : Below w4.heap.size w4 w5) (g6 : w5.grownBy w6 v.ownBlock) (gb : ∀ g, v6.ownBlock = some g → v.ownBlock = some g ∨ w5.heap.size ≤ g) {ys : List Hd} (e2 : ys.map Hd.pure = (itG heS t k).1) (o3 : wr.ownsRow w.heap.size 113 39 v k (ys.flatMap Hd.cells)) (hys : ∀ y ∈ ys, y.vt.ok ∧ y.At wr ∧ y.Bk (fun b => w.heap.size ≤ b ∧ b < wr.heap.size ∧ v.ownBlock ≠ some b)) (o6 : w6.ownsRow w.heap.size 113 39 v6 (k + 1) (ys.flatMap Hd.cells ++ y.cells)) : LH w Q R t (k + 1) v6 w6 := by
 have z4 := k4.size
 have z5 := hb5.size
 have z6 := g6.size
 have zk := H.kept.size
 have bl : ∀ b, b < w4.heap.size → v.ownBlock ≠ some b → w6.heap[b]? = w4.heap[b]? := fun b h1 h2 => (g6.block b (by omega) (fun q => h2 q.symm)).trans (hb5.block b h1)
 have low : Below w.heap.size w4 w6 := own_low (B := w.heap.size) (hb5.mono (by omega)) (by omega) ((own_kept o3 k4 (by omega) (by omega)).kept (row := none) ⟨hb5.os, hb5.tape, hb5.output, hb5.size, fun b h1 _ => hb5.block b h1⟩ (by cases v.ownBlock <;> simp)) g6
 refine ⟨⟨ys ++ [y], ?_, ?_, ?_⟩, S4.low low hQ, (H.kept.trans k4).low low (Nat.le_refl _)⟩
 ·rw [List.map_append, e2]
  show _ = (itG heS t k).1 ++ [(heS (itG heS t k).2).1]
  rw [← e1]
  rfl
 ·rw [List.flatMap_append]
  simpa using o6
 ·intro u hu
  rcases List.mem_append.1 hu with g | g
  ·obtain ⟨u1, u2, u3⟩ := hys u g
   refine ⟨u1, u2.on (by omega) u3 (fun b hb hlt => (bl b (by omega) hb.2.2).trans (k4.block b hlt (by omega) (by omega))), u3.mono (fun b hb => ⟨hb.1, by omega, fun q => ?_⟩)⟩
   rcases gb b q with g1 | g1
   ·exact hb.2.2 g1
   ·omega
  ·rw [List.mem_singleton.1 g]
   have nb : ∀ b, wr.heap.size ≤ b → v.ownBlock ≠ some b := fun b hb q => by have := (o3.lt b q).2; omega
   refine ⟨hvt, hy.on (by omega) hB (fun b hb hlt => bl b hlt (nb b hb.1)), hB.mono (fun b hb => ⟨by omega, by omega, fun q => ?_⟩)⟩
   rcases gb b q with g1 | g1
   ·exact nb b hb.1 g1
   ·omega
set_option maxRecDepth 100000 in
set_option maxHeartbeats 1000000 in
theorem rlistH_any (Q R : Nat) (s : Rst) (w : World) (h : RS w Q R s) (hl : s.1.length ≤ 40000) : Calls Tryz.prog 155 #[.func (.func 39) #[.pointer (some ⟨R, 0, none⟩)] #[], .int .i64 4, .func (.func 156) #[.pointer (some ⟨Q, 0, none⟩)] #[]] w fun en w' => ∃ x : Sl Hd, en = .returned x.val ∧ x.xs.map Hd.pure = (lsS 4 heS s).1 ∧ HdsAt w' x ∧ x.Bk (fun b => w.heap.size ≤ b ∧ b < w'.heap.size) ∧ (∀ y ∈ x.xs, y.Bk (fun b => w.heap.size ≤ b ∧ b < w'.heap.size)) ∧ RS w' Q R (lsS 4 heS s).2 ∧ Kept w R Q w' := by
 obtain ⟨i1, hi1, hiz, his, hib⟩ := info_parts infoHd
 have hzk := zk_held
 have hRw := h.st.1.1
 have hQw := h.mr.lt
 have cn := fun w0 h0 => numRS Q R 4 s w0 h0
 have hx1 : 0 ≤ (nuS 4 s).1 ∧ (nuS 4 s).1 ≤ 4 := numS_bd (most := 4) h.st.bs (by omega)
 have hx2 := nuS_len 4 s
 unfold lsS
 generalize nuS 4 s = p_ at hx1 hx2 cn ⊢
 obtain ⟨n, t⟩ := p_
 simp only at hx1 hx2 cn ⊢
 obtain ⟨N, rfl⟩ : ∃ N : Nat, n = (N : Int) := ⟨n.toNat, by omega⟩
 have hN : N ≤ 4 := by omega
 rw [Int.toNat_natCast]
 have hlt2 : t.1.length ≤ 40000 := Nat.le_trans hx2 hl
 clear hx1 hx2 hl
 go_enter Tryz.func155, Tryz.ntmps155
 go_upto_region 1 with fail
 try simp only [Act.put]
 refine pl_begin ?_
 refine pl_t 9 (?_) (by rfl) ?_ rfl ?_
 rotate_left
 ·go_simp
  try with_reducible rfl
 simp only [nz]
 refine pl_t 10 (?_) (by rfl) ?_ rfl ?_
 rotate_left
 ·go_simp
  try with_reducible rfl
 simp only [nz]
 refine pl_call (d := some 11) (by rfl) (by go_simp; first | done | exact ⟨rfl, rfl⟩ | with_reducible rfl) rfl ?_
 refine (cn w h).mono ?_
 rintro _ w2 ⟨rfl, S2, k2⟩
 refine ⟨_, rfl, ?_⟩
 simp only [nz]
 refine pl_t 7 (?_) (by rfl) ?_ rfl ?_
 rotate_left
 ·go_simp
  try with_reducible rfl
 simp only [nz]
 refine pl_nil ?_
 clear cn
 go_upto_region 2 with fail
 try simp only [Act.put]
 refine pl_begin ?_
 refine pl_t 12 (?_) (by rfl) ?_ rfl ?_
 rotate_left
 ·go_simp
  try with_reducible rfl
 simp only [nz]
 refine pl_runX (d := some 13) (by rfl) rfl (ex_mk (B := w.heap.size) (c := (N : Int)) rfl rfl (by omega) (by omega) Tryz.underlying44 hi1 hiz his (by rw [hib]; decide) k2.size) ?_
 rintro v3 w3 ⟨o3, g3⟩
 simp only [nz]
 refine pl_t 8 (?_) (by rfl) ?_ rfl ?_
 rotate_left
 ·go_simp
  try with_reducible rfl
 simp only [nz]
 refine pl_nil ?_
 have hb3 : Below w2.heap.size w2 w3 := (Below.refl _ _).grown g3 (Nat.le_refl _) (fun k hk => by cases hk)
 have HL0 : Hid (LH w Q R t 0 v3 w3) := hide ⟨⟨[], rfl, o3, fun y hy => by cases hy⟩, S2.below hb3, k2.below hb3⟩
 clear o3 g3 hb3 S2 k2 h
 go_wp2_with fail
 go_loopw [8, 15] (fun ov iv wr => ∃ k : Nat, k ≤ N ∧ iv = .int .i64 (k : Int) ∧ Hid (LH w Q R t k ov wr)) (fun _ iv _ => N - (intOf iv).toNat)
 case atStart => exact ⟨0, by omega, rfl, HL0⟩
 case round =>
  clear HL0
  obtain ⟨k, hk, rfl, HL⟩ := hrel
  by_cases hlt : k < N
  ·have k1 : (k : Int) < N := by omega
   have HL := HL.out
   have hle := Nat.le_trans (itG_len heS_len t k) hlt2
   have cE := rheldS Q R (itG heS t k).2 wr HL.rs hle
   go_upto_region 5 with fail
   try simp only [Act.put]
   refine pl_begin ?_
   refine pl_t 17 (?_) (by rfl) ?_ rfl ?_
   rotate_left
   ·go_simp
    try with_reducible rfl
   simp only [nz]
   refine pl_t 18 (?_) (by rfl) ?_ rfl ?_
   rotate_left
   ·go_simp
    try with_reducible rfl
   simp only [nz]
   refine pl_call (d := some 19) (by rfl) (by go_simp; first | done | exact ⟨rfl, rfl⟩ | with_reducible rfl) rfl ?_
   refine (cE).mono ?_
   rintro _ w4 ⟨y, rfl, e4, a4, B4, vt4, S4, k4⟩
   refine ⟨_, rfl, ?_⟩
   simp only [nz]
   obtain ⟨ys, e2, o3, hys⟩ := HL.ex
   have o4 := own_kept o3 k4 (by omega) (by omega)
   have hul : y.cells.length = 39 := HdE.len y vt4
   have hone := HdE.one y
   have hone : ∀ v ∈ y.cells, v.oneCell' = true := hone
   obtain ⟨u, hu⟩ : ∃ u, Hid (y.cells = u) := ⟨_, hide rfl⟩
   rw [hu.out] at hul hone ⊢
   have hb5 : Below w4.heap.size w4 (w4.alloc (.cells u.toArray 113)) := (Below.refl _ _).alloc (Nat.le_refl _) _
   have r5 : (w4.alloc (.cells u.toArray 113)).rangeAt w4.heap.size 0 u := by simpa using range_new w4 u.toArray 113
   have o5 := o4.alloc (.cells u.toArray 113)
   refine pl_run (d := some 20) (v := .slice (some ⟨w4.heap.size, 0, none⟩) 1 1) (w' := w4.alloc (.cells u.toArray 113)) (by rfl) (exec_bs1 rfl rfl (run_bs1 44 113 i1 _ u Tryz.underlying44 hi1 hiz (by rw [his, hul]) (by omega) (by omega) _)) rfl ?_
   simp only [nz]
   have s4 : w.heap.size ≤ w4.heap.size := Nat.le_trans HL.kept.size k4.size
   obtain ⟨w5, hw5⟩ : ∃ W, w4.alloc (.cells u.toArray 113) = W := ⟨_, rfl⟩
   rw [hw5] at hb5 r5 o5 ⊢
   clear hw5
   refine pl_runX (d := some 21) (by rfl) rfl (ex_app1 rfl rfl rfl Tryz.underlying44 hi1 hiz his (by rw [hib]; decide) rfl o5 (Nat.le_trans s4 hb5.size) r5 hul hone (by omega) hzk) ?_
   rintro v6 w6 ⟨o6, g6, gb6⟩
   simp only [nz]
   refine pl_t 8 (?_) (by rfl) ?_ rfl ?_
   rotate_left
   ·go_simp
    try with_reducible rfl
   simp only [nz]
   refine pl_nil ?_
   have HL6 : Hid (LH w Q R t (k + 1) v6 w6) := hide (HL.step hQw hRw e4 a4 B4 vt4 S4 k4 hb5 g6 gb6 e2 o3 hys (by rw [hu.out]; exact o6))
   clear HL o3 o4 o5 o6 g6 S4 k4 hb5 r5 cE a4 B4 vt4 e4 e2 hys hu
   go_wp2_with fail
   go_roundw
   case rel => exact ⟨k + 1, by omega, by go_num, HL6⟩
   case measure => simp [intOf]; omega
  ·obtain rfl : k = N := by omega
   have HL := HL.out
   obtain ⟨ys, e2, o3, hys⟩ := HL.ex
   have hlen : ys.length = k := by
    have := congrArg List.length e2
    rwa [List.length_map, itG_length] at this
   obtain ⟨x, rfl, hx, hA, hB⟩ := own_rows (E := HdE) (ys := ys) (by rw [hlen]; exact o3) (fun y hy => (hys y hy).1) (by rw [hlen]; unfold maxLen; omega)
   have HF : Hid (∃ g : Sl Hd, Ending.returned x.val = .returned g.val ∧ g.xs.map Hd.pure = (itG heS t k).1 ∧ HdsAt wr g ∧ g.Bk (fun b => w.heap.size ≤ b ∧ b < wr.heap.size) ∧ (∀ y ∈ g.xs, y.Bk (fun b => w.heap.size ≤ b ∧ b < wr.heap.size)) ∧ RS wr Q R (itG heS t k).2 ∧ Kept w R Q wr) := hide ⟨x, rfl, by rw [hx]; exact e2, ⟨hA, fun y hy => by rw [hx] at hy; exact (hys y hy).2.1⟩, fun b _ hb => ⟨(hB b hb).1, (hB b hb).2.1⟩, fun y hy => by rw [hx] at hy; exact (hys y hy).2.2.mono (fun b hb => ⟨hb.1, hb.2.1⟩), HL.rs, HL.kept⟩
   clear HL hA hB hx e2 o3 hys
   go_wp2_with fail
   go_ret
   exact HF.out
structure MV (w : World) (Q R A B n : Nat) (q : List Value) (s : Rst) (W : World) : Prop where
 row : W.rangeAt B 0 q
 box : W.there B 0 n
 ans : W.there A 0 n
 kept : Kept w R Q W
 rs : RS W Q R s
 la : A < W.heap.size
 lb : B < W.heap.size
 na : w.heap.size ≤ A
 nb : w.heap.size ≤ B
 ne : A ≠ B
 rq : R < w.heap.size ∧ Q < w.heap.size
theorem MV.on {w W W' : World} {Q R A B n : Nat} {q : List Value} {s s' : Rst} (h : MV w Q R A B n q s W) (k : Kept W R Q W') (S : RS W' Q R s') : MV w Q R A B n q s' W' := by
 have h1 := h.na
 have h2 := h.nb
 have h3 := h.rq
 exact ⟨range_blk h.row (k.blk h.lb (by omega) (by omega)), there_blk h.box (k.blk h.lb (by omega) (by omega)), there_blk h.ans (k.blk h.la (by omega) (by omega)), h.kept.trans k, S, Nat.lt_of_lt_of_le h.la k.size, Nat.lt_of_lt_of_le h.lb k.size, h1, h2, h.ne, h3⟩
theorem MV.set {w W : World} {Q R A B n : Nat} {q q' : List Value} {s : Rst} (h : MV w Q R A B n q s W) (o : Nat) (vs : List Value) (hq : (W.setCells B o vs).rangeAt B 0 q') : MV w Q R A B n q' s (W.setCells B o vs) := by
 have h1 := h.na
 have h2 := h.nb
 have h3 := h.rq
 exact ⟨hq, World.there_setCells h.box _ _ _, World.there_setCells h.ans _ _ _, h.kept.newSets h2 _ _, h.rs.low (below_sets h2 vs o _ (Below.refl _ W)) h3.2, by rw [size_sets]; exact h.la, by rw [size_sets]; exact h.lb, h1, h2, h.ne, h3⟩
theorem MV.drew {w W : World} {Q R A B n : Nat} {q : List Value} {s : Rst} (h : MV w Q R A B n q s W) : MV w Q R A B n q s W.drew :=
 ⟨(World.rangeAt_drew _ _ _ _).2 h.row, h.box, h.ans, h.kept.below ((Below.refl _ _).drew), h.rs.below ((Below.refl _ _).drew), h.la, h.lb, h.na, h.nb, h.ne, h.rq⟩
theorem MV.part {w W : World} {Q R A B n : Nat} {q : List Value} {s : Rst} (h : MV w Q R A B n q s W) (o m : Nat) (hm : o + m ≤ n) : W.there B o m := there_part1 h.box hm
theorem Sl.At.put {α : Type} {E : El α} {W : World} {x : Sl α} {P : Nat → Prop} {B o : Nat} {vs : List Value} (h : x.At E W) (hb : x.Bk P) (hp : ∀ b, P b → b ≠ B) : x.At E (W.setCells B o vs) :=
 h.on (by rw [size_sets]; exact Nat.le_refl _) hb (fun b hP _ => blk_sets (hp b hP))
theorem HdsAt.put {W : World} {x : Sl Hd} {P : Nat → Prop} {B o : Nat} {vs : List Value} (h : HdsAt W x) (hb : x.Bk P) (hb2 : ∀ y ∈ x.xs, y.Bk P) (hp : ∀ b, P b → b ≠ B) : HdsAt (W.setCells B o vs) x :=
 ⟨Sl.At.put h.1 hb hp, fun y hy => (h.2 y hy).on (by rw [size_sets]; exact Nat.le_refl _) (hb2 y hy) (fun b hP _ => blk_sets (hp b hP))⟩
structure Cp where
 e : Int
 l : Int
 v : Int
 he : List Hp
def chS (s : Rst) : Cp × Rst :=
 (⟨(nuS 1048576 s).1, (nuS 64 (nuS 1048576 s).2).1, (nuS 1099511627776 (nuS 64 (nuS 1048576 s).2).2).1, (lsS 4 heS (nuS 1099511627776 (nuS 64 (nuS 1048576 s).2).2).2).1⟩, (lsS 4 heS (nuS 1099511627776 (nuS 64 (nuS 1048576 s).2).2).2).2)
theorem chS_len (s : Rst) : (chS s).2.1.length ≤ s.1.length := Nat.le_trans (lsS_len heS_len _ _) (Nat.le_trans (nuS_len _ _) (Nat.le_trans (nuS_len _ _) (nuS_len _ _)))
theorem zeroChE (w : World) : (zeroValue 46).run Tryz.prog w = .ok (.agg ([.int .i64 0, .int .i64 0, .int .i64 0, .slice none 0 0] : List Value).toArray) w := by kernel_rfl
theorem iszHds : (Tryz.prog.info? 44).map (·.size) = some 1 := by kernel_rfl
theorem ch_put {W : World} {B : Nat} {a b c d : Value} (h : W.rangeAt B 0 [a, b, c, d]) (x : Value) :
  (W.setCells B 0 [x]).rangeAt B 0 [x, b, c, d] ∧ (W.setCells B 1 [x]).rangeAt B 0 [a, x, c, d] ∧ (W.setCells B 2 [x]).rangeAt B 0 [a, b, x, d] ∧ (W.setCells B 3 [x]).rangeAt B 0 [a, b, c, x] :=
 ⟨range_set h 0 x, range_set h 1 x, range_set h 2 x, range_set h 3 x⟩
set_option maxRecDepth 100000 in
set_option maxHeartbeats 1000000 in
theorem rchangeS (Q R : Nat) (s : Rst) (w : World) (h : RS w Q R s) (hl : s.1.length ≤ 40000) : Calls Tryz.prog 110 #[.pointer (some ⟨Q, 0, none⟩)] w fun en w' => ∃ x : Sl Hd, en = .returned (.agg ([.int .i64 (chS s).1.e, .int .i64 (chS s).1.l, .int .i64 (chS s).1.v, x.val] : List Value).toArray) ∧ x.xs.map Hd.pure = (chS s).1.he ∧ HdsAt w' x ∧ x.Bk (fun b => w.heap.size ≤ b ∧ b < w'.heap.size) ∧ (∀ y ∈ x.xs, y.Bk (fun b => w.heap.size ≤ b ∧ b < w'.heap.size)) ∧ RS w' Q R (chS s).2 ∧ Kept w R Q w' := by
 obtain ⟨zc, hzl, hzr, hzc⟩ : ∃ z : List Value, z.length = 4 ∧ (∀ w : World, (zeroValue 46).run Tryz.prog w = .ok (.agg z.toArray) w) ∧ Hid (z = [.int .i64 0, .int .i64 0, .int .i64 0, .slice none 0 0]) := ⟨_, rfl, zeroChE, hide rfl⟩
 have hRw := h.st.1.1
 have hQw := h.mr.lt
 unfold chS
 have c1 := fun w0 h0 => numRS Q R 1048576 s w0 h0
 have l1 := nuS_len 1048576 s
 generalize nuS 1048576 s = p_ at c1 l1 ⊢
 obtain ⟨v1, s1⟩ := p_
 simp only at c1 l1 ⊢
 have c2 := fun w0 h0 => numRS Q R 64 s1 w0 h0
 have l2 := nuS_len 64 s1
 generalize nuS 64 s1 = p_ at c2 l2 ⊢
 obtain ⟨v2, s2⟩ := p_
 simp only at c2 l2 ⊢
 have c3 := fun w0 h0 => numRS Q R 1099511627776 s2 w0 h0
 have l3 := nuS_len 1099511627776 s2
 generalize nuS 1099511627776 s2 = p_ at c3 l3 ⊢
 obtain ⟨v3, s3⟩ := p_
 simp only at c3 l3 ⊢
 have c4 := fun w0 h0 => rlistH_any Q R s3 w0 h0 (by omega)
 generalize lsS 4 heS s3 = p_ at c4 ⊢
 obtain ⟨ls, s4⟩ := p_
 simp only at c4 ⊢
 obtain ⟨hB1, hr1, hs1⟩ := boxed_new w zc 46
 have ht1 := there_newN w zc.toArray 46 (n := 4) (by simp [hzl])
 go_enter Tryz.func110, Tryz.ntmps110
 go_upto_region 0 with fail
 try simp only [Act.put]
 refine pl_begin ?_
 refine pl_run (d := some 2) (v := .pointer (some ⟨w.heap.size, 0, none⟩)) (w' := w.alloc (.cells zc.toArray 46)) (by rfl) (ex_alloc rfl (hzr _)) rfl ?_
 simp only [nz]
 refine pl_nil ?_
 obtain ⟨W1, hW1⟩ : ∃ W, w.alloc (.cells zc.toArray 46) = W := ⟨_, rfl⟩
 rw [hW1] at hB1 hr1 hs1 ht1 ⊢
 clear hW1 hr1
 obtain ⟨hB2, hr2, hs2⟩ := boxed_new W1 zc 46
 have ht2 := there_newN W1 zc.toArray 46 (n := 4) (by simp [hzl])
 go_upto_region 1 with fail
 try simp only [Act.put]
 refine pl_begin ?_
 refine pl_run (d := some 3) (v := .pointer (some ⟨W1.heap.size, 0, none⟩)) (w' := W1.alloc (.cells zc.toArray 46)) (by rfl) (ex_alloc rfl (hzr _)) rfl ?_
 simp only [nz]
 refine pl_nil ?_
 obtain ⟨W2, hW2⟩ : ∃ W, W1.alloc (.cells zc.toArray 46) = W := ⟨_, rfl⟩
 rw [hW2] at hB2 hr2 hs2 ht2 ⊢
 clear hW2
 rw [hzc.out] at hr2
 have hBW := hB1.trans (hB2.mono hB1.size)
 have V0 : MV w Q R w.heap.size W1.heap.size 4 _ s W2 := ⟨hr2, ht2, there_belowN ht1 hB2 hs1, (Kept.refl w R Q).below hBW, h.below hBW, Nat.lt_of_lt_of_le hs1 hB2.size, hs2, Nat.le_refl _, hB1.size, by omega, hRw, hQw⟩
 clear hr2 ht2 ht1 hzr hzc hzl hB1 hB2 hBW hs2 h
 go_upto_region 2 with fail
 have V8 := V0.drew
 refine hs_begin (S := (fun W' => W'.cell? ⟨Q, 0, none⟩ = some (.pointer (some ⟨R, 0, none⟩)))) 21 rfl (by kernel_rfl) ?_
 obtain ⟨w8, hw8⟩ : ∃ W, W2.drew = W := ⟨_, rfl⟩
 rw [hw8] at V8 ⊢
 clear hw8 V0
 have hS : (fun W' => W'.cell? ⟨Q, 0, none⟩ = some (.pointer (some ⟨R, 0, none⟩))) w8 := V8.rs.mr.c0
 refine hs_t 0 4 (?_) rfl (by kernel_rfl) (by kernel_rfl) (by kernel_rfl) (by rfl) ?_ hS rfl ?_
 rotate_left
 ·intro w' hw
  go_simp
  try with_reducible rfl
 simp only [nz]
 refine hs_t 1 5 (?_) rfl (by kernel_rfl) (by kernel_rfl) (by kernel_rfl) (by rfl) ?_ hS rfl ?_
 rotate_left
 ·intro w' hw
  go_simp
  try with_reducible rfl
 simp only [nz]
 refine hs_t 2 6 (?_) rfl (by kernel_rfl) (by kernel_rfl) (by kernel_rfl) (by rfl) ?_ hS rfl ?_
 rotate_left
 ·intro w' hw
  go_simp
  try with_reducible rfl
 simp only [nz]
 refine hs_t 3 7 (.pointer (some ⟨R, 0, none⟩)) rfl (by kernel_rfl) (by kernel_rfl) (by kernel_rfl) (by rfl) (fun w' hw => pl_one rfl rfl hw Tryz.underlying98 rfl) hS rfl ?_
 simp only [nz]
 refine hs_t 5 9 (?_) rfl (by kernel_rfl) (by kernel_rfl) (by kernel_rfl) (by rfl) ?_ hS rfl ?_
 rotate_left
 ·intro w' hw
  go_simp
  try with_reducible rfl
 simp only [nz]
 refine hs_t 6 10 (?_) rfl (by kernel_rfl) (by kernel_rfl) (by kernel_rfl) (by rfl) ?_ hS rfl ?_
 rotate_left
 ·intro w' hw
  go_simp
  try with_reducible rfl
 simp only [nz]
 refine hs_t 7 11 (?_) rfl (by kernel_rfl) (by kernel_rfl) (by kernel_rfl) (by rfl) ?_ hS rfl ?_
 rotate_left
 ·intro w' hw
  go_simp
  try with_reducible rfl
 simp only [nz]
 refine hs_t 8 12 (.pointer (some ⟨R, 0, none⟩)) rfl (by kernel_rfl) (by kernel_rfl) (by kernel_rfl) (by rfl) (fun w' hw => pl_one rfl rfl hw Tryz.underlying98 rfl) hS rfl ?_
 simp only [nz]
 refine hs_t 10 14 (?_) rfl (by kernel_rfl) (by kernel_rfl) (by kernel_rfl) (by rfl) ?_ hS rfl ?_
 rotate_left
 ·intro w' hw
  go_simp
  try with_reducible rfl
 simp only [nz]
 refine hs_t 11 15 (?_) rfl (by kernel_rfl) (by kernel_rfl) (by kernel_rfl) (by rfl) ?_ hS rfl ?_
 rotate_left
 ·intro w' hw
  go_simp
  try with_reducible rfl
 simp only [nz]
 refine hs_t 12 16 (?_) rfl (by kernel_rfl) (by kernel_rfl) (by kernel_rfl) (by rfl) ?_ hS rfl ?_
 rotate_left
 ·intro w' hw
  go_simp
  try with_reducible rfl
 simp only [nz]
 refine hs_t 13 17 (.pointer (some ⟨R, 0, none⟩)) rfl (by kernel_rfl) (by kernel_rfl) (by kernel_rfl) (by rfl) (fun w' hw => pl_one rfl rfl hw Tryz.underlying98 rfl) hS rfl ?_
 simp only [nz]
 refine hs_call (i := 4) (d := some 8) rfl (by kernel_rfl) (by rfl) (by go_simp; first | done | exact ⟨rfl, rfl⟩ | with_reducible rfl) rfl ?_
 refine (c1 w8 V8.rs).mono ?_
 rintro _ w5 ⟨rfl, S5, k5⟩
 have hS : (fun W' => W'.cell? ⟨Q, 0, none⟩ = some (.pointer (some ⟨R, 0, none⟩))) w5 := S5.mr.c0
 refine ⟨_, rfl, hS, ?_⟩
 simp only [nz]
 refine hs_t 15 19 (?_) rfl (by kernel_rfl) (by kernel_rfl) (by kernel_rfl) (by rfl) ?_ hS rfl ?_
 rotate_left
 ·intro w' hw
  go_simp
  try with_reducible rfl
 simp only [nz]
 refine hs_call (i := 9) (d := some 13) rfl (by kernel_rfl) (by rfl) (by go_simp; first | done | exact ⟨rfl, rfl⟩ | with_reducible rfl) rfl ?_
 refine (c2 w5 S5).mono ?_
 rintro _ w6 ⟨rfl, S6, k6⟩
 have hS : (fun W' => W'.cell? ⟨Q, 0, none⟩ = some (.pointer (some ⟨R, 0, none⟩))) w6 := S6.mr.c0
 refine ⟨_, rfl, hS, ?_⟩
 simp only [nz]
 refine hs_call (i := 14) (d := some 18) rfl (by kernel_rfl) (by rfl) (by go_simp; first | done | exact ⟨rfl, rfl⟩ | with_reducible rfl) rfl ?_
 refine (c3 w6 S6).mono ?_
 rintro _ w7 ⟨rfl, S7, k7⟩
 have hS : (fun W' => W'.cell? ⟨Q, 0, none⟩ = some (.pointer (some ⟨R, 0, none⟩))) w7 := S7.mr.c0
 refine ⟨_, rfl, hS, ?_⟩
 simp only [nz]
 have V7 := ((V8.on k5 S5).on k6 S6).on k7 S7
 have Va := V7.set 0 [.int .i64 v1] ((ch_put V7.row _).1)
 refine hs_store (i := 16) (w' := w7.setCells W1.heap.size 0 [.int .i64 v1]) rfl (by kernel_rfl) (by rfl) (ex_put1 (n := 4) rfl rfl rfl V7.box (by decide) iszI rfl rfl) rfl Va.rs.mr.c0 ?_
 obtain ⟨w_16, hw_16⟩ : ∃ W, w7.setCells W1.heap.size 0 [.int .i64 v1] = W := ⟨_, rfl⟩
 rw [hw_16] at Va ⊢
 clear hw_16
 have hS : (fun W' => W'.cell? ⟨Q, 0, none⟩ = some (.pointer (some ⟨R, 0, none⟩))) w_16 := Va.rs.mr.c0
 refine hs_t 17 20 (?_) rfl (by kernel_rfl) (by kernel_rfl) (by kernel_rfl) (by rfl) ?_ hS rfl ?_
 rotate_left
 ·intro w' hw
  go_simp
  try with_reducible rfl
 simp only [nz]
 have Vb := Va.set 1 [.int .i64 v2] ((ch_put Va.row _).2.1)
 refine hs_store (i := 18) (w' := w_16.setCells W1.heap.size 1 [.int .i64 v2]) rfl (by kernel_rfl) (by rfl) (ex_put1 (n := 4) rfl rfl rfl Va.box (by decide) iszI rfl rfl) rfl Vb.rs.mr.c0 ?_
 obtain ⟨w_18, hw_18⟩ : ∃ W, w_16.setCells W1.heap.size 1 [.int .i64 v2] = W := ⟨_, rfl⟩
 rw [hw_18] at Vb ⊢
 clear hw_18
 have hS : (fun W' => W'.cell? ⟨Q, 0, none⟩ = some (.pointer (some ⟨R, 0, none⟩))) w_18 := Vb.rs.mr.c0
 refine hs_t 19 21 (?_) rfl (by kernel_rfl) (by kernel_rfl) (by kernel_rfl) (by rfl) ?_ hS rfl ?_
 rotate_left
 ·intro w' hw
  go_simp
  try with_reducible rfl
 simp only [nz]
 have Vc := Vb.set 2 [.int .i64 v3] ((ch_put Vb.row _).2.2.1)
 refine hs_store (i := 20) (w' := w_18.setCells W1.heap.size 2 [.int .i64 v3]) rfl (by kernel_rfl) (by rfl) (ex_put1 (n := 4) rfl rfl rfl Vb.box (by decide) iszI rfl rfl) rfl Vc.rs.mr.c0 ?_
 obtain ⟨w_20, hw_20⟩ : ∃ W, w_18.setCells W1.heap.size 2 [.int .i64 v3] = W := ⟨_, rfl⟩
 rw [hw_20] at Vc ⊢
 clear hw_20
 have hS : (fun W' => W'.cell? ⟨Q, 0, none⟩ = some (.pointer (some ⟨R, 0, none⟩))) w_20 := Vc.rs.mr.c0
 refine hs_done (by kernel_rfl) ?_
 clear V7 Va Vb S5 S6 S7 k5 k6 k7 V8 hS c1 c2 c3
 go_upto_region 3 with fail
 try simp only [Act.put]
 refine pl_begin ?_
 refine pl_t 22 (?_) (by rfl) ?_ rfl ?_
 rotate_left
 ·go_simp
  try with_reducible rfl
 simp only [nz]
 refine pl_t 23 (?_) (by rfl) ?_ rfl ?_
 rotate_left
 ·go_simp
  try with_reducible rfl
 simp only [nz]
 refine pl_t 24 (?_) (by rfl) ?_ rfl ?_
 rotate_left
 ·go_simp
  try with_reducible rfl
 simp only [nz]
 refine pl_t 25 (.pointer (some ⟨R, 0, none⟩)) (by rfl) (pl_one rfl rfl Vc.rs.mr.c0 Tryz.underlying98 rfl) rfl ?_
 simp only [nz]
 refine pl_t 26 (?_) (by rfl) ?_ rfl ?_
 rotate_left
 ·go_simp
  try with_reducible rfl
 simp only [nz]
 refine pl_t 27 (?_) (by rfl) ?_ rfl ?_
 rotate_left
 ·go_simp
  try with_reducible rfl
 simp only [nz]
 refine pl_t 28 (?_) (by rfl) ?_ rfl ?_
 rotate_left
 ·go_simp
  try with_reducible rfl
 simp only [nz]
 refine pl_call (d := some 29) (by rfl) (by go_simp; first | done | exact ⟨rfl, rfl⟩ | with_reducible rfl) rfl ?_
 refine (c4 w_20 Vc.rs).mono ?_
 rintro _ wd ⟨x, rfl, hx, hA, hB, hB2, Sd, kd⟩
 refine ⟨_, rfl, ?_⟩
 simp only [nz]
 refine pl_t 30 (?_) (by rfl) ?_ rfl ?_
 rotate_left
 ·go_simp
  try with_reducible rfl
 simp only [nz]
 have Vd := Vc.on kd Sd
 have Ve := Vd.set 3 [x.val] (ch_put Vd.row _).2.2.2
 refine pl_store (w' := wd.setCells W1.heap.size 3 [x.val]) (by rfl) (ex_put1 (n := 4) rfl rfl rfl Vd.box (by decide) iszHds rfl rfl) rfl ?_
 refine pl_nil ?_
 have hne : ∀ b, w_20.heap.size ≤ b ∧ b < wd.heap.size → b ≠ W1.heap.size := fun b hb => by have := Vc.lb; omega
 have hA1 : HdsAt (wd.setCells W1.heap.size 3 [x.val]) x := hA.put hB hB2 hne
 have kz := Vc.kept.size
 obtain ⟨we, hwe⟩ : ∃ W, wd.setCells W1.heap.size 3 [x.val] = W := ⟨_, rfl⟩
 have hse : we.heap.size = wd.heap.size := by rw [← hwe, size_sets]
 rw [hwe] at Ve hA1 ⊢
 clear hwe hA
 have rpc := Ve.row
 have hpl : ([.int .i64 v1, .int .i64 v2, .int .i64 v3, x.val] : List Value).length = 4 := rfl
 have hip : (Tryz.prog.info? 46).map (·.size) = some ([.int .i64 v1, .int .i64 v2, .int .i64 v3, x.val] : List Value).length := iszCh
 have hp1 : ∀ v ∈ ([.int .i64 v1, .int .i64 v2, .int .i64 v3, x.val] : List Value), v.oneCell' = true := by
  intro v hv
  simp only [List.mem_cons, List.not_mem_nil, or_false] at hv
  rcases hv with rfl | rfl | rfl | rfl <;> rfl
 obtain ⟨pc, hpc⟩ : ∃ p, Hid (([.int .i64 v1, .int .i64 v2, .int .i64 v3, x.val] : List Value) = p) := ⟨_, hide rfl⟩
 rw [hpc.out] at hpl hip hp1 rpc
 go_upto_region 4 with fail
 try simp only [Act.put]
 refine pl_begin ?_
 refine pl_t 31 (.agg pc.toArray) (by rfl) (ex_mid rfl rfl rpc Tryz.underlying46 rfl hip) rfl ?_
 simp only [nz]
 refine pl_store (w' := we.setCells w.heap.size 0 pc) (by rfl) (ex_put (cs := pc.toArray) rfl rfl rfl (by simpa [hpl] using Ve.ans) (by simpa using hip) (all_one hp1)) rfl ?_
 refine pl_nil ?_
 have hlow : Below w.heap.size we (we.setCells w.heap.size 0 pc) := below_sets (Nat.le_refl _) pc 0 _ (Below.refl _ we)
 have hrs := run_loadVar_mid (P := Tryz.prog) (we.setCells w.heap.size 0 pc) w.heap.size 0 46 pc _ (World.rangeAt_setCells_same we w.heap.size 0 pc (by rw [hpl]; exact Ve.ans)) Tryz.underlying46 rfl hip
 have HF : Hid (∃ g : Sl Hd, Ending.returned (.agg pc.toArray) = .returned (.agg ([.int .i64 v1, .int .i64 v2, .int .i64 v3, g.val] : List Value).toArray) ∧ g.xs.map Hd.pure = ls ∧ HdsAt (we.setCells w.heap.size 0 pc) g ∧ g.Bk (fun b => w.heap.size ≤ b ∧ b < (we.setCells w.heap.size 0 pc).heap.size) ∧ (∀ y ∈ g.xs, y.Bk (fun b => w.heap.size ≤ b ∧ b < (we.setCells w.heap.size 0 pc).heap.size)) ∧ RS (we.setCells w.heap.size 0 pc) Q R s4 ∧ Kept w R Q (we.setCells w.heap.size 0 pc)) := by
  have la := Vc.la
  refine hide ⟨x, by rw [hpc.out], hx, hA1.put hB hB2 (fun b hb => by omega), hB.mono (fun b hb => ⟨by omega, by rw [size_sets]; omega⟩), fun y hy => (hB2 y hy).mono (fun b hb => ⟨by omega, by rw [size_sets]; omega⟩), Ve.rs.low hlow hQw, Ve.kept.low hlow (Nat.le_refl _)⟩
 clear Ve hlow rpc hA1 hB hB2 Vd Vc Sd kd
 go_wp2_with fail
 refine bodyPost_ret (v := .agg pc.toArray) ?_ rfl ?_
 ·simp [results, Tryz.results110, Act.put, asAddr, hrs]
 ·exact HF.out
structure Mp where
 k : Int
 e : Int
 l : Int
 v : Int
 s : Int
 q : Bool
 rs : List Rq
 vt : Vt
 ce : Int
 cl : Int
 cv : Int
 he : List Hp
 ne : List Ev
 d : List Int
 ct : Vt
 cs : List Sg
 st : ByteArray
 sg : List Sg
def Mg.pure (m : Mg) : Mp := ⟨m.k, m.e, m.l, m.v, m.s, m.q, m.rs.xs, m.vt, m.ce, m.cl, m.cv, m.he.xs.map Hd.pure, m.ne.xs, m.d, m.ct, m.cs.xs, m.st, m.sg.xs⟩
def mg1 (s : Rst) : Mp × Rst := (⟨1, (nuS 1048576 s).1, 0, 0, (nuS 1099511627776 (nuS 1048576 s).2).1, (baS (nuS 1099511627776 (nuS 1048576 s).2).2).1.1, (baS (nuS 1099511627776 (nuS 1048576 s).2).2).1.2, Vt.zero, 0, 0, 0, [], [], zeros32, Vt.zero, [], ⟨#[]⟩, []⟩, (baS (nuS 1099511627776 (nuS 1048576 s).2).2).2)
def mg2 (s : Rst) : Mp × Rst := (⟨2, 0, 0, 0, 0, false, [], (voS s).1, 0, 0, 0, [], [], zeros32, Vt.zero, [], ⟨#[]⟩, []⟩, (voS s).2)
def mg3 (s : Rst) : Mp × Rst := (⟨3, 0, 0, 0, 0, false, [], Vt.zero, (chS s).1.e, (chS s).1.l, (chS s).1.v, (chS s).1.he, [], zeros32, Vt.zero, [], ⟨#[]⟩, []⟩, (chS s).2)
def mg4 (s : Rst) : Mp × Rst := (⟨4, (nuS 1048576 s).1, (nuS 64 (nuS 1048576 s).2).1, (nuS 1099511627776 (nuS 64 (nuS 1048576 s).2).2).1, 0, false, [], Vt.zero, 0, 0, 0, [], (lsS 64 enS (nuS 1099511627776 (nuS 64 (nuS 1048576 s).2).2).2).1, zeros32, Vt.zero, [], ⟨#[]⟩, []⟩, (lsS 64 enS (nuS 1099511627776 (nuS 64 (nuS 1048576 s).2).2).2).2)
def mg5 (s : Rst) : Mp × Rst := (⟨5, (nuS 1048576 s).1, 0, 0, 0, false, [], Vt.zero, 0, 0, 0, [], [], (dgS (nuS 1048576 s).2).1, Vt.zero, [], ⟨#[]⟩, []⟩, (dgS (nuS 1048576 s).2).2)
def mg6 (s : Rst) : Mp × Rst := (⟨6, (nuS 1048576 s).1, 0, 0, (nuS 1099511627776 (nuS 1048576 s).2).1, false, [], Vt.zero, 0, 0, 0, [], [], zeros32, Vt.zero, [], ⟨#[]⟩, []⟩, (nuS 1099511627776 (nuS 1048576 s).2).2)
def mg7 (s : Rst) : Mp × Rst := (⟨7, 0, 0, 0, 0, (baS s).1.1, (baS s).1.2, Vt.zero, 0, 0, 0, [], [], zeros32, (ceS (baS s).2).1.1, (ceS (baS s).2).1.2, ⟨#[]⟩, []⟩, (ceS (baS s).2).2)
def mg8 (s : Rst) : Mp × Rst := (⟨8, 0, 0, 0, 0, false, [], Vt.zero, 0, 0, 0, [], [], zeros32, Vt.zero, [], (txS 4194304 s).1, (lsS 64 siS (txS 4194304 s).2).1⟩, (lsS 64 siS (txS 4194304 s).2).2)
def mgF (k : Int) (s : Rst) : Mp × Rst := if k = 1 then mg1 s else if k = 2 then mg2 s else if k = 3 then mg3 s else if k = 4 then mg4 s else if k = 5 then mg5 s else if k = 6 then mg6 s else if k = 7 then mg7 s else if k = 8 then mg8 s else (⟨k, 0, 0, 0, 0, false, [], Vt.zero, 0, 0, 0, [], [], zeros32, Vt.zero, [], ⟨#[]⟩, []⟩, s)
def mgS (s : Rst) : Mp × Rst := mgF (kiS 8 s).1 (kiS 8 s).2
theorem iszEvs : (Tryz.prog.info? 47).map (·.size) = some 1 := by kernel_rfl
theorem iszSgs : (Tryz.prog.info? 48).map (·.size) = some 1 := by kernel_rfl
theorem iszStr : (Tryz.prog.info? 9).map (·.size) = some 1 := by kernel_rfl
theorem ms0_ok (k : Int) : (Ms.plain k 0 0 Vt.zero zeros32).ok := Ms.plain_ok k 0 0 Vt.zero_ok zeros32_len zeros32_byte
def Mg.Bk (m : Mg) (P : Nat → Prop) : Prop := m.rs.Bk P ∧ m.he.Bk P ∧ (∀ y ∈ m.he.xs, y.Bk P) ∧ m.ne.Bk P ∧ m.cs.Bk P ∧ m.sg.Bk P
theorem no_bk {α : Type} {P : Nat → Prop} : (⟨none, 0, []⟩ : Sl α).Bk P := fun b h => absurd rfl h
theorem no_bk2 {P : Nat → Prop} : ∀ y ∈ (⟨none, 0, []⟩ : Sl Hd).xs, y.Bk P := fun y h => by cases h
theorem mg0_at {W : World} {m : Mg} (h1 : m.rs.At RqE W) (h2 : HdsAt W m.he) (h3 : m.ne.At EvE W) (h4 : m.cs.At SgE W) (h5 : m.sg.At SgE W) : m.At W := ⟨h1, h2, h3, h4, h5⟩
set_option maxRecDepth 100000 in
set_option maxHeartbeats 1000000 in
theorem rmsgK0 (Q R : Nat) (s : Rst) (w : World) (h : RS w Q R s) (hl : s.1.length ≤ 40000) (n1 : (kiS 8 s).1 ≠ 1) (n2 : (kiS 8 s).1 ≠ 2) (n3 : (kiS 8 s).1 ≠ 3) (n4 : (kiS 8 s).1 ≠ 4) (n5 : (kiS 8 s).1 ≠ 5) (n6 : (kiS 8 s).1 ≠ 6) (n7 : (kiS 8 s).1 ≠ 7) (n8 : (kiS 8 s).1 ≠ 8) : Calls Tryz.prog 66 #[.pointer (some ⟨Q, 0, none⟩)] w fun en w' => ∃ m : Mg, en = .returned (.agg m.ms.cells.toArray) ∧ m.pure = ((⟨(kiS 8 s).1, 0, 0, 0, 0, false, [], Vt.zero, 0, 0, 0, [], [], zeros32, Vt.zero, [], ⟨#[]⟩, []⟩, (kiS 8 s).2) : Mp × Rst).1 ∧ m.ok ∧ m.At w' ∧ m.Bk (fun b => w.heap.size ≤ b) ∧ RS w' Q R ((⟨(kiS 8 s).1, 0, 0, 0, 0, false, [], Vt.zero, 0, 0, 0, [], [], zeros32, Vt.zero, [], ⟨#[]⟩, []⟩, (kiS 8 s).2) : Mp × Rst).2 ∧ Kept w R Q w' := by
 have hRw := h.st.1.1
 have hQw := h.mr.lt
 have ck := fun w0 h0 => kindRS Q R 8 s w0 h0
 have l0 := kiS_len 8 s
 generalize kiS 8 s = p_ at ck l0 n1 n2 n3 n4 n5 n6 n7 n8 ⊢
 obtain ⟨k, s0⟩ := p_
 simp only at ck l0 n1 n2 n3 n4 n5 n6 n7 n8 ⊢
 have b1 : (k == 1) = false := by simpa using n1
 have b2 : (k == 2) = false := by simpa using n2
 have b3 : (k == 3) = false := by simpa using n3
 have b4 : (k == 4) = false := by simpa using n4
 have b5 : (k == 5) = false := by simpa using n5
 have b6 : (k == 6) = false := by simpa using n6
 have b7 : (k == 7) = false := by simpa using n7
 have b8 : (k == 8) = false := by simpa using n8
 clear n1 n2 n3 n4 n5 n6 n7 n8
 obtain ⟨zc, hzl, hzr⟩ : ∃ z : List Value, z.length = 119 ∧ ∀ w : World, (zeroValue 52).run Tryz.prog w = .ok (.agg z.toArray) w := ⟨_, (Ms.plain_ok 0 0 0 Vt.zero_ok zeros32_len zeros32_byte).len, zeroM⟩
 have hbk := build_kind k
 have hql := (ms0_ok k).len
 have hq1 := (ms0_ok k).one
 have hiq : (Tryz.prog.info? 52).map (·.size) = some (Ms.plain k 0 0 Vt.zero zeros32).cells.length := by rw [hql]; exact iszM
 have hk0 : ∀ (w' : World) b, w'.rangeAt b 0 (Ms.plain k 0 0 Vt.zero zeros32).cells → w'.cell? ⟨b, 0, none⟩ = some (.int .i64 k) := fun w' b h => ((ms0_ok k).at h).k
 obtain ⟨qk, hqk⟩ : ∃ q, Hid ((Ms.plain k 0 0 Vt.zero zeros32).cells = q) := ⟨_, hide rfl⟩
 simp only [hqk.out] at hbk hql hq1 hiq hk0
 obtain ⟨hB1, hr1, hs1⟩ := boxed_new w zc 52
 have ht1 := there_newN w zc.toArray 52 (n := 119) (by simp [hzl])
 go_enter Tryz.func66, Tryz.ntmps66
 go_upto_region 0 with fail
 try simp only [Act.put]
 refine pl_begin ?_
 refine pl_run (d := some 2) (v := .pointer (some ⟨w.heap.size, 0, none⟩)) (w' := w.alloc (.cells zc.toArray 52)) (by rfl) (ex_alloc rfl (hzr _)) rfl ?_
 simp only [nz]
 refine pl_nil ?_
 obtain ⟨W1, hW1⟩ : ∃ W, w.alloc (.cells zc.toArray 52) = W := ⟨_, rfl⟩
 rw [hW1] at hB1 hr1 hs1 ht1 ⊢
 clear hW1 hr1
 have S1 := h.below hB1
 go_upto_region 1 with fail
 try simp only [Act.put]
 refine pl_begin ?_
 refine pl_t 4 (?_) (by rfl) ?_ rfl ?_
 rotate_left
 ·go_simp
  try with_reducible rfl
 simp only [nz]
 refine pl_call (d := some 5) (by rfl) (by go_simp; first | done | exact ⟨rfl, rfl⟩ | with_reducible rfl) rfl ?_
 refine (ck W1 S1).mono ?_
 rintro _ w2 ⟨rfl, S2, k2⟩
 refine ⟨_, rfl, ?_⟩
 simp only [nz]
 refine pl_t 6 (.agg qk.toArray) (by rfl) (ex_build (parts := [(0, .tmp 5)]) rfl rfl (hbk _)) rfl ?_
 simp only [nz]
 refine pl_run (d := some 3) (v := .pointer (some ⟨w2.heap.size, 0, none⟩)) (w' := w2.alloc (.cells zc.toArray 52)) (by rfl) (ex_alloc rfl (hzr _)) rfl ?_
 simp only [nz]
 refine pl_store (w' := (w2.alloc (.cells zc.toArray 52)).setCells w2.heap.size 0 qk) (by rfl) (ex_put (cs := qk.toArray) rfl rfl rfl (there_newN _ _ _ (by simp [hzl, hql])) (by simpa using hiq) (all_one hq1)) rfl ?_
 refine pl_nil ?_
 obtain ⟨hF1, hF2, hF3, -⟩ := fresh_store w2 zc.toArray 52 qk (by simp [hzl, hql])
 have hF4 := World.there_setCells (there_newN w2 zc.toArray 52 (n := 119) (by simp [hzl])) w2.heap.size 0 qk
 obtain ⟨w3, hw3⟩ : ∃ W, (w2.alloc (.cells zc.toArray 52)).setCells w2.heap.size 0 qk = W := ⟨_, rfl⟩
 rw [hw3] at hF1 hF2 hF3 hF4 ⊢
 clear hw3
 have hc0 := hk0 _ _ hF1
 have k3 : Kept w R Q w3 := (((Kept.refl w R Q).below hB1).trans k2).below hF2
 have z2 := k2.size
 rw [← hqk.out] at hF1
 have V3 : MV w Q R w.heap.size w2.heap.size 119 (Ms.plain k 0 0 Vt.zero zeros32).cells s0 w3 := ⟨hF1, hF4, there_below (there_blk ht1 (k2.block _ hs1 (by omega) (by omega))) hF2 (by omega), k3, S2.below hF2, by have := hF2.size; omega, by omega, Nat.le_refl _, by have := hB1.size; omega, by omega, hRw, hQw⟩
 have hww : w.heap.size < w2.heap.size := by omega
 clear hF1 hF2 hF4 ht1 hB1 S1 S2 k2 k3 hk0 hbk hql hq1 hiq hqk h ck hzr hzl
 go_upto_region 2 with fail
 try simp only [Act.put]
 refine pl_begin ?_
 refine pl_t 7 (?_) (by rfl) ?_ rfl ?_
 rotate_left
 ·go_simp
  try with_reducible rfl
 simp only [nz]
 refine pl_t 8 (.int .i64 k) (by rfl) (pl_one rfl rfl hc0 Tryz.underlying3 rfl) rfl ?_
 simp only [nz]
 refine pl_nil ?_
 clear hc0
 have Ve := V3
 have rpc := Ve.row
 have hmo : Mg.ok ⟨k, 0, 0, 0, 0, false, ⟨none, 0, []⟩, Vt.zero, 0, 0, 0, ⟨none, 0, []⟩, ⟨none, 0, []⟩, zeros32, Vt.zero, ⟨none, 0, []⟩, ⟨#[]⟩, ⟨none, 0, []⟩⟩ := ⟨Vt.zero_ok, Vt.zero_ok, zeros32_len, zeros32_byte⟩
 have hpl : (Mg.ms ⟨k, 0, 0, 0, 0, false, ⟨none, 0, []⟩, Vt.zero, 0, 0, 0, ⟨none, 0, []⟩, ⟨none, 0, []⟩, zeros32, Vt.zero, ⟨none, 0, []⟩, ⟨#[]⟩, ⟨none, 0, []⟩⟩).cells.length = 119 := hmo.ms.len
 have hp1 := hmo.ms.one
 have hip : (Tryz.prog.info? 52).map (·.size) = some (Mg.ms ⟨k, 0, 0, 0, 0, false, ⟨none, 0, []⟩, Vt.zero, 0, 0, 0, ⟨none, 0, []⟩, ⟨none, 0, []⟩, zeros32, Vt.zero, ⟨none, 0, []⟩, ⟨#[]⟩, ⟨none, 0, []⟩⟩).cells.length := by rw [hpl]; exact iszM
 have rpc : w3.rangeAt w2.heap.size 0 (Mg.ms ⟨k, 0, 0, 0, 0, false, ⟨none, 0, []⟩, Vt.zero, 0, 0, 0, ⟨none, 0, []⟩, ⟨none, 0, []⟩, zeros32, Vt.zero, ⟨none, 0, []⟩, ⟨#[]⟩, ⟨none, 0, []⟩⟩).cells := rpc
 obtain ⟨pc, hpc⟩ : ∃ p, Hid ((Mg.ms ⟨k, 0, 0, 0, 0, false, ⟨none, 0, []⟩, Vt.zero, 0, 0, 0, ⟨none, 0, []⟩, ⟨none, 0, []⟩, zeros32, Vt.zero, ⟨none, 0, []⟩, ⟨#[]⟩, ⟨none, 0, []⟩⟩).cells = p) := ⟨_, hide rfl⟩
 simp only [hpc.out] at hpl hip hp1 rpc
 go_upto_region 22 with fail
 try simp only [Act.put]
 refine pl_begin ?_
 refine pl_t 121 (.agg pc.toArray) (by rfl) (ex_mid rfl rfl rpc Tryz.underlying52 rfl hip) rfl ?_
 simp only [nz]
 refine pl_store (w' := w3.setCells w.heap.size 0 pc) (by rfl) (ex_put (cs := pc.toArray) rfl rfl rfl (by simpa [hpl] using Ve.ans) (by simpa using hip) (all_one hp1)) rfl ?_
 refine pl_nil ?_
 have hlow : Below w.heap.size w3 (w3.setCells w.heap.size 0 pc) := below_sets (Nat.le_refl _) pc 0 _ (Below.refl _ w3)
 have hrs := run_loadVar_mid (P := Tryz.prog) (w3.setCells w.heap.size 0 pc) w.heap.size 0 52 pc _ (World.rangeAt_setCells_same w3 w.heap.size 0 pc (by rw [hpl]; exact Ve.ans)) Tryz.underlying52 rfl hip
 have HF : Hid (∃ m : Mg, Ending.returned (.agg pc.toArray) = .returned (.agg m.ms.cells.toArray) ∧ m.pure = (⟨k, 0, 0, 0, 0, false, [], Vt.zero, 0, 0, 0, [], [], zeros32, Vt.zero, [], ⟨#[]⟩, []⟩ : Mp) ∧ m.ok ∧ m.At (w3.setCells w.heap.size 0 pc) ∧ m.Bk (fun b => w.heap.size ≤ b) ∧ RS (w3.setCells w.heap.size 0 pc) Q R s0 ∧ Kept w R Q (w3.setCells w.heap.size 0 pc)) := hide ⟨⟨k, 0, 0, 0, 0, false, ⟨none, 0, []⟩, Vt.zero, 0, 0, 0, ⟨none, 0, []⟩, ⟨none, 0, []⟩, zeros32, Vt.zero, ⟨none, 0, []⟩, ⟨#[]⟩, ⟨none, 0, []⟩⟩, by rw [hpc.out], rfl, hmo, mg0_at RowsAt.none hds_none RowsAt.none RowsAt.none RowsAt.none, ⟨no_bk, no_bk, no_bk2, no_bk, no_bk, no_bk⟩, Ve.rs.low hlow hQw, Ve.kept.low hlow (Nat.le_refl _)⟩
 clear Ve hlow rpc hpc hmo V3
 go_wp2_with fail
 refine bodyPost_ret (v := .agg pc.toArray) ?_ rfl ?_
 ·simp [results, Tryz.results66, Act.put, asAddr, hrs]
 ·exact HF.out
set_option maxRecDepth 100000 in
set_option maxHeartbeats 1000000 in
theorem rmsgK1 (Q R : Nat) (s : Rst) (w : World) (h : RS w Q R s) (hl : s.1.length ≤ 40000) (hk : (kiS 8 s).1 = 1) : Calls Tryz.prog 66 #[.pointer (some ⟨Q, 0, none⟩)] w fun en w' => ∃ m : Mg, en = .returned (.agg m.ms.cells.toArray) ∧ m.pure = (mg1 (kiS 8 s).2).1 ∧ m.ok ∧ m.At w' ∧ m.Bk (fun b => w.heap.size ≤ b) ∧ RS w' Q R (mg1 (kiS 8 s).2).2 ∧ Kept w R Q w' := by
 have hRw := h.st.1.1
 have hQw := h.mr.lt
 have ck := fun w0 h0 => kindRS Q R 8 s w0 h0
 have l0 := kiS_len 8 s
 unfold mg1
 generalize kiS 8 s = p_ at ck l0 hk ⊢
 obtain ⟨k, s0⟩ := p_
 simp only at ck l0 hk ⊢
 subst hk
 have c_a := fun w0 h0 => numRS Q R 1048576 s0 w0 h0
 have l_a : (nuS 1048576 s0).2.1.length ≤ s0.1.length := nuS_len _ _
 generalize nuS 1048576 s0 = p_ at c_a l_a ⊢
 obtain ⟨v_a, s_a⟩ := p_
 simp only at c_a l_a ⊢
 have c_b := fun w0 h0 => numRS Q R 1099511627776 s_a w0 h0
 have l_b : (nuS 1099511627776 s_a).2.1.length ≤ s_a.1.length := nuS_len _ _
 generalize nuS 1099511627776 s_a = p_ at c_b l_b ⊢
 obtain ⟨v_b, s_b⟩ := p_
 simp only at c_b l_b ⊢
 have c_c := fun w0 h0 => bgetS Q R s_b w0 h0 (by omega)
 have l_c : (baS s_b).2.1.length ≤ s_b.1.length := baS_len _
 generalize baS s_b = p_ at c_c l_c ⊢
 obtain ⟨⟨q_c, rs_c⟩, s_c⟩ := p_
 simp only at c_c l_c ⊢
 obtain ⟨zc, hzl, hzr⟩ : ∃ z : List Value, z.length = 119 ∧ ∀ w : World, (zeroValue 52).run Tryz.prog w = .ok (.agg z.toArray) w := ⟨_, (Ms.plain_ok 0 0 0 Vt.zero_ok zeros32_len zeros32_byte).len, zeroM⟩
 have hbk := build_kind 1
 have hql := (ms0_ok 1).len
 have hq1 := (ms0_ok 1).one
 have hiq : (Tryz.prog.info? 52).map (·.size) = some (Ms.plain 1 0 0 Vt.zero zeros32).cells.length := by rw [hql]; exact iszM
 have hk0 : ∀ (w' : World) b, w'.rangeAt b 0 (Ms.plain 1 0 0 Vt.zero zeros32).cells → w'.cell? ⟨b, 0, none⟩ = some (.int .i64 1) := fun w' b h => ((ms0_ok 1).at h).k
 obtain ⟨qk, hqk⟩ : ∃ q, Hid ((Ms.plain 1 0 0 Vt.zero zeros32).cells = q) := ⟨_, hide rfl⟩
 simp only [hqk.out] at hbk hql hq1 hiq hk0
 obtain ⟨hB1, hr1, hs1⟩ := boxed_new w zc 52
 have ht1 := there_newN w zc.toArray 52 (n := 119) (by simp [hzl])
 go_enter Tryz.func66, Tryz.ntmps66
 go_upto_region 0 with fail
 try simp only [Act.put]
 refine pl_begin ?_
 refine pl_run (d := some 2) (v := .pointer (some ⟨w.heap.size, 0, none⟩)) (w' := w.alloc (.cells zc.toArray 52)) (by rfl) (ex_alloc rfl (hzr _)) rfl ?_
 simp only [nz]
 refine pl_nil ?_
 obtain ⟨W1, hW1⟩ : ∃ W, w.alloc (.cells zc.toArray 52) = W := ⟨_, rfl⟩
 rw [hW1] at hB1 hr1 hs1 ht1 ⊢
 clear hW1 hr1
 have S1 := h.below hB1
 go_upto_region 1 with fail
 try simp only [Act.put]
 refine pl_begin ?_
 refine pl_t 4 (?_) (by rfl) ?_ rfl ?_
 rotate_left
 ·go_simp
  try with_reducible rfl
 simp only [nz]
 refine pl_call (d := some 5) (by rfl) (by go_simp; first | done | exact ⟨rfl, rfl⟩ | with_reducible rfl) rfl ?_
 refine (ck W1 S1).mono ?_
 rintro _ w2 ⟨rfl, S2, k2⟩
 refine ⟨_, rfl, ?_⟩
 simp only [nz]
 refine pl_t 6 (.agg qk.toArray) (by rfl) (ex_build (parts := [(0, .tmp 5)]) rfl rfl (hbk _)) rfl ?_
 simp only [nz]
 refine pl_run (d := some 3) (v := .pointer (some ⟨w2.heap.size, 0, none⟩)) (w' := w2.alloc (.cells zc.toArray 52)) (by rfl) (ex_alloc rfl (hzr _)) rfl ?_
 simp only [nz]
 refine pl_store (w' := (w2.alloc (.cells zc.toArray 52)).setCells w2.heap.size 0 qk) (by rfl) (ex_put (cs := qk.toArray) rfl rfl rfl (there_newN _ _ _ (by simp [hzl, hql])) (by simpa using hiq) (all_one hq1)) rfl ?_
 refine pl_nil ?_
 obtain ⟨hF1, hF2, hF3, -⟩ := fresh_store w2 zc.toArray 52 qk (by simp [hzl, hql])
 have hF4 := World.there_setCells (there_newN w2 zc.toArray 52 (n := 119) (by simp [hzl])) w2.heap.size 0 qk
 obtain ⟨w3, hw3⟩ : ∃ W, (w2.alloc (.cells zc.toArray 52)).setCells w2.heap.size 0 qk = W := ⟨_, rfl⟩
 rw [hw3] at hF1 hF2 hF3 hF4 ⊢
 clear hw3
 have hc0 := hk0 _ _ hF1
 have k3 : Kept w R Q w3 := (((Kept.refl w R Q).below hB1).trans k2).below hF2
 have z2 := k2.size
 rw [← hqk.out] at hF1
 have V3 : MV w Q R w.heap.size w2.heap.size 119 (Ms.plain 1 0 0 Vt.zero zeros32).cells s0 w3 := ⟨hF1, hF4, there_below (there_blk ht1 (k2.block _ hs1 (by omega) (by omega))) hF2 (by omega), k3, S2.below hF2, by have := hF2.size; omega, by omega, Nat.le_refl _, by have := hB1.size; omega, by omega, hRw, hQw⟩
 have hww : w.heap.size < w2.heap.size := by omega
 clear hF1 hF2 hF4 ht1 hB1 S1 S2 k2 k3 hk0 hbk hql hq1 hiq hqk h ck hzr hzl
 go_upto_region 2 with fail
 try simp only [Act.put]
 refine pl_begin ?_
 refine pl_t 7 (?_) (by rfl) ?_ rfl ?_
 rotate_left
 ·go_simp
  try with_reducible rfl
 simp only [nz]
 refine pl_t 8 (.int .i64 1) (by rfl) (pl_one rfl rfl hc0 Tryz.underlying3 rfl) rfl ?_
 simp only [nz]
 refine pl_nil ?_
 clear hc0
 go_upto_region 4 with fail
 have V8 := V3.drew
 refine hs_begin (S := (fun W' => W'.cell? ⟨Q, 0, none⟩ = some (.pointer (some ⟨R, 0, none⟩)))) 14 rfl (by kernel_rfl) ?_
 obtain ⟨w8, hw8⟩ : ∃ W, w3.drew = W := ⟨_, rfl⟩
 rw [hw8] at V8 ⊢
 clear hw8 V3
 have hS : (fun W' => W'.cell? ⟨Q, 0, none⟩ = some (.pointer (some ⟨R, 0, none⟩))) w8 := V8.rs.mr.c0
 refine hs_t 0 11 (?_) rfl (by kernel_rfl) (by kernel_rfl) (by kernel_rfl) (by rfl) ?_ hS rfl ?_
 rotate_left
 ·intro w' hw
  go_simp
  try with_reducible rfl
 simp only [nz]
 refine hs_t 1 12 (?_) rfl (by kernel_rfl) (by kernel_rfl) (by kernel_rfl) (by rfl) ?_ hS rfl ?_
 rotate_left
 ·intro w' hw
  go_simp
  try with_reducible rfl
 simp only [nz]
 refine hs_t 2 13 (?_) rfl (by kernel_rfl) (by kernel_rfl) (by kernel_rfl) (by rfl) ?_ hS rfl ?_
 rotate_left
 ·intro w' hw
  go_simp
  try with_reducible rfl
 simp only [nz]
 refine hs_t 3 14 (.pointer (some ⟨R, 0, none⟩)) rfl (by kernel_rfl) (by kernel_rfl) (by kernel_rfl) (by rfl) (fun w' hw => pl_one rfl rfl hw Tryz.underlying98 rfl) hS rfl ?_
 simp only [nz]
 refine hs_t 5 16 (?_) rfl (by kernel_rfl) (by kernel_rfl) (by kernel_rfl) (by rfl) ?_ hS rfl ?_
 rotate_left
 ·intro w' hw
  go_simp
  try with_reducible rfl
 simp only [nz]
 refine hs_t 6 17 (?_) rfl (by kernel_rfl) (by kernel_rfl) (by kernel_rfl) (by rfl) ?_ hS rfl ?_
 rotate_left
 ·intro w' hw
  go_simp
  try with_reducible rfl
 simp only [nz]
 refine hs_t 7 18 (?_) rfl (by kernel_rfl) (by kernel_rfl) (by kernel_rfl) (by rfl) ?_ hS rfl ?_
 rotate_left
 ·intro w' hw
  go_simp
  try with_reducible rfl
 simp only [nz]
 refine hs_t 8 19 (.pointer (some ⟨R, 0, none⟩)) rfl (by kernel_rfl) (by kernel_rfl) (by kernel_rfl) (by rfl) (fun w' hw => pl_one rfl rfl hw Tryz.underlying98 rfl) hS rfl ?_
 simp only [nz]
 refine hs_call (i := 4) (d := some 15) rfl (by kernel_rfl) (by rfl) (by go_simp; first | done | exact ⟨rfl, rfl⟩ | with_reducible rfl) rfl ?_
 refine (c_a w8 V8.rs).mono ?_
 rintro _ w5 ⟨rfl, S5, k5⟩
 have hS : (fun W' => W'.cell? ⟨Q, 0, none⟩ = some (.pointer (some ⟨R, 0, none⟩))) w5 := S5.mr.c0
 refine ⟨_, rfl, hS, ?_⟩
 simp only [nz]
 refine hs_t 10 21 (?_) rfl (by kernel_rfl) (by kernel_rfl) (by kernel_rfl) (by rfl) ?_ hS rfl ?_
 rotate_left
 ·intro w' hw
  go_simp
  try with_reducible rfl
 simp only [nz]
 refine hs_call (i := 9) (d := some 20) rfl (by kernel_rfl) (by rfl) (by go_simp; first | done | exact ⟨rfl, rfl⟩ | with_reducible rfl) rfl ?_
 refine (c_b w5 S5).mono ?_
 rintro _ w6 ⟨rfl, S6, k6⟩
 have hS : (fun W' => W'.cell? ⟨Q, 0, none⟩ = some (.pointer (some ⟨R, 0, none⟩))) w6 := S6.mr.c0
 refine ⟨_, rfl, hS, ?_⟩
 simp only [nz]
 have V_0 := ((V8.on k5 S5).on k6 S6)
 have V_1 := V_0.set 1 [.int .i64 v_a] (put_e v_a V_0.row (V_0.part 1 1 (by decide)))
 refine hs_store (i := 11) (w' := w6.setCells w2.heap.size 1 [.int .i64 v_a]) rfl (by kernel_rfl) (by rfl) (ex_put1 (n := 119) rfl rfl rfl V_0.box (by decide) iszI rfl rfl) rfl V_1.rs.mr.c0 ?_
 obtain ⟨w_11, hw_11⟩ : ∃ W, w6.setCells w2.heap.size 1 [.int .i64 v_a] = W := ⟨_, rfl⟩
 rw [hw_11] at V_1 ⊢
 clear hw_11
 have hS : (fun W' => W'.cell? ⟨Q, 0, none⟩ = some (.pointer (some ⟨R, 0, none⟩))) w_11 := V_1.rs.mr.c0
 refine hs_t 12 22 (?_) rfl (by kernel_rfl) (by kernel_rfl) (by kernel_rfl) (by rfl) ?_ hS rfl ?_
 rotate_left
 ·intro w' hw
  go_simp
  try with_reducible rfl
 simp only [nz]
 have V_2 := V_1.set 4 [.int .i64 v_b] (put_s v_b V_1.row (V_1.part 4 1 (by decide)))
 refine hs_store (i := 13) (w' := w_11.setCells w2.heap.size 4 [.int .i64 v_b]) rfl (by kernel_rfl) (by rfl) (ex_put1 (n := 119) rfl rfl rfl V_1.box (by decide) iszI rfl rfl) rfl V_2.rs.mr.c0 ?_
 obtain ⟨w_13, hw_13⟩ : ∃ W, w_11.setCells w2.heap.size 4 [.int .i64 v_b] = W := ⟨_, rfl⟩
 rw [hw_13] at V_2 ⊢
 clear hw_13
 have hS : (fun W' => W'.cell? ⟨Q, 0, none⟩ = some (.pointer (some ⟨R, 0, none⟩))) w_13 := V_2.rs.mr.c0
 refine hs_done (by kernel_rfl) ?_
 clear hS V8 S5 k5 S6 k6 V_0 V_1 c_a c_b
 go_upto_region 5 with fail
 try simp only [Act.put]
 refine pl_begin ?_
 refine pl_t 23 (?_) (by rfl) ?_ rfl ?_
 rotate_left
 ·go_simp
  try with_reducible rfl
 simp only [nz]
 refine pl_t 24 (?_) (by rfl) ?_ rfl ?_
 rotate_left
 ·go_simp
  try with_reducible rfl
 simp only [nz]
 refine pl_t 25 (?_) (by rfl) ?_ rfl ?_
 rotate_left
 ·go_simp
  try with_reducible rfl
 simp only [nz]
 refine pl_t 26 (.pointer (some ⟨R, 0, none⟩)) (by rfl) (pl_one rfl rfl V_2.rs.mr.c0 Tryz.underlying98 rfl) rfl ?_
 simp only [nz]
 refine pl_call (d := some 27) (by rfl) (by go_simp; first | done | exact ⟨rfl, rfl⟩ | with_reducible rfl) rfl ?_
 refine (c_c w_13 V_2.rs).mono ?_
 rintro _ wd ⟨x, rfl, hx, hA, hB, Sd, kd⟩
 refine ⟨_, rfl, ?_⟩
 simp only [nz]
 refine pl_t 28 (?_) (by rfl) ?_ rfl ?_
 rotate_left
 ·go_simp
  try with_reducible rfl
 simp only [nz]
 have Vd := V_2.on kd Sd
 have Ve := Vd.set 5 [.bool q_c, x.val] (put_b q_c x.val Vd.row (Vd.part 5 2 (by decide)))
 have lb := V_2.lb
 have la := V_2.la
 have na := V_2.kept.size
 refine pl_store (w' := wd.setCells w2.heap.size 5 [.bool q_c, x.val]) (by rfl) (ex_put (cs := #[.bool q_c, x.val]) rfl rfl rfl (Vd.part 5 2 (by decide)) iszBa (by simp [Value.oneCell', Sl.val])) rfl ?_
 refine pl_nil ?_
 have hA1 := hA.put (B := w2.heap.size) (o := 5) (vs := [.bool q_c, x.val]) hB (fun b hb => by omega)
 obtain ⟨we, hwe⟩ : ∃ W, wd.setCells w2.heap.size 5 [.bool q_c, x.val] = W := ⟨_, rfl⟩
 rw [hwe] at Ve hA1 ⊢
 clear hwe
 clear Vd Sd kd V_2 hA
 have rpc := Ve.row
 have hmo : Mg.ok ⟨1, v_a, 0, 0, v_b, q_c, x, Vt.zero, 0, 0, 0, ⟨none, 0, []⟩, ⟨none, 0, []⟩, zeros32, Vt.zero, ⟨none, 0, []⟩, ⟨#[]⟩, ⟨none, 0, []⟩⟩ := ⟨Vt.zero_ok, Vt.zero_ok, zeros32_len, zeros32_byte⟩
 have hpl : (Mg.ms ⟨1, v_a, 0, 0, v_b, q_c, x, Vt.zero, 0, 0, 0, ⟨none, 0, []⟩, ⟨none, 0, []⟩, zeros32, Vt.zero, ⟨none, 0, []⟩, ⟨#[]⟩, ⟨none, 0, []⟩⟩).cells.length = 119 := hmo.ms.len
 have hp1 := hmo.ms.one
 have hip : (Tryz.prog.info? 52).map (·.size) = some (Mg.ms ⟨1, v_a, 0, 0, v_b, q_c, x, Vt.zero, 0, 0, 0, ⟨none, 0, []⟩, ⟨none, 0, []⟩, zeros32, Vt.zero, ⟨none, 0, []⟩, ⟨#[]⟩, ⟨none, 0, []⟩⟩).cells.length := by rw [hpl]; exact iszM
 have rpc : we.rangeAt w2.heap.size 0 (Mg.ms ⟨1, v_a, 0, 0, v_b, q_c, x, Vt.zero, 0, 0, 0, ⟨none, 0, []⟩, ⟨none, 0, []⟩, zeros32, Vt.zero, ⟨none, 0, []⟩, ⟨#[]⟩, ⟨none, 0, []⟩⟩).cells := rpc
 obtain ⟨pc, hpc⟩ : ∃ p, Hid ((Mg.ms ⟨1, v_a, 0, 0, v_b, q_c, x, Vt.zero, 0, 0, 0, ⟨none, 0, []⟩, ⟨none, 0, []⟩, zeros32, Vt.zero, ⟨none, 0, []⟩, ⟨#[]⟩, ⟨none, 0, []⟩⟩).cells = p) := ⟨_, hide rfl⟩
 simp only [hpc.out] at hpl hip hp1 rpc
 go_upto_region 22 with fail
 try simp only [Act.put]
 refine pl_begin ?_
 refine pl_t 121 (.agg pc.toArray) (by rfl) (ex_mid rfl rfl rpc Tryz.underlying52 rfl hip) rfl ?_
 simp only [nz]
 refine pl_store (w' := we.setCells w.heap.size 0 pc) (by rfl) (ex_put (cs := pc.toArray) rfl rfl rfl (by simpa [hpl] using Ve.ans) (by simpa using hip) (all_one hp1)) rfl ?_
 refine pl_nil ?_
 have hlow : Below w.heap.size we (we.setCells w.heap.size 0 pc) := below_sets (Nat.le_refl _) pc 0 _ (Below.refl _ we)
 have hrs := run_loadVar_mid (P := Tryz.prog) (we.setCells w.heap.size 0 pc) w.heap.size 0 52 pc _ (World.rangeAt_setCells_same we w.heap.size 0 pc (by rw [hpl]; exact Ve.ans)) Tryz.underlying52 rfl hip
 have HF : Hid (∃ m : Mg, Ending.returned (.agg pc.toArray) = .returned (.agg m.ms.cells.toArray) ∧ m.pure = (⟨1, v_a, 0, 0, v_b, q_c, rs_c, Vt.zero, 0, 0, 0, [], [], zeros32, Vt.zero, [], ⟨#[]⟩, []⟩ : Mp) ∧ m.ok ∧ m.At (we.setCells w.heap.size 0 pc) ∧ m.Bk (fun b => w.heap.size ≤ b) ∧ RS (we.setCells w.heap.size 0 pc) Q R s_c ∧ Kept w R Q (we.setCells w.heap.size 0 pc)) := hide ⟨⟨1, v_a, 0, 0, v_b, q_c, x, Vt.zero, 0, 0, 0, ⟨none, 0, []⟩, ⟨none, 0, []⟩, zeros32, Vt.zero, ⟨none, 0, []⟩, ⟨#[]⟩, ⟨none, 0, []⟩⟩, by rw [hpc.out], by rw [← hx]; rfl, hmo, mg0_at (hA1.put hB (fun b hb => by omega)) hds_none RowsAt.none RowsAt.none RowsAt.none, ⟨hB.mono (fun b hb => by omega), no_bk, no_bk2, no_bk, no_bk, no_bk⟩, Ve.rs.low hlow hQw, Ve.kept.low hlow (Nat.le_refl _)⟩
 clear Ve hlow rpc hpc hmo hA1 hB hx
 go_wp2_with fail
 refine bodyPost_ret (v := .agg pc.toArray) ?_ rfl ?_
 ·simp [results, Tryz.results66, Act.put, asAddr, hrs]
 ·exact HF.out
set_option maxRecDepth 100000 in
set_option maxHeartbeats 1000000 in
theorem rmsgK2 (Q R : Nat) (s : Rst) (w : World) (h : RS w Q R s) (hl : s.1.length ≤ 40000) (hk : (kiS 8 s).1 = 2) : Calls Tryz.prog 66 #[.pointer (some ⟨Q, 0, none⟩)] w fun en w' => ∃ m : Mg, en = .returned (.agg m.ms.cells.toArray) ∧ m.pure = (mg2 (kiS 8 s).2).1 ∧ m.ok ∧ m.At w' ∧ m.Bk (fun b => w.heap.size ≤ b) ∧ RS w' Q R (mg2 (kiS 8 s).2).2 ∧ Kept w R Q w' := by
 have hRw := h.st.1.1
 have hQw := h.mr.lt
 have ck := fun w0 h0 => kindRS Q R 8 s w0 h0
 have l0 := kiS_len 8 s
 unfold mg2
 generalize kiS 8 s = p_ at ck l0 hk ⊢
 obtain ⟨k, s0⟩ := p_
 simp only at ck l0 hk ⊢
 subst hk
 have c_a := fun w0 h0 => rvoteS Q R s0 w0 h0 (by omega)
 have l_a : (voS s0).2.1.length ≤ s0.1.length := voS_len _
 have ok_a := fun hb => voS_ok s0 hb
 generalize voS s0 = p_ at c_a l_a ok_a ⊢
 obtain ⟨v_a, s_a⟩ := p_
 simp only at c_a l_a ok_a ⊢
 obtain ⟨zc, hzl, hzr⟩ : ∃ z : List Value, z.length = 119 ∧ ∀ w : World, (zeroValue 52).run Tryz.prog w = .ok (.agg z.toArray) w := ⟨_, (Ms.plain_ok 0 0 0 Vt.zero_ok zeros32_len zeros32_byte).len, zeroM⟩
 have hbk := build_kind 2
 have hql := (ms0_ok 2).len
 have hq1 := (ms0_ok 2).one
 have hiq : (Tryz.prog.info? 52).map (·.size) = some (Ms.plain 2 0 0 Vt.zero zeros32).cells.length := by rw [hql]; exact iszM
 have hk0 : ∀ (w' : World) b, w'.rangeAt b 0 (Ms.plain 2 0 0 Vt.zero zeros32).cells → w'.cell? ⟨b, 0, none⟩ = some (.int .i64 2) := fun w' b h => ((ms0_ok 2).at h).k
 obtain ⟨qk, hqk⟩ : ∃ q, Hid ((Ms.plain 2 0 0 Vt.zero zeros32).cells = q) := ⟨_, hide rfl⟩
 simp only [hqk.out] at hbk hql hq1 hiq hk0
 obtain ⟨hB1, hr1, hs1⟩ := boxed_new w zc 52
 have ht1 := there_newN w zc.toArray 52 (n := 119) (by simp [hzl])
 go_enter Tryz.func66, Tryz.ntmps66
 go_upto_region 0 with fail
 try simp only [Act.put]
 refine pl_begin ?_
 refine pl_run (d := some 2) (v := .pointer (some ⟨w.heap.size, 0, none⟩)) (w' := w.alloc (.cells zc.toArray 52)) (by rfl) (ex_alloc rfl (hzr _)) rfl ?_
 simp only [nz]
 refine pl_nil ?_
 obtain ⟨W1, hW1⟩ : ∃ W, w.alloc (.cells zc.toArray 52) = W := ⟨_, rfl⟩
 rw [hW1] at hB1 hr1 hs1 ht1 ⊢
 clear hW1 hr1
 have S1 := h.below hB1
 go_upto_region 1 with fail
 try simp only [Act.put]
 refine pl_begin ?_
 refine pl_t 4 (?_) (by rfl) ?_ rfl ?_
 rotate_left
 ·go_simp
  try with_reducible rfl
 simp only [nz]
 refine pl_call (d := some 5) (by rfl) (by go_simp; first | done | exact ⟨rfl, rfl⟩ | with_reducible rfl) rfl ?_
 refine (ck W1 S1).mono ?_
 rintro _ w2 ⟨rfl, S2, k2⟩
 refine ⟨_, rfl, ?_⟩
 simp only [nz]
 refine pl_t 6 (.agg qk.toArray) (by rfl) (ex_build (parts := [(0, .tmp 5)]) rfl rfl (hbk _)) rfl ?_
 simp only [nz]
 refine pl_run (d := some 3) (v := .pointer (some ⟨w2.heap.size, 0, none⟩)) (w' := w2.alloc (.cells zc.toArray 52)) (by rfl) (ex_alloc rfl (hzr _)) rfl ?_
 simp only [nz]
 refine pl_store (w' := (w2.alloc (.cells zc.toArray 52)).setCells w2.heap.size 0 qk) (by rfl) (ex_put (cs := qk.toArray) rfl rfl rfl (there_newN _ _ _ (by simp [hzl, hql])) (by simpa using hiq) (all_one hq1)) rfl ?_
 refine pl_nil ?_
 obtain ⟨hF1, hF2, hF3, -⟩ := fresh_store w2 zc.toArray 52 qk (by simp [hzl, hql])
 have hF4 := World.there_setCells (there_newN w2 zc.toArray 52 (n := 119) (by simp [hzl])) w2.heap.size 0 qk
 obtain ⟨w3, hw3⟩ : ∃ W, (w2.alloc (.cells zc.toArray 52)).setCells w2.heap.size 0 qk = W := ⟨_, rfl⟩
 rw [hw3] at hF1 hF2 hF3 hF4 ⊢
 clear hw3
 have hc0 := hk0 _ _ hF1
 have k3 : Kept w R Q w3 := (((Kept.refl w R Q).below hB1).trans k2).below hF2
 have z2 := k2.size
 rw [← hqk.out] at hF1
 have V3 : MV w Q R w.heap.size w2.heap.size 119 (Ms.plain 2 0 0 Vt.zero zeros32).cells s0 w3 := ⟨hF1, hF4, there_below (there_blk ht1 (k2.block _ hs1 (by omega) (by omega))) hF2 (by omega), k3, S2.below hF2, by have := hF2.size; omega, by omega, Nat.le_refl _, by have := hB1.size; omega, by omega, hRw, hQw⟩
 have hww : w.heap.size < w2.heap.size := by omega
 clear hF1 hF2 hF4 ht1 hB1 S1 S2 k2 k3 hk0 hbk hql hq1 hiq hqk h ck hzr hzl
 go_upto_region 2 with fail
 try simp only [Act.put]
 refine pl_begin ?_
 refine pl_t 7 (?_) (by rfl) ?_ rfl ?_
 rotate_left
 ·go_simp
  try with_reducible rfl
 simp only [nz]
 refine pl_t 8 (.int .i64 2) (by rfl) (pl_one rfl rfl hc0 Tryz.underlying3 rfl) rfl ?_
 simp only [nz]
 refine pl_nil ?_
 clear hc0
 go_upto_region 7 with fail
 try simp only [Act.put]
 refine pl_begin ?_
 refine pl_t 31 (?_) (by rfl) ?_ rfl ?_
 rotate_left
 ·go_simp
  try with_reducible rfl
 simp only [nz]
 refine pl_call (d := some 32) (by rfl) (by go_simp; first | done | exact ⟨rfl, rfl⟩ | with_reducible rfl) rfl ?_
 refine (c_a w3 V3.rs).mono ?_
 rintro _ wd ⟨rfl, Sd, kd⟩
 refine ⟨_, rfl, ?_⟩
 simp only [nz]
 refine pl_t 33 (?_) (by rfl) ?_ rfl ?_
 rotate_left
 ·go_simp
  try with_reducible rfl
 simp only [nz]
 have hv := ok_a V3.rs.st.bs
 have Vd := V3.on kd Sd
 have Ve := Vd.set 7 v_a.cells (put_vt v_a hv Vt.zero_ok Vd.row (Vd.part 7 36 (by decide)))
 have hvl := hv.len
 refine pl_store (w' := wd.setCells w2.heap.size 7 v_a.cells) (by rfl) (ex_put (cs := v_a.cells.toArray) rfl rfl rfl (by simpa [hvl] using Vd.part 7 36 (by decide)) (by simpa [hvl] using iszVo) (all_one (Vt.one v_a))) rfl ?_
 refine pl_nil ?_
 obtain ⟨we, hwe⟩ : ∃ W, wd.setCells w2.heap.size 7 v_a.cells = W := ⟨_, rfl⟩
 rw [hwe] at Ve ⊢
 clear hwe
 clear Vd Sd kd V3
 have rpc := Ve.row
 have hmo : Mg.ok ⟨2, 0, 0, 0, 0, false, ⟨none, 0, []⟩, v_a, 0, 0, 0, ⟨none, 0, []⟩, ⟨none, 0, []⟩, zeros32, Vt.zero, ⟨none, 0, []⟩, ⟨#[]⟩, ⟨none, 0, []⟩⟩ := ⟨hv, Vt.zero_ok, zeros32_len, zeros32_byte⟩
 have hpl : (Mg.ms ⟨2, 0, 0, 0, 0, false, ⟨none, 0, []⟩, v_a, 0, 0, 0, ⟨none, 0, []⟩, ⟨none, 0, []⟩, zeros32, Vt.zero, ⟨none, 0, []⟩, ⟨#[]⟩, ⟨none, 0, []⟩⟩).cells.length = 119 := hmo.ms.len
 have hp1 := hmo.ms.one
 have hip : (Tryz.prog.info? 52).map (·.size) = some (Mg.ms ⟨2, 0, 0, 0, 0, false, ⟨none, 0, []⟩, v_a, 0, 0, 0, ⟨none, 0, []⟩, ⟨none, 0, []⟩, zeros32, Vt.zero, ⟨none, 0, []⟩, ⟨#[]⟩, ⟨none, 0, []⟩⟩).cells.length := by rw [hpl]; exact iszM
 have rpc : we.rangeAt w2.heap.size 0 (Mg.ms ⟨2, 0, 0, 0, 0, false, ⟨none, 0, []⟩, v_a, 0, 0, 0, ⟨none, 0, []⟩, ⟨none, 0, []⟩, zeros32, Vt.zero, ⟨none, 0, []⟩, ⟨#[]⟩, ⟨none, 0, []⟩⟩).cells := rpc
 obtain ⟨pc, hpc⟩ : ∃ p, Hid ((Mg.ms ⟨2, 0, 0, 0, 0, false, ⟨none, 0, []⟩, v_a, 0, 0, 0, ⟨none, 0, []⟩, ⟨none, 0, []⟩, zeros32, Vt.zero, ⟨none, 0, []⟩, ⟨#[]⟩, ⟨none, 0, []⟩⟩).cells = p) := ⟨_, hide rfl⟩
 simp only [hpc.out] at hpl hip hp1 rpc
 go_upto_region 22 with fail
 try simp only [Act.put]
 refine pl_begin ?_
 refine pl_t 121 (.agg pc.toArray) (by rfl) (ex_mid rfl rfl rpc Tryz.underlying52 rfl hip) rfl ?_
 simp only [nz]
 refine pl_store (w' := we.setCells w.heap.size 0 pc) (by rfl) (ex_put (cs := pc.toArray) rfl rfl rfl (by simpa [hpl] using Ve.ans) (by simpa using hip) (all_one hp1)) rfl ?_
 refine pl_nil ?_
 have hlow : Below w.heap.size we (we.setCells w.heap.size 0 pc) := below_sets (Nat.le_refl _) pc 0 _ (Below.refl _ we)
 have hrs := run_loadVar_mid (P := Tryz.prog) (we.setCells w.heap.size 0 pc) w.heap.size 0 52 pc _ (World.rangeAt_setCells_same we w.heap.size 0 pc (by rw [hpl]; exact Ve.ans)) Tryz.underlying52 rfl hip
 have HF : Hid (∃ m : Mg, Ending.returned (.agg pc.toArray) = .returned (.agg m.ms.cells.toArray) ∧ m.pure = (⟨2, 0, 0, 0, 0, false, [], v_a, 0, 0, 0, [], [], zeros32, Vt.zero, [], ⟨#[]⟩, []⟩ : Mp) ∧ m.ok ∧ m.At (we.setCells w.heap.size 0 pc) ∧ m.Bk (fun b => w.heap.size ≤ b) ∧ RS (we.setCells w.heap.size 0 pc) Q R s_a ∧ Kept w R Q (we.setCells w.heap.size 0 pc)) := hide ⟨⟨2, 0, 0, 0, 0, false, ⟨none, 0, []⟩, v_a, 0, 0, 0, ⟨none, 0, []⟩, ⟨none, 0, []⟩, zeros32, Vt.zero, ⟨none, 0, []⟩, ⟨#[]⟩, ⟨none, 0, []⟩⟩, by rw [hpc.out], rfl, hmo, mg0_at RowsAt.none hds_none RowsAt.none RowsAt.none RowsAt.none, ⟨no_bk, no_bk, no_bk2, no_bk, no_bk, no_bk⟩, Ve.rs.low hlow hQw, Ve.kept.low hlow (Nat.le_refl _)⟩
 clear Ve hlow rpc hpc hmo 
 go_wp2_with fail
 refine bodyPost_ret (v := .agg pc.toArray) ?_ rfl ?_
 ·simp [results, Tryz.results66, Act.put, asAddr, hrs]
 ·exact HF.out
end Go.Proofs.YtcbpbkefggekmaaGreatDoor
