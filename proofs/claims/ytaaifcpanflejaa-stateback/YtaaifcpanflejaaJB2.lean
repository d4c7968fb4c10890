/- rows of signs, envelopes, requests; A plain region, operation by operation: what is wanted yields its value, what is not is passed over.; Sets of numbers below 64 as natural numbers: bits, lists, counting. Imports nothing of the translation.; What a law is told of its slices of ints; small words.; mask.bit, Has, With, Down: contracts.; mask.All, asLong, Ones, Many, raddlelaw08.all: contracts.; mask.asLong over a mask's numbers; raddlelaw08.all: contracts.; mask.All, Ones, Many, raddlelaw08.all: contracts.; append(dst, src...) where dst is a row of the call's own (or nil) and src is whatever yields cells (a slice with an address, a nil slice, an empty slice, a string): one law, over any program.; The document's List, Ones, Of, Down; mask.Of; Ints; lives: contracts.; Windows of a client's numbers: which were delivered, marked, counted. Imports nothing of the translation.; A region that draws its order, walked one way under a condition that every operation keeps: what yields one value wherever the condition holds may be taken first; what makes memory, writes or calls comes up alone.; Windows in memory: two cells; loads and stores of them; what stays.; window.settled, Good, Done, Count, Ask, Mark: contracts.; window.Mark: its contract.; The document's Good, Done, Count, Ask, Mark of windows: contracts.; Plain mathematics of leaders: configs, penalties, who owns which bucket. Imports nothing of the translation.; What a law is told of its slices of ints; small words.; quorum's Good, Faults, Some; leaders' within, Good, mayBe and the document's: contracts.; leaders' Good, mayBe and the document's: contracts.; windows and penalties in rows; lists compared, asked; which windows, which penalties may not be -/
import Derived.Test.YtaaifcpanflejaaJB1
import Derived.Laws.ResultCell
import Derived.Test.YtaaifcpanflejaaProg
import Derived.WalkKit
import Derived.WalkSpells
import Derived.WalkLawsBesides
import Derived.Below
import Derived.Deep.OwnRows
import Derived.ProofKit
import Derived.OpenShut
import Derived.ShutString
import Derived.ChangeOld
import Derived.RangeFuncBox
import Derived.RangeFuncLeaves
import Derived.RangeFuncCalls
import Derived.Shelf.Abstract
import Derived.Shelf.RegionOpen
import Derived.OwnWalkIn
import Derived.TacticsInMore
import Derived.LoopNIn
import Derived.LoopIn
import Derived.Maps.AppendAt
import Derived.Deep.AppendSrc
import Derived.Deep.QuietTactic
import Derived.BigQuiet
import Derived.Deep.RegionHeld3
import Derived.Deep.MidRow
namespace Go.Proofs.Ytaaifcpanflejaa
open Go.RowKit
open Sha Tal
/-- a slice whose elements' cells are f's -/
def RowOf {α : Type} (f : α → List Value) (w : World) (a : Option Addr) (ys : List α) : Prop := ys = [] ∨ ∃ b off, a = some ⟨b, off, none⟩ ∧ b < w.heap.size ∧ w.rangeAt b off (ys.flatMap f)
theorem RowOf.below {α : Type} {f : α → List Value} {w w' : World} {a : Option Addr} {ys : List α} (h : RowOf f w a ys) (hb : Below w.heap.size w w') : RowOf f w' a ys := by
  rcases h with h | ⟨b, off, rfl, h1, h2⟩
  · exact .inl h
  · exact .inr ⟨b, off, rfl, Nat.lt_of_lt_of_le h1 hb.size, range_below h2 hb h1⟩
theorem flat_len_k {α : Type} {f : α → List Value} {k : Nat} {ys : List α} (h : ∀ y ∈ ys, (f y).length = k) : (ys.flatMap f).length = ys.length * k := by
  induction ys with
  | nil => simp
  | cons y ys ih =>
    have h1 := h y (by simp)
    have h2 := ih (fun x hx => h x (by simp [hx]))
    simp only [List.flatMap_cons, List.length_append, List.length_cons, Nat.add_mul, Nat.one_mul]
    omega
theorem RowOf.elem {α : Type} {f : α → List Value} {k : Nat} {w : World} {a : Option Addr} {ys : List α} (h : RowOf f w a ys) (hk : ∀ y ∈ ys, (f y).length = k) (i : Nat) (hi : i < ys.length) : ∃ b off, a = some ⟨b, off, none⟩ ∧ b < w.heap.size ∧ w.rangeAt b (off + i * k) (f ys[i]) := by
  rcases h with h0 | ⟨b, off, rfl, h1, h2⟩
  · subst h0; simp at hi
  · refine ⟨b, off, rfl, h1, ?_⟩
    have e : ys.take i ++ (ys[i] :: ys.drop (i + 1)) = ys := by rw [← List.drop_eq_getElem_cons hi, List.take_append_drop]
    have e2 : ys.flatMap f = (ys.take i).flatMap f ++ f ys[i] ++ (ys.drop (i + 1)).flatMap f := by
      have := congrArg (List.flatMap f) e
      rw [← this]
      simp only [List.flatMap_append, List.flatMap_cons, List.append_assoc]
    rw [e2] at h2
    have h3 := range_part h2
    rwa [flat_len_k (fun y hy => hk y (List.mem_of_mem_take hy)), List.length_take, Nat.min_eq_left (by omega)] at h3
/-- what a list has -/
structure El (α : Type) where
  f : α → List Value
  k : Nat
  ok : α → Prop
  len : ∀ y, ok y → (f y).length = k
  one : ∀ y, ∀ v ∈ f y, v.oneCell' = true
def RowsAt {α : Type} (E : El α) (w : World) (a : Option Addr) (ys : List α) : Prop := ys.length ≤ maxLen ∧ (∀ y ∈ ys, E.ok y) ∧ RowOf E.f w a ys
theorem RowsAt.below {α : Type} {E : El α} {w w' : World} {a : Option Addr} {ys : List α} (h : RowsAt E w a ys) (hb : Below w.heap.size w w') : RowsAt E w' a ys := ⟨h.1, h.2.1, h.2.2.below hb⟩
theorem RowsAt.elem {α : Type} {E : El α} {w : World} {a : Option Addr} {ys : List α} (h : RowsAt E w a ys) (i : Nat) (hi : i < ys.length) : ∃ b off, a = some ⟨b, off, none⟩ ∧ b < w.heap.size ∧ w.rangeAt b (off + i * E.k) (E.f ys[i]) := h.2.2.elem (fun y hy => E.len y (h.2.1 y hy)) i hi
theorem RowsAt.none {α : Type} {E : El α} {w : World} {a : Option Addr} : RowsAt E w a [] := ⟨by simp, by simp, .inl rfl⟩
theorem RowsAt.drew {α : Type} {E : El α} {w : World} {a : Option Addr} {ys : List α} (h : RowsAt E w a ys) : RowsAt E w.drew a ys := h.below ((Below.refl _ _).drew)
/-- signs -/
structure Sg where
  n : Int
  t : List Int
deriving Inhabited
structure Sg.ok (r : Sg) : Prop where
  tl : r.t.length = 16
  tb : ∀ z ∈ r.t, 0 ≤ z ∧ z < 256
  nl : -9223372036854775808 ≤ r.n
  nh : r.n ≤ 9223372036854775807
def Sg.cells (r : Sg) : List Value := .int .i64 r.n :: v8 r.t
/-- envelopes -/
structure Ev where
  n : Int
  s : ByteArray
  t : List Int
deriving Inhabited
structure Ev.ok (r : Ev) : Prop where
  tl : r.t.length = 16
  tb : ∀ z ∈ r.t, 0 ≤ z ∧ z < 256
  sl : r.s.size ≤ maxLen
  nl : -9223372036854775808 ≤ r.n
  nh : r.n ≤ 9223372036854775807
def Ev.cells (r : Ev) : List Value := .int .i64 r.n :: .string r.s :: v8 r.t
/-- requests -/
structure Rq where
  c : Int
  n : Int
  s : ByteArray
  t : List Int
deriving Inhabited
structure Rq.ok (r : Rq) : Prop where
  tl : r.t.length = 16
  tb : ∀ z ∈ r.t, 0 ≤ z ∧ z < 256
  sl : r.s.size ≤ maxLen
  cl : -9223372036854775808 ≤ r.c
  ch : r.c ≤ 9223372036854775807
  nl : -9223372036854775808 ≤ r.n
  nh : r.n ≤ 9223372036854775807
def Rq.cells (r : Rq) : List Value := .int .i64 r.c :: .int .i64 r.n :: .string r.s :: v8 r.t
def Sg.B (x y : Sg) : Bool := (x.n == y.n) && ((x.t == y.t))
theorem Sg.B_iff {x y : Sg} : Sg.B x y = true ↔ x = y := by
  cases x
  cases y
  simp [Sg.B]
end Go.Proofs.Ytaaifcpanflejaa
namespace Go.Proofs.Ytaaifcpanflejaa
open Go Go.RowKit
section
variable {P : Program} {ops : Array Oper} {Q : Exit → Act → World → Prop}
structure Pl (P : Program) (ops : Array Oper) (Q : Exit → Act → World → Prop) (l : List Oper) (a : Act) (w : World) : Prop where
  out : wpList P ops Q l a w
theorem pl_begin {id : Nat} {a : Act} {w : World} (h : Pl P ops Q ops.toList a w) : (Code.region id ops false).wp P Q a w := wp_region_list h.out
theorem pl_nil {a : Act} {w : World} (h : Q .normal a w) : Pl P ops Q [] a w := ⟨wpList_nil h⟩
theorem pl_take {o : Oper} {rest : List Oper} {d : Option Nat} {v : Value} {a : Act} {w : World} (hw : Region.wanted o (yielded ops a.tmps) = true) (hy : (execOp a.eval o).run P w = .ok (.value v) w) (hd : o.dst = d)
    (h : Pl P ops Q rest (a.put d v) w) : Pl P ops Q (o :: rest) a w := by
  subst hd
  refine ⟨wpList_step fun K hK => ?_⟩
  rw [if_pos hw]
  unfold Oper.wp
  rw [hy]
  exact hK _ _ h.out
theorem pl_skip {o : Oper} {rest : List Oper} {d : Option Nat} {a : Act} {w : World} (hw : Region.wanted o (yielded ops a.tmps) = false) (hd : o.dst = d)
    (h : Pl P ops Q rest (a.put d undef) w) : Pl P ops Q (o :: rest) a w := by
  subst hd
  refine ⟨wpList_step fun K hK => ?_⟩
  rw [if_neg (by simp [hw])]
  exact hK _ _ h.out
theorem pl_run {o : Oper} {rest : List Oper} {d : Option Nat} {v : Value} {a : Act} {w w' : World} (hw : Region.wanted o (yielded ops a.tmps) = true) (hy : (execOp a.eval o).run P w = .ok (.value v) w') (hd : o.dst = d)
    (h : Pl P ops Q rest (a.put d v) w') : Pl P ops Q (o :: rest) a w := by
  subst hd
  refine ⟨wpList_step fun K hK => ?_⟩
  rw [if_pos hw]
  unfold Oper.wp
  rw [hy]
  exact hK _ _ h.out
theorem pl_call {o : Oper} {rest : List Oper} {d : Option Nat} {f : FuncId} {args : Array Value} {a : Act} {w : World} (hw : Region.wanted o (yielded ops a.tmps) = true) (hy : (execOp a.eval o).run P w = .ok (.enter f args) w) (hd : o.dst = d)
    (h : Calls P f args w fun e w' => ∃ v, e = .returned v ∧ Pl P ops Q rest (a.put d v) w') : Pl P ops Q (o :: rest) a w := by
  subst hd
  refine ⟨wpList_step fun K hK => ?_⟩
  rw [if_pos hw]
  unfold Oper.wp
  rw [hy]
  refine h.mono ?_
  rintro e w' ⟨v, rfl, hk⟩
  exact hK _ _ hk.out
theorem run_load_one (w : World) (p : Addr) (ty : TypeId) (v : Value) (d : TypeDesc) (hc : w.cell? p = some v) (hu : P.underlying ty = some d) (hd : d.isRow = false) : (loadVar ty p).run P w = .ok v w := by
  have hagg : (isAgg ty).run P w = .ok false w := by
    unfold isAgg
    rw [Sem.run_bind, run_underlying hu w]
    cases d <;> simp_all
  simp [loadVar, Sem.run_bind, hagg, load, Sem.run, hc]
theorem pl_one {o : Oper} {a : Act} {w : World} {ty : TypeId} {x : Operand} (ho : o.op = .load ty x) {p : Addr} (hx : a.eval x = .pointer (some p)) {v : Value} {d : TypeDesc} (hc : w.cell? p = some v) (hu : P.underlying ty = some d) (hd : d.isRow = false) : (execOp a.eval o).run P w = .ok (.value v) w := by
  unfold execOp
  simp only [ho, hx, Instr.loadAt, Instr.sureAddr, Sem.run_bind, Sem.run_pure, Result.andThen_ok, run_load_one w p ty v d hc hu hd]
end
end Go.Proofs.Ytaaifcpanflejaa
namespace Go.Proofs.Ytaaifcpanflejaa.Wn
def hasN (m : Nat) (i : Int) : Bool := decide (0 ≤ i ∧ i < 64) && m.testBit i.toNat
def bitN (i : Int) : Nat := if 0 ≤ i ∧ i < 64 then 2 ^ i.toNat else 0
def downN (m : Nat) (n : Int) : Nat := if n < 1 then m else m >>> n.toNat
def setUp (m k : Nat) : List Nat := (List.range k).filter m.testBit
def setN (m : Nat) : List Nat := setUp m 64
def onesUp (m : Nat) : Nat → Nat → Nat
  | 0, n => n
  | f + 1, n => if m.testBit n then onesUp m f (n + 1) else n
def onesN (m : Nat) : Nat := onesUp m 64 0
theorem bitN_lt (i : Int) : bitN i < 2 ^ 64 := by
  unfold bitN
  split
  · exact Nat.pow_lt_pow_right (by omega) (by omega)
  · decide
theorem and_bitN (m : Nat) (i : Int) : (m &&& bitN i = 0) ↔ hasN m i = false := by
  unfold bitN hasN
  split
  · rename_i h
    rw [decide_eq_true h, Bool.true_and]
    constructor
    · intro e
      have := congrArg (fun x => Nat.testBit x i.toNat) e
      simpa [Nat.testBit_and, Nat.testBit_two_pow] using this
    · intro e
      apply Nat.eq_of_testBit_eq
      intro j
      rw [Nat.testBit_and, Nat.testBit_two_pow, Nat.zero_testBit]
      by_cases hj : i.toNat = j
      · subst hj; rw [e]; rfl
      · simp [hj]
  · rename_i h
    simp [h]
theorem hasN_cast (m : Nat) (k : Nat) (h : k < 64) : hasN m (k : Int) = m.testBit k := by
  unfold hasN
  have : (0 ≤ (k : Int) ∧ (k : Int) < 64) := by omega
  simp [this]
theorem mem_setUp {m k j : Nat} : j ∈ setUp m k ↔ j < k ∧ m.testBit j = true := by simp [setUp]
theorem mem_setN {m j : Nat} : j ∈ setN m ↔ j < 64 ∧ m.testBit j = true := mem_setUp
theorem down_far {m : Nat} (h : m < 2 ^ 64) (n : Int) (h2 : 63 < n) : downN m n = 0 := by
  unfold downN; rw [if_neg (by omega), Nat.shiftRight_eq_div_pow]
  exact Nat.div_eq_of_lt (Nat.lt_of_lt_of_le h (Nat.pow_le_pow_right (by omega) (by omega)))
theorem setUp_succ (m k : Nat) : setUp m (k + 1) = setUp m k ++ (if m.testBit k then [k] else []) := by
  unfold setUp; rw [List.range_succ, List.filter_append]
  cases h : m.testBit k <;> simp [h]
theorem setUp_no {m k : Nat} (h : m.testBit k = false) : setUp m (k + 1) = setUp m k := by rw [setUp_succ, h]; simp
theorem setUp_yes {m k : Nat} (h : m.testBit k = true) : setUp m (k + 1) = setUp m k ++ [k] := by rw [setUp_succ, h]; simp
theorem setUp_len (m k : Nat) : (setUp m k).length ≤ k := by
  unfold setUp; exact Nat.le_trans (List.length_filter_le _ _) (by simp)
theorem setUp_prefix (m : Nat) {j k : Nat} (h : j ≤ k) : setUp m j <+: setUp m k := by
  induction k with
  | zero => obtain rfl : j = 0 := by omega
            exact List.prefix_refl _
  | succ k ih =>
    rcases Nat.lt_or_eq_of_le h with h' | rfl
    · rw [setUp_succ]; exact (ih (by omega)).trans (List.prefix_append _ _)
    · exact List.prefix_refl _
theorem setUp_lt (m k : Nat) : (setUp m k).Pairwise (· < ·) := by
  unfold setUp; exact List.Pairwise.filter _ List.pairwise_lt_range
theorem onesUp_spec (m : Nat) : ∀ f n L, n ≤ L → L ≤ n + f → (∀ j, n ≤ j → j < L → m.testBit j = true) → (L < n + f → m.testBit L = false) → onesUp m f n = L := by
  intro f
  induction f with
  | zero => intro n L h1 h2 _ _; unfold onesUp; omega
  | succ f ih =>
    intro n L h1 h2 h3 h4
    unfold onesUp
    rcases Nat.lt_or_eq_of_le h1 with h | rfl
    · rw [if_pos (h3 n (Nat.le_refl _) h)]
      exact ih (n + 1) L h (by omega) (fun j a b => h3 j (by omega) b) (fun a => h4 (by omega))
    · rw [if_neg (by rw [h4 (by omega)]; decide)]
theorem onesN_spec (m L : Nat) (h2 : L ≤ 64) (h3 : ∀ j, j < L → m.testBit j = true) (h4 : L < 64 → m.testBit L = false) : onesN m = L :=
  onesUp_spec m 64 0 L (Nat.zero_le _) (by omega) (fun j _ h => h3 j h) (fun h => h4 (by omega))
theorem ones_done {m L : Nat} (h : setN m = List.range L) : onesN m = L := by
  have hl : L ≤ 64 := by have := setUp_len m 64; rw [show setUp m 64 = _ from h] at this; simpa using this
  refine onesN_spec m L hl (fun j hj => (mem_setN.1 (by rw [h]; exact List.mem_range.2 hj)).2) (fun hL => ?_)
  cases hb : m.testBit L
  · rfl
  · have := mem_setN.2 ⟨hL, hb⟩
    rw [h] at this; simp at this
theorem ones_stop {m L x : Nat} (h : List.range L ++ [x] <+: setN m) (hx : x ≠ L) : onesN m = L := by
  obtain ⟨rest, hr⟩ := h
  have hp := setUp_lt m 64
  rw [show setUp m 64 = _ from hr.symm, List.append_assoc, List.pairwise_append] at hp
  obtain ⟨_, p2, p3⟩ := hp
  have hm : ∀ j, j ∈ setN m ↔ j ∈ List.range L ++ [x] ++ rest := fun j => by rw [hr]
  have hl : L ≤ 64 := by
    rcases Nat.eq_zero_or_pos L with h | h
    · omega
    · have := (mem_setN.1 ((hm (L - 1)).2 (by simp; omega))).1; omega
  have hxL : L < x := by
    rcases Nat.lt_trichotomy x L with h | h | h
    · exact absurd (p3 x (List.mem_range.2 h) x (by simp)) (Nat.lt_irrefl _)
    · exact absurd h hx
    · exact h
  refine onesN_spec m L hl (fun j hj => (mem_setN.1 ((hm j).2 (by simp; omega))).2) (fun hL => ?_)
  cases hb : m.testBit L
  · rfl
  · exfalso
    have := (hm L).1 (mem_setN.2 ⟨hL, hb⟩)
    simp only [List.append_assoc, List.mem_append, List.mem_range, List.mem_singleton] at this
    rcases this with h | h | h
    · omega
    · exact hx h.symm
    · rw [List.singleton_append, List.pairwise_cons] at p2
      have := p2.1 L h; omega
end Go.Proofs.Ytaaifcpanflejaa.Wn
namespace Go.Proofs.Ytaaifcpanflejaa.Wn
open Go.RowKit
theorem hide {p : Prop} (h : p) : Hid p := h
theorem ret_bool {a b : Bool} (h : a = b) : Ending.returned (.bool a) = .returned (.bool b) := by rw [h]
theorem ret_int {k : IntKind} {a b : Int} (h : a = b) : Ending.returned (.int k a) = .returned (.int k b) := by rw [h]
theorem own : ownKnob Try.prog.godebug = none := by kernel_rfl
/-- A slice of integers that came in: it is nil; or it leads to a row of 'cap' cells, the numbers 'zs' (the first 'len' are its elements), each fitting its kind. -/
def IsRow (k : IntKind) (w : World) (a : Option Addr) (len cap : Nat) (zs : List Int) : Prop :=
  (a = none ∧ len = 0 ∧ cap = 0 ∧ zs = []) ∨
  ∃ x, a = some x ∧ len ≤ cap ∧ cap ≤ maxLen ∧ zs.length = cap ∧ (∀ i, i < zs.length → w.cell? (x.add i) = some (.int k (zs.getD i 0))) ∧ ∀ n ∈ zs, (Lit.int k n).wf = true
/-- a slice of ints -/
def RowI (w : World) (a : Option Addr) (zs : List Int) : Prop :=
  zs.length ≤ maxLen ∧ (zs = [] ∨ ∃ b off, a = some ⟨b, off, none⟩ ∧ b < w.heap.size ∧ ∀ j, j < zs.length → w.cell? ⟨b, off + j, none⟩ = some (.int .i64 (zs[j]?.getD 0)))
theorem RowI.below {w w' : World} {a : Option Addr} {zs : List Int} (h : RowI w a zs) (hb : Below w.heap.size w w') : RowI w' a zs := by
  refine ⟨h.1, ?_⟩
  rcases h.2 with h | ⟨b, off, rfl, h1, h2⟩
  · exact Or.inl h
  · exact Or.inr ⟨b, off, rfl, Nat.lt_of_lt_of_le h1 hb.size, fun j hj => (hb.cell (p := ⟨b, off + j, none⟩) h1).trans (h2 j hj)⟩
theorem block_lt {w : World} {a : Addr} {v : Value} (h : w.cell? a = some v) : a.block < w.heap.size := by
  rcases Nat.lt_or_ge a.block w.heap.size with h' | h'
  · exact h'
  · simp [World.cell?, h'] at h
theorem IsRow.cells {k : IntKind} {w : World} {a : Option Addr} {len cap : Nat} {zs : List Int} (h : IsRow k w a len cap zs) :
    len ≤ cap ∧ cap ≤ maxLen ∧ (zs.take len).length = len ∧ (∀ z ∈ zs.take len, (Lit.int k z).wf = true) ∧ (zs.take len = [] ∨ ∃ b off, a = some ⟨b, off, none⟩ ∧ b < w.heap.size ∧ ∀ j, j < (zs.take len).length → w.cell? ⟨b, off + j, none⟩ = some (.int k ((zs.take len)[j]?.getD 0))) := by
  rcases h with ⟨rfl, rfl, rfl, rfl⟩ | ⟨x, rfl, hl, hm, hz, hcell, hwz⟩
  · simp
  · refine ⟨hl, hm, by rw [List.length_take]; omega, fun z hz => hwz z (List.mem_of_mem_take hz), ?_⟩
    by_cases h0 : len = 0
    · left; simp [h0]
    · right
      obtain ⟨b, off, spot⟩ := x
      have hc := hcell 0 (by omega)
      have hspot : spot = none := by simpa [Addr.add] using World.cell?_spot hc
      subst hspot
      refine ⟨b, off, rfl, ?_, fun j hj => ?_⟩
      · have := block_lt hc; simpa [Addr.add] using this
      · rw [List.length_take] at hj
        have hcj := hcell j (by omega)
        have e1 : (zs.take len)[j]?.getD 0 = zs.getD j 0 := by
          rw [List.getD_eq_getElem?_getD, List.getElem?_take, if_pos (by omega)]
        rw [e1]
        by_cases hj0 : j = 0
        · subst hj0; simpa [Addr.add] using hcj
        · simpa [Addr.add, hj0] using hcj
end Go.Proofs.Ytaaifcpanflejaa.Wn
namespace Go.Proofs.Ytaaifcpanflejaa.Wn
open Go.RowKit
attribute [local go_sem] Oper.semAt_some
theorem wrap_pow (i : Int) (h0 : 0 ≤ i) (h1 : i < 64) : IntKind.u64.wrap (2 ^ i.toNat) = ((bitN i : Nat) : Int) := by
  have hb := bitN_lt i
  have e : ((2 : Int) ^ i.toNat) = ((bitN i : Nat) : Int) := by unfold bitN; rw [if_pos ⟨h0, h1⟩]; simp
  rw [e, IntKind.wrap_u64]
  generalize bitN i = b at *
  omega
theorem toNat_ofInt (a : Nat) (h : a < 2 ^ 64) : (BitVec.ofInt 64 (a : Int)).toNat = a := by
  rw [BitVec.toNat_ofInt]; omega
theorem and_nat (a b : Nat) (ha : a < 2 ^ 64) (hb : b < 2 ^ 64) : bits BinOp.and IntKind.u64 (a : Int) (b : Int) = ((a &&& b : Nat) : Int) := by
  show IntKind.u64.wrap ((BitVec.ofInt 64 (a : Int) &&& BitVec.ofInt 64 (b : Int)).toNat : Int) = _
  rw [BitVec.toNat_and, toNat_ofInt a ha, toNat_ofInt b hb, IntKind.wrap_u64]
  have : a &&& b < 2 ^ 64 := Nat.and_lt_two_pow a hb
  generalize a &&& b = c at *
  omega
theorem or_nat (a b : Nat) (ha : a < 2 ^ 64) (hb : b < 2 ^ 64) : bits BinOp.or IntKind.u64 (a : Int) (b : Int) = ((a ||| b : Nat) : Int) := by
  show IntKind.u64.wrap ((BitVec.ofInt 64 (a : Int) ||| BitVec.ofInt 64 (b : Int)).toNat : Int) = _
  rw [BitVec.toNat_or, toNat_ofInt a ha, toNat_ofInt b hb, IntKind.wrap_u64]
  have : a ||| b < 2 ^ 64 := Nat.or_lt_two_pow ha hb
  generalize a ||| b = c at *
  omega
theorem ne_zero_has {c m : Nat} {i : Int} (h : c = 0 ↔ hasN m i = false) : (((c : Nat) : Int) != 0) = hasN m i := by
  cases hb : hasN m i
  · rw [h.2 hb]; rfl
  · have : c ≠ 0 := fun e => by rw [h.1 e] at hb; cases hb
    simp [this]
theorem shr_down (m : Nat) (hm : m < 2 ^ 64) (n : Int) (h : 1 ≤ n) : Op.shift BinOp.shr IntKind.u64 (m : Int) IntKind.i64 n = pure (.int .u64 (downN m n : Int)) := by
  by_cases h64 : n ≤ 64
  · rw [shift_shr_u64 _ _ _ (by omega) h64]
    have : (m : Int) / 2 ^ n.toNat = ((downN m n : Nat) : Int) := by
      unfold downN; rw [if_neg (by omega), Nat.shiftRight_eq_div_pow]; simp
    rw [this]
  · have hz : downN m n = 0 := down_far hm n (by omega)
    have hmn : min n.toNat IntKind.u64.bits = 64 := by show min n.toNat 64 = 64; omega
    have hq : (m : Int).fdiv (2 ^ 64) = 0 := by rw [Int.fdiv_eq_ediv_of_nonneg _ (by decide)]; omega
    rw [hz]
    have hn : ¬ n < 0 := by omega
    simp [Op.shift, hmn, hn]
    rw [show (m : Int).fdiv 18446744073709551616 = 0 from hq]
theorem bit_in (F : Fence) (n : Nat) (hf : F.fn 78) (hro : F.round = none) (i : Int) (w : World) :
    CallsIn F n Try.prog 78 #[.int .i64 i] w fun e w' => e = .returned (.int .u64 (bitN i : Int)) ∧ w' = w := by
  refine callsIn_of_wp Try.func78 rfl hf ?_ hro
  simp only [Try.ntmps78, List.size_toArray, List.length_cons, List.length_nil, Nat.reduceAdd, Nat.reduceSub, Array.replicate_succ, Array.replicate_zero, List.push_toArray, List.append_toArray, List.nil_append, List.cons_append]
  by_cases h0 : i < 0
  · gi_wp2
    go_ret
    exact ⟨ret_int (by unfold bitN; rw [if_neg (by omega)]; rfl), rfl⟩
  · by_cases h1 : 64 ≤ i
    · gi_wp2
      go_ret
      exact ⟨ret_int (by unfold bitN; rw [if_neg (by omega)]; rfl), rfl⟩
    · gi_wp2
      go_ret
      exact ⟨ret_int (wrap_pow i (by omega) (by omega)), rfl⟩
set_option maxHeartbeats 400000 in
theorem has_in (F : Fence) (n : Nat) (hf : F.fn 77) (hg : F.fn 78) (hro : F.round = none) (hn : 1 ≤ n) (m : Nat) (hm : m < 2 ^ 64) (i : Int) (w : World) :
    CallsIn F n Try.prog 77 #[.int .u64 (m : Int), .int .i64 i] w fun e w' => e = .returned (.bool (hasN m i)) ∧ w' = w := by
  have c := bit_in F (n - 1) hg hro i w
  have hb := bitN_lt i
  have ha := hide (and_bitN m i)
  refine callsIn_of_wp Try.func77 rfl hf ?_ hro
  simp only [Try.ntmps77, List.size_toArray, List.length_cons, List.length_nil, Nat.reduceAdd, Nat.reduceSub, Array.replicate_succ, Array.replicate_zero, List.push_toArray, List.append_toArray, List.nil_append, List.cons_append]
  generalize bitN i = b at *
  gi_wp2_with (gi_at_call 78; refine c.mono ?_; rintro e w1 ⟨rfl, rfl⟩)
  go_ret
  exact ⟨ret_bool (by rw [and_nat m b hm hb]; exact ne_zero_has ha.out), rfl⟩
set_option maxHeartbeats 400000 in
theorem down_any (m : Nat) (hm : m < 2 ^ 64) (n : Int) (w : World) :
    Calls Try.prog 63 #[.int .u64 (m : Int), .int .i64 n] w fun e w' => e = .returned (.int .u64 (downN m n : Int)) ∧ w' = w := by
  have hsh : 1 ≤ n → Op.shift BinOp.shr IntKind.u64 (m : Int) IntKind.i64 n = pure (.int .u64 (downN m n : Int)) := shr_down m hm n
  clear hm
  by_cases h : n < 1
  · go_enter Try.func63, Try.ntmps63
    go_wp2
    go_ret
    exact ⟨ret_int (by unfold downN; rw [if_pos h]), rfl⟩
  · have hs := hsh (by omega)
    clear hsh
    go_enter Try.func63, Try.ntmps63
    go_wp2
    go_ret
    exact ⟨rfl, rfl⟩
end Go.Proofs.Ytaaifcpanflejaa.Wn
namespace Go.Proofs.Ytaaifcpanflejaa.Wn
open Go.RowKit Go.Shelf
attribute [local go_sem] Oper.semAt_some
theorem info3 : (Try.prog.info? 3).map (fun i => (i.zero, i.size, i.bytes)) = some (some (.int .i64 0), 1, 8) := by kernel_rfl
theorem mixed : Try.prog.follows .mixedOrders = true := by kernel_rfl
set_option maxRecDepth 100000 in
set_option maxHeartbeats 2000000 in
theorem all1_in (F : Fence) (n : Nat) (h29 : F.fn 76) (h8 : F.fn 77) (h24 : F.fn 78) (hro : F.round = none) (hn : 2 ≤ n) (m : Nat) (l Bs : Nat) (Kp : World → World → Prop) (hKr : ∀ A, Kp A A) (hKt : ∀ {A B C : World}, Kp A B → Kp B C → Kp A C) (hKc : ∀ {A B : World}, Kp A B → A.cell? ⟨Bs, 0, none⟩ = some (.int .u64 (m : Int)) → B.cell? ⟨Bs, 0, none⟩ = some (.int .u64 (m : Int))) (hm : m < 2 ^ 64) (J Jx : List Nat → World → Prop)
    (hY : ∀ (pre : List Nat) (x : Nat) (W : World), J pre W → pre.length < 64 → YieldAt F (n - 1) Try.prog l #[.int .i64 (x : Int)] W fun e W' =>
      (e = .returned (.bool true) ∧ J (pre ++ [x]) W' ∧ Kp W W') ∨ (e = .returned (.bool false) ∧ Jx (pre ++ [x]) W'))
    (W : World) (hBs : W.cell? ⟨Bs, 0, none⟩ = some (.int .u64 (m : Int))) (h0 : J [] W) :
    CallsIn F n Try.prog 76 #[.func (.yield l) #[] #[], .pointer (some ⟨Bs, 0, none⟩)] W fun e W' => (∃ v, e = .returned v) ∧
      ((∃ ys, ys = setN m ∧ J ys W') ∨ (∃ pre, pre <+: setN m ∧ Jx pre W')) := by
  have h1 : 1 ≤ n := by omega
  have h1' : 1 ≤ n - 1 := by omega
  have hmx := mixed
  refine callsIn_of_wp Try.func76 rfl h29 ?_ hro
  simp only [Try.ntmps76, List.size_toArray, List.length_cons, List.length_nil, Nat.reduceAdd, Nat.reduceSub, Array.replicate_succ, Array.replicate_zero, List.push_toArray, List.append_toArray, List.nil_append, List.cons_append]
  gi_wp2
  gi_loopw [4] (fun i wr => ∃ k : Nat, k ≤ 64 ∧ i = .int .i64 (k : Int) ∧ J (setUp m k) wr ∧ Kp W wr)
    (fun i _ => 64 - (intOf i).toNat)
  case atStart => exact ⟨0, Nat.zero_le _, rfl, h0, hKr _⟩
  case round =>
    obtain ⟨k, hk, rfl, hJs, hnx⟩ := hrel
    have hc : wr.cell? ⟨Bs, 0, none⟩ = some (.int .u64 (m : Int)) := hKc hnx hBs
    by_cases hlt' : k < 64
    · have ch := has_in F (n - 1) h8 h24 hro h1' m hm (k : Int)
      rw [hasN_cast _ _ hlt'] at ch
      cases hb : m.testBit k
      · rw [hb] at ch
        have HU := hide (setUp_no hb)
        clear hb hY
        gi_wp2_with (gi_at_call 77; refine (ch _).mono ?_; rintro e w1 ⟨rfl, hx⟩; obtain rfl := hx.symm; clear hx)
        refine ⟨fun f h => (by cases h), ?_⟩
        gi_wp2
        go_roundw
        case rel => exact ⟨k + 1, by omega, by go_num, by rw [HU.out]; exact hJs, hnx⟩
        case measure => simp [intOf]; omega
      · rw [hb] at ch
        have HU := hide (setUp_yes hb)
        clear hb
        obtain ⟨fn, tmps, assign, body, hy, hR⟩ := hY _ k wr hJs (by have := setUp_len m k; omega)
        gi_wp2_with (gi_at_call 77; refine (ch _).mono ?_; rintro e w1 ⟨rfl, hx⟩; obtain rfl := hx.symm; clear hx)
        refine hR.mono ?_
        rintro e W3 (⟨rfl, hJ3, hk3⟩ | ⟨rfl, hJx3⟩)
        · gi_wp2
          go_roundw
          case rel => exact ⟨k + 1, by omega, by go_num, by rw [HU.out]; exact hJ3, hKt hnx hk3⟩
          case measure => simp [intOf]; omega
        · gi_wp2
          refine bodyPost_ret (results_none rfl _ _ _) rfl ?_
          exact ⟨⟨_, rfl⟩, .inr ⟨_, by rw [← HU.out]; exact setUp_prefix m (by omega), hJx3⟩⟩
    · obtain rfl : k = 64 := by omega
      gi_wp2
      go_end0
      exact ⟨⟨_, rfl⟩, .inl ⟨_, rfl, hJs⟩⟩
end Go.Proofs.Ytaaifcpanflejaa.Wn
namespace Go.Proofs.Ytaaifcpanflejaa.Wn
open Go.RowKit Go.Shelf
attribute [local go_sem] Oper.semAt_some
theorem all_stops (F : Fence) (n : Nat) (h29 : F.fn 76) (h8 : F.fn 77) (h24 : F.fn 78) (hro : F.round = none) (hn : 2 ≤ n) (Bs n₀ : Nat) (m : Nat) (hm : m < 2 ^ 64) (w : World) (hBs : Bs < n₀) (hn₀ : n₀ ≤ w.heap.size)
    (hc : w.cell? ⟨Bs, 0, none⟩ = some (.int .u64 (m : Int))) :
    SeqStopsK F n Try.prog 76 #[.pointer (some ⟨Bs, 0, none⟩)] (fun x : Nat => #[Value.int .i64 (x : Int)]) (Below n₀) (fun ys => ys = setN m) (fun pre => pre <+: setN m) 64 w := fun l J Jx W hW _ _ hY h0 =>
  all1_in F n h29 h8 h24 hro hn m l Bs (Below n₀) (fun A => Below.refl _ A) (fun h k => h.trans k) (fun h e => (h.cell (p := ⟨Bs, 0, none⟩) hBs).trans e) hm J Jx hY W ((hW.cell (p := ⟨Bs, 0, none⟩) (by simp; omega)).trans hc) h0
/-- the block Bs lies as it lay -/
def KeepsAt (Bs : Nat) (A B : World) : Prop := Bs < A.heap.size → B.heap[Bs]? = A.heap[Bs]?
theorem KeepsAt.cell {Bs : Nat} {A B : World} (h : KeepsAt Bs A B) {v : Value} (e : A.cell? ⟨Bs, 0, none⟩ = some v) : B.cell? ⟨Bs, 0, none⟩ = some v := by
  have hb : Bs < A.heap.size := by
    rcases Nat.lt_or_ge Bs A.heap.size with h' | h'
    · exact h'
    · simp [World.cell?, h'] at e
  simp only [World.cell?, h hb] at e ⊢
  exact e
/-- each fits at its place -/
def Fits (p : Nat → Nat → Bool) (l : List Nat) : Prop := ∀ k (h : k < l.length), p k l[k] = true
theorem Fits.nil (p : Nat → Nat → Bool) : Fits p [] := fun _ h => absurd h (Nat.not_lt_zero _)
theorem Fits.snoc {p : Nat → Nat → Bool} {l : List Nat} {x : Nat} (h : Fits p l) (hx : p l.length x = true) : Fits p (l ++ [x]) := by
  intro k hk
  rw [List.length_append, List.length_singleton] at hk
  rcases Nat.lt_or_eq_of_le (Nat.lt_succ_iff.1 hk) with h' | rfl
  · rw [List.getElem_append_left h']; exact h k h'
  · simpa using hx
def vals (l : List Nat) : List Value := l.map fun (x : Nat) => Value.int .i64 (x : Int)
/-- what asLong lists -/
def Longest (p : Nat → Nat → Bool) (all l : List Nat) : Prop := Fits p l ∧ (l = all ∨ ∃ x, l ++ [x] <+: all ∧ p l.length x = false)
theorem vals_snoc (l : List Nat) (x : Nat) : vals (l ++ [x]) = vals l ++ [Value.int .i64 (x : Int)] := by simp [vals]
theorem ownsRow_low {W : World} {base base' : Nat} {e : TypeId} {size : Nat} {v : Value} {k : Nat} {xs : List Value} (hb : base' ≤ base) (h : W.ownsRow base e size v k xs) : W.ownsRow base' e size v k xs := by
  refine ⟨h.1, ?_⟩
  rcases h.2 with h | ⟨g, cap, cur, e1, e2, e3⟩
  · exact .inl h
  · exact .inr ⟨g, cap, cur, e1, Nat.le_trans hb e2, e3⟩
theorem ownsRow_slice {W : World} {base : Nat} {e : TypeId} {size : Nat} {v : Value} {k : Nat} {xs : List Value} (h : W.ownsRow base e size v k xs) : ∃ a cap, v = .slice a k cap := by
  rcases h.2 with ⟨rfl, rfl⟩ | ⟨g, cap, cur, rfl, _⟩
  · exact ⟨none, 0, rfl⟩
  · exact ⟨_, _, rfl⟩
set_option maxRecDepth 100000 in
set_option maxHeartbeats 2000000 in
theorem asLongO_in (F : Fence) (n : Nat) (h26 : F.fn 73) (h29 : F.fn 76) (h8 : F.fn 77) (h24 : F.fn 78) (hro : F.round = none) (hn : 4 ≤ n) (hg : F.fn 75) (p : Nat → Nat → Bool)
    (hp : ∀ (k x : Nat) (W : World), CallsIn F (n - 1 - 1 - 1) Try.prog 75 #[.int .i64 (k : Int), .int .i64 (x : Int)] W fun e W' => e = .returned (.bool (p k x)) ∧ W' = W)
    (Bs : Nat) (m : Nat) (hm : m < 2 ^ 64) (w : World) (hBs : Bs < w.heap.size) (hcB : w.cell? ⟨Bs, 0, none⟩ = some (.int .u64 (m : Int))) :
    CallsIn F n Try.prog 73 #[.func (.func 76) #[] #[.pointer (some ⟨Bs, 0, none⟩)], .func (.func 75) #[] #[]] w fun e W' => ∃ v l, e = .returned v ∧ Longest p (setN m) l ∧ W'.ownsRow w.heap.size 3 1 v l.length (vals l) ∧ Below w.heap.size w W' := by
  have h1 : 1 ≤ n := by omega
  have h1' : 1 ≤ n - 1 - 1 := by omega
  obtain ⟨i0, hi, hz0, hz1, hz2⟩ := info_parts info3
  refine callsIn_of_wp_marks Try.func73 rfl h26 ?_ hro
  simp only [Try.ntmps73, List.size_toArray, List.length_cons, List.length_nil, Nat.reduceAdd, Nat.reduceSub, Array.replicate_succ, Array.replicate_zero, List.push_toArray, List.append_toArray, List.nil_append, List.cons_append]
  gi_wp2
  have hfit0 : (w.alloc (.cells #[.func (.func 75) #[] #[]] 109)).cell? ⟨w.heap.size, 0, none⟩ = some (.func (.func 75) #[] #[]) := (Boxed.new w 109 (.func (.func 75) #[] #[])).cell
  have hBw : Below w.heap.size w (w.alloc (.cells #[.func (.func 75) #[] #[]] 109)) := (Below.refl _ w).alloc (Nat.le_refl _) _
  have hsz : (w.alloc (.cells #[.func (.func 75) #[] #[]] 109)).heap.size = w.heap.size + 1 := World.size_alloc _ _
  obtain ⟨w1, hw1⟩ : ∃ w1, w.alloc (.cells #[.func (.func 75) #[] #[]] 109) = w1 := ⟨_, rfl⟩
  rw [hw1] at hfit0 hBw hsz ⊢
  clear hw1
  rw [← hsz]
  have HSZ := hide hsz
  clear hsz
  have hbs1 : Bs < w1.heap.size := by have := HSZ.out; omega
  have hfl : w.heap.size < w1.heap.size := by have := HSZ.out; omega
  have hc1 : w1.cell? ⟨Bs, 0, none⟩ = some (.int .u64 (m : Int)) := (hBw.cell (p := ⟨Bs, 0, none⟩) hBs).trans hcB
  have bO := Boxed.new w1 28 (.slice none 0 0)
  have hB0 : Below w1.heap.size w1 (w1.alloc (.cells #[.slice none 0 0] 28)) := (Below.refl _ w1).alloc (Nat.le_refl _) _
  have hc2 : (w1.alloc (.cells #[.slice none 0 0] 28)).cell? ⟨Bs, 0, none⟩ = some (.int .u64 (m : Int)) := (hB0.cell (p := ⟨Bs, 0, none⟩) hbs1).trans hc1
  refine wpIn_rangeFunc_ownG hro h1 (gf := 76) (lb := #[.pointer (some ⟨Bs, 0, none⟩)]) rfl h29 (enters_of Try.func76 (by kernel_rfl) rfl)
    (all_stops F (n - 1) h29 h8 h24 hro (by omega) Bs w1.heap.size m hm _ hbs1 (by simp) hc2) belowK_t (belowK_b (by simp)) (Below.refl _ _) (fun _ => rfl)
    (fun pre W => (∃ v, Boxed W w1.heap.size 28 v ∧ W.ownsRow w1.heap.size 3 1 v pre.length (vals pre) ∧ Fits p pre) ∧ Below w1.heap.size w1 W)
    (fun c pre W => (∃ v, Boxed W w1.heap.size 28 v ∧ W.ownsRow w1.heap.size 3 1 v pre.dropLast.length (vals pre.dropLast) ∧ (c = .exit 0 ∧ ∃ l x, pre = l ++ [x] ∧ Fits p l ∧ p l.length x = false)) ∧ Below w1.heap.size w1 W)
    (OwnFrom.and (Own.from (holdsRow_own w1.heap.size w1.heap.size 28 3 1 (fun pre : List Nat => pre.length) (fun pre => vals pre) (fun pre _ => Fits p pre)) _) (ownFrom_below (Nat.le_refl _) (by simp)))
    (fun c => OwnFrom.and (Own.from (holdsRow_own w1.heap.size w1.heap.size 28 3 1 (fun pre : List Nat => pre.dropLast.length) (fun pre => vals pre.dropLast) (fun pre _ => c = .exit 0 ∧ ∃ l x, pre = l ++ [x] ∧ Fits p l ∧ p l.length x = false)) _) (ownFrom_below (Nat.le_refl _) (by simp)))
    ⟨⟨_, bO, World.ownsRow_nil _ _ _ _, Fits.nil p⟩, hB0⟩
    (fun x => { tmps := #[.func (.func 76) #[] #[.pointer (some ⟨Bs, 0, none⟩)], .func (.func 75) #[] #[], undef, .pointer (some ⟨w.heap.size, 0, none⟩), .slice none 0 0, .pointer (some ⟨w1.heap.size, 0, none⟩), .int .i64 (x : Int), .func (.func 76) #[] #[.pointer (some ⟨Bs, 0, none⟩)], .int .i64 (x : Int), undef, undef, undef, undef, undef, undef, undef, undef, undef, undef, undef], defers := [] }) ?assign ?body ?done ?stop
  case assign =>
    intro l x W K hK
    gi_wp2
    exact hK
  case body =>
    rintro l pre x W ⟨⟨v, hv, hrow, hfits⟩, hB⟩ hlt
    have hc := hv.cell
    have hcf : W.cell? ⟨w.heap.size, 0, none⟩ = some (.func (.func 75) #[] #[]) := (hB.cell (p := ⟨w.heap.size, 0, none⟩) hfl).trans hfit0
    obtain ⟨va, vcap, rfl⟩ := ownsRow_slice hrow
    have cp := fun W => hp pre.length x W
    cases hb : p pre.length x
    · simp only [hb] at cp
      have HB := hide hb
      clear hb
      gi_wp2_with (gi_at_call 75; refine (CallsIn.inRound l (cp _)).mono ?_; rintro e w5 ⟨rfl, hx⟩; obtain rfl := hx.symm; clear hx)
      exact ⟨KeepsFrom.refl _ _, ⟨_, hv, by simpa using hrow, rfl, pre, x, rfl, hfits, HB.out⟩, hB⟩
    · simp only [hb] at cp
      have HB := hide hb
      clear hb
      gi_wp2_with (first | (gi_at_call 75; refine (CallsIn.inRound l (cp _)).mono ?_; rintro e w5 ⟨rfl, hx⟩; obtain rfl := hx.symm; clear hx) | (gi_at_builtin; refine wpListIn_append_own _ rfl _ _ 28 rfl w1.heap.size 3 i0 (.int .i64 0) 1 8 Try.underlying28 hi hz0 hz1 hz2 rfl (by decide) _ _ _ rfl (hrow.alloc _) ⟨W.heap.size, 0, none⟩ 1 1 [.int .i64 (x : Int)] rfl rfl (cell_one_new _ _ _) (by simp [Value.oneCell']) (by unfold maxLen; omega) (by omega) (by have := hB.size; simp; omega) ?_; intro v' w2 hown' hgrow _; obtain ⟨g', cap', rfl⟩ := ownsRow_succ hown'; obtain ⟨hv1, hv2, hr2, hk2, hb2⟩ := hv.appended (by decide) hrow hB.size (Nat.le_refl _) hown' hgrow; have hc1 := hv1.cell; have hf1 := hv1.frozen))
      exact ⟨hk2.from _, hb2, ⟨_, hv2, by rw [vals_snoc]; simpa using hr2, hfits.snoc HB.out⟩, hB.trans hb2⟩
  case done =>
    rintro D ys W hD rfl ⟨⟨v, hv, hrow, hfits⟩, hB⟩ hK
    have hc := hv.cell
    gi_wp2
    refine ⟨by simp, .inl ⟨_, _, rfl, run_takeDeferred hK, ?_⟩⟩
    exact ⟨_, results_tmp rfl _ _ _, v, setN m, rfl, ⟨hfits, .inl rfl⟩, ownsRow_low (Nat.le_of_lt hfl) (ownsRow_putObj hrow _ hK rfl), hBw.trans ((hB.trans (belowK_b (w := w1) (Nat.le_refl _) W D _ _ (by simp at hD; omega) hK rfl rfl)).mono (Nat.le_of_lt hfl))⟩
  case stop =>
    rintro D c pre W hD hpre ⟨⟨v, hv, hrow, rfl, l, x, rfl, hfits, hno⟩, hB⟩ hK
    have hc := hv.cell
    rw [List.dropLast_concat] at hrow
    gi_wp2
    refine ⟨by simp, .inl ⟨_, _, rfl, run_takeDeferred hK, ?_⟩⟩
    exact ⟨_, results_tmp rfl _ _ _, v, l, rfl, ⟨hfits, .inr ⟨x, hpre, hno⟩⟩, ownsRow_low (Nat.le_of_lt hfl) (ownsRow_putObj hrow _ hK rfl), hBw.trans ((hB.trans (belowK_b (w := w1) (Nat.le_refl _) W D _ _ (by simp at hD; omega) hK rfl rfl)).mono (Nat.le_of_lt hfl))⟩
end Go.Proofs.Ytaaifcpanflejaa.Wn
namespace Go.Proofs.Ytaaifcpanflejaa.Wn
open Go.RowKit Go.Shelf
attribute [local go_sem] Oper.semAt_some
theorem fits_range {l : List Nat} (h : Fits (fun k x => decide (x = k)) l) : l = List.range l.length := by
  apply List.ext_getElem (by simp)
  intro k h1 h2
  have := of_decide_eq_true (h k h1)
  rw [List.getElem_range]; exact this
theorem longest_ones {m : Nat} {l : List Nat} (h : Longest (fun k x => decide (x = k)) (setN m) l) : onesN m = l.length := by
  have hl := fits_range h.1
  rcases h.2 with e | ⟨x, hp, hx⟩
  · exact ones_done (by rw [← e]; exact hl)
  · refine ones_stop (x := x) (by rw [← hl]; exact hp) (of_decide_eq_false hx)
set_option maxHeartbeats 400000 in
theorem all_iter_in (F : Fence) (n : Nat) (hf : F.fn 74) (hro : F.round = none) (m : Nat) (w : World) :
    CallsIn F n Try.prog 74 #[.int .u64 (m : Int)] w fun e w' => e = .returned (.func (.func 76) #[] #[.pointer (some ⟨w.heap.size, 0, none⟩)]) ∧ w' = w.alloc (.cells #[.int .u64 (m : Int)] 55) := by
  refine callsIn_of_wp Try.func74 rfl hf ?_ hro
  simp only [Try.ntmps74, List.size_toArray, List.length_cons, List.length_nil, Nat.reduceAdd, Nat.reduceSub, Array.replicate_succ, Array.replicate_zero, List.push_toArray, List.append_toArray, List.nil_append, List.cons_append]
  gi_wp2
  go_ret
  exact ⟨rfl, rfl⟩
theorem all_iter_any (m : Nat) (w : World) :
    Calls Try.prog 74 #[.int .u64 (m : Int)] w fun e w' => e = .returned (.func (.func 76) #[] #[.pointer (some ⟨w.heap.size, 0, none⟩)]) ∧ w' = w.alloc (.cells #[.int .u64 (m : Int)] 55) :=
  (callsIn_wide (n := 8)).1 (all_iter_in _ 8 trivial rfl m w)
theorem ones1_in (F : Fence) (n : Nat) (hf : F.fn 75) (hro : F.round = none) (k x : Nat) (w : World) :
    CallsIn F n Try.prog 75 #[.int .i64 (k : Int), .int .i64 (x : Int)] w fun e w' => e = .returned (.bool (decide (x = k))) ∧ w' = w := by
  refine callsIn_of_wp Try.func75 rfl hf ?_ hro
  simp only [Try.ntmps75, List.size_toArray, List.length_cons, List.length_nil, Nat.reduceAdd, Nat.reduceSub, Array.replicate_succ, Array.replicate_zero, List.push_toArray, List.append_toArray, List.nil_append, List.cons_append]
  gi_wp2
  go_ret
  exact ⟨ret_bool (by rw [Bool.eq_iff_iff]; simp; omega), rfl⟩
theorem boxU (m : Nat) (w : World) : (w.alloc (.cells #[.int .u64 (m : Int)] 55)).cell? ⟨w.heap.size, 0, none⟩ = some (.int .u64 (m : Int)) := (Boxed.new w 55 (.int .u64 (m : Int))).cell
theorem asLongO_any (Bs : Nat) (m : Nat) (hm : m < 2 ^ 64) (w : World) (hBs : Bs < w.heap.size) (hcB : w.cell? ⟨Bs, 0, none⟩ = some (.int .u64 (m : Int))) :
    Calls Try.prog 73 #[.func (.func 76) #[] #[.pointer (some ⟨Bs, 0, none⟩)], .func (.func 75) #[] #[]] w fun e W' => ∃ v l, e = .returned v ∧ Longest (fun k x => decide (x = k)) (setN m) l ∧ W'.ownsRow w.heap.size 3 1 v l.length (vals l) ∧ Below w.heap.size w W' :=
  (callsIn_wide (n := 8)).1 (asLongO_in _ 8 trivial trivial trivial trivial rfl (by decide) trivial _ (fun k x W => ones1_in _ _ trivial rfl k x W) Bs m hm w hBs hcB)
set_option maxHeartbeats 400000 in
theorem ones_any (m : Nat) (hm : m < 2 ^ 64) (w : World) :
    Calls Try.prog 71 #[.int .u64 (m : Int)] w fun e w' => e = .returned (.int .i64 (onesN m : Int)) ∧ Below w.heap.size w w' := by
  have c := all_iter_any m w
  have c2 := asLongO_any w.heap.size m hm (w.alloc (.cells #[.int .u64 (m : Int)] 55)) (by simp) (boxU m w)
  have hb0 : Below w.heap.size w (w.alloc (.cells #[.int .u64 (m : Int)] 55)) := (Below.refl _ _).alloc (Nat.le_refl _) _
  obtain ⟨w1, hw1⟩ : ∃ w1, w.alloc (.cells #[.int .u64 (m : Int)] 55) = w1 := ⟨_, rfl⟩
  rw [hw1] at c c2 hb0
  clear hw1
  go_enter Try.func71, Try.ntmps71
  go_wp2_with (first | (go_at_call 74; refine c.mono ?_; rintro e w3 ⟨rfl, hx⟩; obtain rfl := hx.symm; clear hx) | (go_at_call 73; refine c2.mono ?_; rintro e w2 ⟨v, l, rfl, hl, hrow, hb⟩; obtain ⟨va, vcap, rfl⟩ := ownsRow_slice hrow; have HL := hide (longest_ones hl); clear hl))
  go_ret
  exact ⟨ret_int (by rw [HL.out]), hb0.trans (hb.mono hb0.size)⟩
end Go.Proofs.Ytaaifcpanflejaa.Wn
namespace Go.Proofs.Ytaaifcpanflejaa.Wn
open Go Go.RowKit
section
variable {P : Program} (w : World)

theorem run_append_own_src (base : Nat) (t tx ty e : TypeId) (i : TypeInfo) (z : Value) (size bytes : Nat) (ht : P.underlying t = some (.slice e)) (hi : P.info? e = some i) (hz : i.zero = some z)
    (hsize : i.size = size) (hby : i.bytes = bytes) (hzs : z.cells.size = size)
    (v : Value) (n : Nat) (xs : List Value) (hown : w.ownsRow base e size v n xs)
    (x : Value) (m : Nat) (news : List Value) (hs : Src P size tx x m news w)
    (h63 : n + m ≤ maxLen) (hbytes : (n + m) * bytes ≤ 140737488355328) (hbase : base ≤ w.heap.size) :
    ∃ v' w', (Builtin.append_ #[t, tx] ty #[v, x]).run P w = .ok v' w' ∧ w'.ownsRow base e size v' (n + m) (xs ++ news) ∧ w.grownBy w' v.ownBlock := by
  subst hsize
  subst hby
  have hl := hs.newsLen
  have hlen : (xs ++ news).length = (n + m) * i.size := by rw [List.length_append, hown.1, hl, Nat.add_mul]
  have grown : ∀ (old : Nat), old < n + m → ∀ (row : Option Nat),
      (w.drew.alloc (.cells ((xs ++ news).toArray ++ Builtin.zeroCells z.cells (grownCap w (n + m) old e - (n + m))) e)).ownsRow base e i.size
        (.slice (some ⟨w.heap.size, 0, none⟩) (n + m) (grownCap w (n + m) old e)) (n + m) (xs ++ news) ∧
      w.grownBy (w.drew.alloc (.cells ((xs ++ news).toArray ++ Builtin.zeroCells z.cells (grownCap w (n + m) old e - (n + m))) e)) row := by
    intro old ho row
    have hge := grownCap_ge w (n + m) old e
    have hcm : grownCap w (n + m) old e ≤ maxLen := grownCap_le_maxLen w (n + m) old e h63
    refine ⟨⟨hlen, .inr ⟨w.heap.size, _, _, rfl, hbase, heap_alloc_new w.drew _, hge, hcm, ?_, ?_⟩⟩, ⟨rfl, rfl, rfl, by simp, fun k hk _ => Below.heap_alloc w.drew _ k hk⟩⟩
    · simp only [Array.size_append, List.size_toArray, size_zeroCells, hzs, hlen, ← Nat.add_mul]
      congr 1
      omega
    · simp only [Array.toList_append]
      rw [← hlen]
      exact List.take_left
  have h63' : ((n + m : Nat) : Int) ≤ 9223372036854775807 := by simp only [maxLen] at h63; omega
  rcases hown.2 with ⟨rfl, rfl⟩ | ⟨g, cap, cur, rfl, hbg, hg, hnc, hcm, hcs, htake⟩
  · have hx : xs = [] := List.eq_nil_of_length_eq_zero (by simpa using hown.1)
    subst hx
    by_cases hm : m = 0
    · subst hm
      have hn : news = [] := List.eq_nil_of_length_eq_zero (by simpa using hl)
      subst hn
      refine ⟨.slice none 0 0, w, ?_, World.ownsRow_nil w base e i.size, ⟨rfl, rfl, rfl, Nat.le_refl _, fun _ _ _ => rfl⟩⟩
      have hc := hs.cells
      rcases hs.kind with ⟨e', hk⟩ | hk <;> simp [Builtin.append_, run_underlying ht, run_underlying hk, sizeOf, typeInfo, hi, hs.len, hc]
    · have hr := run_append_grow_src (P := P) w t tx ty e i z ht hi hz none 0 0 [] (run_firstCells_none w.drew i.size 0 0 0) x m news hs (by omega) (by simpa using h63') (growslice_fits (by omega) (by simpa using hbytes))
      have hgr := grown 0 (by omega) (Value.ownBlock (.slice none 0 0))
      exact ⟨_, _, hr, hgr.1, hgr.2⟩
  · by_cases hroom : n + m ≤ cap
    · have hfit : n * i.size + news.length ≤ cur.size := by rw [hl, hcs, ← Nat.add_mul]; exact Nat.mul_le_mul_right _ hroom
      have hst := run_storeCells_at P g (n * i.size) e news 0 cur w hg (by simpa using hfit) hs.one
      simp only [Nat.add_zero] at hst
      have hr : (Builtin.append_ #[t, tx] ty #[.slice (some ⟨g, 0, none⟩) n cap, x]).run P w = .ok (.slice (some ⟨g, 0, none⟩) (n + m) cap) (w.setRow g (cur.toList.take (n * i.size) ++ news ++ cur.toList.drop (n * i.size + news.length)).toArray) := by
        rcases hs.kind with ⟨e', hk⟩ | hk <;> simp [Builtin.append_, run_underlying ht, run_underlying hk, sizeOf, typeInfo, hi, hs.len, hroom, hs.cells, Addr.add_lit, hst]
      refine ⟨_, _, hr, ⟨hlen, .inr ⟨g, cap, _, rfl, hbg, setRow_heap w g cur _ e _ hg, hroom, hcm, ?_, ?_⟩⟩, ⟨rfl, rfl, rfl, by simp, fun k _ hk => setRow_other w g k _ (fun e => hk (by simp [Value.ownBlock, e]))⟩⟩
      · simp only [List.size_toArray, List.length_append, List.length_take, List.length_drop, Array.length_toList]
        omega
      · rw [htake, ← hlen]
        exact List.take_left
    · have holds : ∀ j u, xs[j]? = some u → w.cell? ((⟨g, 0, none⟩ : Addr).add j) = some u := hown.cells (g := g) rfl
      have hr := run_append_grow_src (P := P) w t tx ty e i z ht hi hz (some ⟨g, 0, none⟩) n cap xs (run_firstCells_some w.drew i.size n ⟨g, 0, none⟩ n cap xs hown.1 (by simpa using holds)) x m news hs (by omega) h63' (growslice_fits (by omega) hbytes)
      have hgr := grown cap (by omega) (Value.ownBlock (.slice (some ⟨g, 0, none⟩) n cap))
      exact ⟨_, _, hr, hgr.1, hgr.2⟩

theorem wpList_append_own_src {ops : Array Oper} {rest : List Oper} {o : Oper} {a : Act} {Q : Exit → Act → World → Prop} (hgd : o.guard = none) (s x : Operand) (t tx : TypeId)
    (ho : o.op = .call { callee := .builtin .append, args := #[s, x], argTypes := #[t, tx] })
    (base : Nat) (e : TypeId) (i : TypeInfo) (z : Value) (size bytes : Nat) (ht : P.underlying t = some (.slice e)) (hi : P.info? e = some i) (hz : i.zero = some z)
    (hsize : i.size = size) (hby : i.bytes = bytes) (hzs : z.cells.size = size)
    (v : Value) (n : Nat) (xs : List Value) (hv : a.eval s = v) (hown : w.ownsRow base e size v n xs)
    (xv : Value) (m : Nat) (news : List Value) (hx : a.eval x = xv) (hs : Src P size tx xv m news w)
    (h63 : n + m ≤ maxLen) (hbytes : (n + m) * bytes ≤ 140737488355328) (hbase : base ≤ w.heap.size)
    (h : ∀ v' w', w'.ownsRow base e size v' (n + m) (xs ++ news) → w.grownBy w' v.ownBlock → wpList P ops Q rest (a.put o.dst v') w') : wpList P ops Q (o :: rest) a w := by
  refine wpList_plain hgd fun K hK => ?_
  obtain ⟨v', w', hr, h2, h3⟩ := run_append_own_src (P := P) w base t tx o.type e i z size bytes ht hi hz hsize hby hzs v n xs hown xv m news hs h63 hbytes hbase
  unfold Oper.wp execOp
  simp only [ho, resolve, invoke, builtin, Sem.run_bind, Sem.run_pure, Result.andThen_ok, List.map_toArray, List.map_cons, List.map_nil, hv, hx, hr]
  exact hK _ _ (h v' w' h2 h3)
end
end Go.Proofs.Ytaaifcpanflejaa.Wn
namespace Go.Proofs.Ytaaifcpanflejaa.Wn
set_option maxRecDepth 100000
open Go.RowKit
theorem own_cell {w : World} {base : Nat} {e : TypeId} {g n cap : Nat} {ts : List Int} {p : Nat} {x : Int} (h : w.ownsRow base e 1 (.slice (some ⟨g, 0, none⟩) n cap) n (ts.map (Value.int .i64))) (hp : ts[p]? = some x) : w.cell? ⟨g, p, none⟩ = some (.int .i64 x) := by
  have := h.cells (g := g) rfl p (.int .i64 x) (by rw [List.getElem?_map, hp]; rfl)
  by_cases h0 : p = 0
  · rw [h0] at this ⊢; simpa [Addr.add] using this
  · simpa [Addr.add, h0] using this
theorem RowI.cellsAt {w : World} {x : Addr} {zs : List Int} (h : RowI w (some x) zs) : ∀ j u, (zs.map (Value.int .i64))[j]? = some u → w.cell? (x.add j) = some u := by
  intro j u hu
  obtain ⟨h1, rfl | ⟨b, off, hx, hb, hc⟩⟩ := h
  · simp at hu
  · simp only [Option.some.injEq] at hx
    subst hx
    rw [List.getElem?_map] at hu
    cases hz : zs[j]? with
    | none => simp [hz] at hu
    | some z =>
      simp [hz] at hu
      subst hu
      have hj : j < zs.length := (List.getElem?_eq_some_iff.1 hz).1
      have := hc j hj
      rw [hz] at this
      by_cases h0 : j = 0
      · subst h0; simpa [Addr.add] using this
      · simpa [Addr.add, h0] using this
theorem RowI.none_nil {w : World} {zs : List Int} (h : RowI w none zs) : zs = [] := by
  obtain ⟨h1, h | ⟨b, off, hx, hb, hc⟩⟩ := h
  · exact h
  · cases hx
theorem RowI.src {w : World} {a : Option Addr} {zs : List Int} (h : RowI w a zs) (cap : Nat) : Src Try.prog 1 28 (.slice a zs.length cap) zs.length (zs.map (Value.int .i64)) w := by
  cases a with
  | none => obtain rfl := h.none_nil; exact Src.ofNil w Try.underlying28 cap
  | some x =>
    refine Src.ofSlice w Try.underlying28 x zs.length cap _ (by simp) h.cellsAt (fun u hu => ?_)
    obtain ⟨z, _, rfl⟩ := List.mem_map.1 hu
    rfl
end Go.Proofs.Ytaaifcpanflejaa.Wn
namespace Go.Proofs.Ytaaifcpanflejaa.Wn
set_option maxRecDepth 100000
def goodW (B : Int) (m : Nat) : Bool := decide (1 ≤ B ∧ B ≤ 1099511627777) && !m.testBit 0 && decide (downN m (1099511627777 - B) = 0)
def setB (B : Int) (m : Nat) : Int := B + (onesN m : Int)
def setM (m : Nat) : Nat := downN m (onesN m : Int)
theorem down_shift (m : Nat) (n : Int) (h : 0 ≤ n) : downN m n = m >>> n.toNat := by
  unfold downN; split
  · rw [show n.toNat = 0 by omega]; rfl
  · rfl
theorem down_zero {m : Nat} (n : Int) (h : 0 ≤ n) : downN m n = 0 ↔ ∀ j, m.testBit j = true → (j : Int) < n := by
  rw [down_shift m n h, Nat.shiftRight_eq_div_pow]
  constructor
  · intro e j hj
    have hlt : m < 2 ^ n.toNat := by
      rcases Nat.div_eq_zero_iff.1 e with h' | h'
      · exact absurd h' (Nat.ne_of_gt (Nat.two_pow_pos _))
      · exact h'
    rcases Nat.lt_or_ge j n.toNat with h' | h'
    · omega
    · rw [Nat.testBit_lt_two_pow (Nat.lt_of_lt_of_le hlt (Nat.pow_le_pow_right (by omega) h'))] at hj; cases hj
  · intro H
    apply Nat.div_eq_of_lt
    apply Nat.lt_pow_two_of_testBit
    intro i hi
    cases hb : m.testBit i
    · rfl
    · have := H i hb; omega
theorem good_iff {B : Int} {m : Nat} : goodW B m = true ↔ (1 ≤ B ∧ B ≤ 1099511627777) ∧ m.testBit 0 = false ∧ ∀ j, m.testBit j = true → B + (j : Int) ≤ 1099511627776 := by
  unfold goodW
  rw [Bool.and_eq_true, Bool.and_eq_true, decide_eq_true_eq, decide_eq_true_eq, Bool.not_eq_true']
  constructor
  · rintro ⟨⟨h1, h2⟩, h3⟩
    exact ⟨h1, h2, fun j hj => by have := (down_zero _ (by omega)).1 h3 j hj; omega⟩
  · rintro ⟨h1, h2, h3⟩
    exact ⟨⟨h1, h2⟩, (down_zero _ (by omega)).2 fun j hj => by have := h3 j hj; omega⟩
theorem onesUp_ge (m : Nat) : ∀ f n, n ≤ onesUp m f n ∧ onesUp m f n ≤ n + f ∧ (∀ j, n ≤ j → j < onesUp m f n → m.testBit j = true) ∧ (onesUp m f n < n + f → m.testBit (onesUp m f n) = false) := by
  intro f
  induction f with
  | zero => intro n; unfold onesUp; exact ⟨Nat.le_refl _, Nat.le_refl _, fun j a b => absurd b (by omega), fun h => absurd h (by omega)⟩
  | succ f ih =>
    intro n
    unfold onesUp
    cases hb : m.testBit n
    · simp only [Bool.false_eq_true, if_false]
      exact ⟨Nat.le_refl _, by omega, fun j a b => absurd b (by omega), fun _ => hb⟩
    · simp only [if_true]
      obtain ⟨h1, h2, h3, h4⟩ := ih (n + 1)
      refine ⟨by omega, by omega, fun j a b => ?_, fun h => h4 (by omega)⟩
      rcases Nat.lt_or_eq_of_le a with h | rfl
      · exact h3 j h b
      · exact hb
theorem ones_le (m : Nat) : onesN m ≤ 64 := by have := (onesUp_ge m 64 0).2.1; unfold onesN; omega
theorem ones_set (m : Nat) {j : Nat} (h : j < onesN m) : m.testBit j = true := (onesUp_ge m 64 0).2.2.1 j (Nat.zero_le _) h
theorem ones_end (m : Nat) (h : onesN m < 64) : m.testBit (onesN m) = false := (onesUp_ge m 64 0).2.2.2 (by unfold onesN at h; omega)
theorem ones_zero (m : Nat) : onesN m = 0 ↔ m.testBit 0 = false := by
  constructor
  · intro h; have := ones_end m (by omega); rwa [h] at this
  · intro h
    rcases Nat.eq_zero_or_pos (onesN m) with h' | h'
    · exact h'
    · rw [ones_set m h'] at h; cases h
end Go.Proofs.Ytaaifcpanflejaa.Wn
namespace Go.Proofs.Ytaaifcpanflejaa.Wn
set_option maxRecDepth 100000
open Go Go.RowKit
section
variable {P : Program} {ops : Array Oper} {Q : Exit → Act → World → Prop}
def HeldS (P : Program) (ops : Array Oper) (Q : Exit → Act → World → Prop) (S : World → Prop) (fuel : Nat) (listed : Array Bool) (a : Act) (w : World) : Prop :=
  wpAnyH P .any ops (NoPanic Q) S fuel listed a w
theorem hs_begin {id : Nat} {S : World → Prop} {a : Act} {w : World} (n : Nat) (hn : ops.size = n) (hm : P.follows .mixedOrders = true) (h : HeldS P ops Q S n (Array.replicate n false) a w.drew) : (Code.region id ops true).wp P Q a w := by
  subst hn
  exact wp_region_noPanic (wp_region_held hm h)
theorem hs_take {i : Nat} {S : World → Prop} {oi : Oper} {d : Option Nat} {v : Value} {fuel : Nat} {listed : Array Bool} {a : Act} {w : World} (hi : ops[i]? = some oi)
    (hs : Region.noSelect ops = true) (hf : Region.free .any ops listed i = true) (hr : (Region.ready .any ops listed).contains i = true)
    (hw : Region.wanted oi (yielded ops a.tmps) = true) (hy : ∀ w', S w' → (execOp a.eval oi).run P w' = .ok (.value v) w') (hS : S w) (hdst : oi.dst = d)
    (h : HeldS P ops Q S fuel (listed.setIfInBounds i true) (a.put d v) w) : HeldS P ops Q S (fuel + 1) listed a w := by
  subst hdst
  exact wpAnyH_take hi hs hf hr (fun _ _ _ h => h) (Or.inl ⟨hw, hy⟩) hS h
theorem hs_skip {i : Nat} {S : World → Prop} {oi : Oper} {d : Option Nat} {fuel : Nat} {listed : Array Bool} {a : Act} {w : World} (hi : ops[i]? = some oi)
    (hs : Region.noSelect ops = true) (hf : Region.free .any ops listed i = true) (hr : (Region.ready .any ops listed).contains i = true)
    (hw : Region.wanted oi (yielded ops a.tmps) = false) (hS : S w) (hdst : oi.dst = d)
    (h : HeldS P ops Q S fuel (listed.setIfInBounds i true) (a.put d undef) w) : HeldS P ops Q S (fuel + 1) listed a w := by
  subst hdst
  exact wpAnyH_take hi hs hf hr (fun _ _ _ h => h) (Or.inr ⟨hw, rfl⟩) hS h
theorem hs_call {i : Nat} {S : World → Prop} {oi : Oper} {d : Option Nat} {f : FuncId} {args : Array Value} {fuel : Nat} {listed : Array Bool} {a : Act} {w : World} (hi : ops[i]? = some oi)
    (hr : Region.ready .any ops listed = [i]) (hw : Region.wanted oi (yielded ops a.tmps) = true) (hy : (execOp a.eval oi).run P w = .ok (.enter f args) w) (hdst : oi.dst = d)
    (h : Calls P f args w fun e w' => ∃ v, e = .returned v ∧ S w' ∧ HeldS P ops Q S fuel (listed.setIfInBounds i true) (a.put d v) w') : HeldS P ops Q S (fuel + 1) listed a w := by
  subst hdst
  refine wpAnyH_all hr (by simp) ?_
  intro j hj
  obtain rfl : j = i := by simpa using hj
  unfold wpOp
  simp only [hi, hw, if_true]
  left
  unfold Oper.wp
  rw [hy]
  refine h.mono ?_
  rintro e w' ⟨v, rfl, hb, hk⟩
  exact ⟨hb, hk⟩
/-- a store that comes up alone -/
theorem hs_store {i : Nat} {S : World → Prop} {oi : Oper} {fuel : Nat} {listed : Array Bool} {a : Act} {w w' : World} (hi : ops[i]? = some oi)
    (hr : Region.ready .any ops listed = [i]) (hw : Region.wanted oi (yielded ops a.tmps) = true) (hy : (execOp a.eval oi).run P w = .ok .skip w') (hdst : oi.dst = none)
    (hS : S w') (h : HeldS P ops Q S fuel (listed.setIfInBounds i true) a w') : HeldS P ops Q S (fuel + 1) listed a w := by
  refine wpAnyH_all hr (by simp) ?_
  intro j hj
  obtain rfl : j = i := by simpa using hj
  unfold wpOp
  simp only [hi, hw, if_true]
  left
  unfold Oper.wp
  rw [hy]
  refine ⟨hS, ?_⟩
  rw [hdst]
  exact h
theorem hs_done {S : World → Prop} {fuel : Nat} {listed : Array Bool} {a : Act} {w : World} (hr : Region.ready .any ops listed = []) (h : Q .normal a w) : HeldS P ops Q S fuel listed a w :=
  wpAnyH_done hr (NoPanic.normal h) fuel
end
end Go.Proofs.Ytaaifcpanflejaa.Wn
namespace Go.Proofs.Ytaaifcpanflejaa.Wn
set_option maxRecDepth 100000
open Go.RowKit
theorem range_below {w w' : World} {b o n : Nat} {cs : List Value} (h : w.rangeAt b o cs) (hb : Below n w w') (hn : b < n) : w'.rangeAt b o cs :=
  fun j u hu => (hb.cell (p := ⟨b, o + j, none⟩) hn).trans (h j u hu)
theorem there_below {w w' : World} {b o n m : Nat} (h : w.there b o m) (hb : Below n w w') (hn : b < n) : w'.there b o m :=
  fun j hj => ⟨by rw [hb.cell (p := ⟨b, o + j, none⟩) hn]; exact (h j hj).1, by rw [hb.frozen (p := ⟨b, o + j, none⟩) hn]; exact (h j hj).2⟩
theorem range_new (w : World) (arr : Array Value) (t : TypeId) : (w.alloc (.cells arr t)).rangeAt w.heap.size 0 arr.toList := fun j v hv => by
  rw [World.cell?_alloc_at _ _ _ _ rfl, Nat.zero_add]
  simpa using hv
theorem there_new (w : World) (arr : Array Value) (t : TypeId) : (w.alloc (.cells arr t)).there w.heap.size 0 arr.size := fun j hj => by
  refine ⟨?_, World.frozen?_alloc_at _ _ _ _ rfl⟩
  rw [World.cell?_alloc_at _ _ _ _ rfl, Nat.zero_add]
  simp [hj]
theorem below_sets {B b : Nat} {a : World} (hb : B ≤ b) : ∀ (vs : List Value) (o : Nat) (w : World), Below B a w → Below B a (w.setCells b o vs)
  | [], _, _, h => h
  | v :: r, o, _, h => below_sets hb r (o + 1) _ (h.setCell (p := ⟨b, o, none⟩) hb v)
theorem size_sets (b : Nat) : ∀ (vs : List Value) (o : Nat) (w : World), (w.setCells b o vs).heap.size = w.heap.size
  | [], _, _ => rfl
  | v :: r, o, _ => by rw [World.setCells, size_sets b r]; simp
theorem exec_load {P : Program} {o : Oper} {a : Act} {w : World} {ty : TypeId} {x : Operand} {b off : Nat} {v : Value} (ho : o.op = .load ty x) (hx : a.eval x = .pointer (some ⟨b, off, none⟩)) (hr : (loadVar ty ⟨b, off, none⟩).run P w = .ok v w) : (execOp a.eval o).run P w = .ok (.value v) w := by
  unfold execOp
  simp only [ho, hx, Instr.loadAt, Instr.sureAddr, Sem.run_bind, Sem.run_pure, Result.andThen_ok, hr]
theorem exec_store {P : Program} {o : Oper} {a : Act} {w w' : World} {ty : TypeId} {x y : Operand} {b off : Nat} {v : Value} (ho : o.op = .store ty x y) (hx : a.eval x = .pointer (some ⟨b, off, none⟩)) (hy : a.eval y = v) (hr : (storeVar ty ⟨b, off, none⟩ v).run P w = .ok () w') : (execOp a.eval o).run P w = .ok .skip w' := by
  unfold execOp
  simp only [ho, hx, hy, Instr.storeAt, Instr.sureAddr, Sem.run_bind, Sem.run_pure, Result.andThen_ok, hr]
abbrev winC (B m : Int) : List Value := [.int .i64 B, .int .u64 m]
abbrev winV (B m : Int) : Value := .agg #[.int .i64 B, .int .u64 m]
theorem infoW : (Try.prog.info? 57).map (·.size) = some 2 := by kernel_rfl
theorem win_load {w : World} {b : Nat} {B m : Int} (h : w.rangeAt b 0 (winC B m)) : (loadVar 57 ⟨b, 0, none⟩).run Try.prog w = .ok (winV B m) w :=
  run_loadVar_mid (P := Try.prog) w b 0 57 (winC B m) _ h Try.underlying57 rfl infoW
theorem win_store {w : World} {b : Nat} {B m : Int} (hT : w.there b 0 2) : (storeVar 57 ⟨b, 0, none⟩ (winV B m)).run Try.prog w = .ok () (w.setCells b 0 (winC B m)) :=
  run_storeVar_mid (P := Try.prog) w b 0 57 #[.int .i64 B, .int .u64 m] hT infoW (by simp [Value.oneCell'])
theorem win_set {w : World} {b : Nat} {B m : Int} (hT : w.there b 0 2) : (w.setCells b 0 (winC B m)).rangeAt b 0 (winC B m) :=
  World.rangeAt_setCells_same w b 0 (winC B m) (by simpa using hT)
theorem win_apart {w : World} {b c : Nat} {B m B' m' : Int} (h : w.rangeAt c 0 (winC B m)) (hne : c ≠ b) : (w.setCells b 0 (winC B' m')).rangeAt c 0 (winC B m) :=
  World.rangeAt_setCells_apart h b 0 _ (Or.inl hne)
/-- a boxed window, and new memory for the answer behind it -/
theorem two_box {w w1 : World} {B m : Int} (hb : Below ((w.alloc (.cells #[.int .i64 B, .int .u64 m] 57)).alloc (.cells #[.int .i64 0, .int .u64 0] 57)).heap.size ((w.alloc (.cells #[.int .i64 B, .int .u64 m] 57)).alloc (.cells #[.int .i64 0, .int .u64 0] 57)) w1) :
    w1.rangeAt w.heap.size 0 (winC B m) ∧ w1.there (w.heap.size + 1) 0 2 ∧ Below w.heap.size w w1 ∧ w.heap.size + 2 ≤ w1.heap.size := by
  have hs : (w.alloc (.cells #[.int .i64 B, .int .u64 m] 57)).heap.size = w.heap.size + 1 := World.size_alloc _ _
  have r1 := range_new w #[.int .i64 B, .int .u64 m] 57
  have b1 : Below w.heap.size w (w.alloc (.cells #[.int .i64 B, .int .u64 m] 57)) := (Below.refl _ _).alloc (Nat.le_refl _) _
  generalize w.alloc (.cells #[.int .i64 B, .int .u64 m] 57) = wa at *
  have hs2 : (wa.alloc (.cells #[.int .i64 0, .int .u64 0] 57)).heap.size = w.heap.size + 2 := by rw [World.size_alloc, hs]
  have t2 := there_new wa #[.int .i64 0, .int .u64 0] 57
  have b2 : Below wa.heap.size wa (wa.alloc (.cells #[.int .i64 0, .int .u64 0] 57)) := (Below.refl _ _).alloc (Nat.le_refl _) _
  have r2 := range_below r1 b2 (by omega)
  generalize wa.alloc (.cells #[.int .i64 0, .int .u64 0] 57) = wb at *
  rw [hs] at t2
  refine ⟨range_below r2 hb (by omega), there_below t2 hb (by omega), (b1.trans (b2.mono (by omega))).trans (hb.mono (by omega)), ?_⟩
  have := hb.size
  omega
/-- a boxed window -/
theorem one_box {w w1 : World} {B m : Int} (hb : Below (w.alloc (.cells #[.int .i64 B, .int .u64 m] 57)).heap.size (w.alloc (.cells #[.int .i64 B, .int .u64 m] 57)) w1) :
    w1.rangeAt w.heap.size 0 (winC B m) ∧ Below w.heap.size w w1 ∧ w.heap.size < w1.heap.size := by
  have hs : (w.alloc (.cells #[.int .i64 B, .int .u64 m] 57)).heap.size = w.heap.size + 1 := World.size_alloc _ _
  have r1 := range_new w #[.int .i64 B, .int .u64 m] 57
  have b1 : Below w.heap.size w (w.alloc (.cells #[.int .i64 B, .int .u64 m] 57)) := (Below.refl _ _).alloc (Nat.le_refl _) _
  generalize w.alloc (.cells #[.int .i64 B, .int .u64 m] 57) = wa at *
  refine ⟨range_below r1 hb (by omega), b1.trans (hb.mono (by omega)), ?_⟩
  have := hb.size
  omega
end Go.Proofs.Ytaaifcpanflejaa.Wn
namespace Go.Proofs.Ytaaifcpanflejaa.Wn
set_option maxRecDepth 100000
open Go.RowKit
theorem wrap_id (x : Int) (h0 : -9223372036854775808 ≤ x) (h1 : x ≤ 9223372036854775807) : IntKind.i64.wrap x = x := by
  rw [IntKind.wrap_i64]; omega
theorem natz (d : Nat) : (((d : Nat) : Int) == 0) = decide (d = 0) := by
  by_cases h : d = 0
  · subst h; rfl
  · have : ¬ ((d : Int) = 0) := by omega
    simp [h]
set_option maxHeartbeats 1000000 in
theorem settled_any (B : Int) (m : Nat) (hm : m < 2 ^ 64) (h0 : 0 ≤ B) (h1 : B ≤ 1099511627777) (w : World) : Calls Try.prog 62 #[winV B (m : Int)] w fun e w' => e = .returned (winV (setB B m) (setM m : Int)) ∧ Below w.heap.size w w' := by
  have c1 := ones_any m hm
  have c2 := down_any m hm (onesN m : Int)
  have hL := ones_le m
  have HB : Hid (B + (onesN m : Int) = setB B m) := rfl
  have HM : Hid (downN m (onesN m : Int) = setM m) := rfl
  rw [HM.out] at c2
  generalize setM m = m2 at *
  generalize onesN m = L at *
  clear hm HM
  go_enter Try.func62, Try.ntmps62
  go_wp2_with fail
  refine (c1 _).mono ?_
  rintro e w1 ⟨rfl, hb⟩
  clear c1
  obtain ⟨hA, hT, hB1, hz⟩ := two_box hb
  clear hb
  go_wp2_with fail
  obtain ⟨w8, hw8⟩ : ∃ w8, w1.drew = w8 := ⟨_, rfl⟩
  refine hs_begin (S := (fun W => W.rangeAt w.heap.size 0 (winC B (m : Int)))) 10 rfl (by kernel_rfl) ?_
  have hS : (w8).rangeAt w.heap.size 0 (winC B (m : Int)) := by rw [← hw8]; exact hA
  have hT8 : (w8).there (w.heap.size + 1) 0 2 := by rw [← hw8]; exact hT
  have hB8 : Below w.heap.size w w8 := by rw [← hw8]; exact (Below.drew hB1)
  rw [hw8]
  clear hA hT hB1
  refine hs_take (i := 0) (d := some 7) (v := ?_) rfl (by kernel_rfl) (by kernel_rfl) (by kernel_rfl) (by rfl) ?_ hS rfl ?_
  rotate_left
  · intro w' hw
    go_simp
    try with_reducible rfl
  simp only [Act.put, List.setIfInBounds_toArray, List.set_cons_zero, List.set_cons_succ]
  refine hs_take (i := 1) (d := some 8) (v := ?_) rfl (by kernel_rfl) (by kernel_rfl) (by kernel_rfl) (by rfl) ?_ hS rfl ?_
  rotate_left
  · intro w' hw
    have q0 : w'.cell? ⟨w.heap.size, 0, none⟩ = some (.int .i64 B) := hw 0 _ rfl; have q1 : w'.cell? ⟨w.heap.size, 1, none⟩ = some (.int .u64 (m : Int)) := hw 1 _ rfl
    go_simp
    try with_reducible rfl
  simp only [Act.put, List.setIfInBounds_toArray, List.set_cons_zero, List.set_cons_succ]
  refine hs_take (i := 2) (d := some 9) (v := ?_) rfl (by kernel_rfl) (by kernel_rfl) (by kernel_rfl) (by rfl) ?_ hS rfl ?_
  rotate_left
  · intro w' hw
    go_simp
    try with_reducible rfl
  simp only [Act.put, List.setIfInBounds_toArray, List.set_cons_zero, List.set_cons_succ]
  refine hs_take (i := 3) (d := some 10) (v := .int .i64 (B + (L : Int))) rfl (by kernel_rfl) (by kernel_rfl) (by kernel_rfl) (by rfl) (fun w' hw => by go_simp; exact wrap_id _ (by omega) (by omega)) hS rfl ?_
  simp only [Act.put, List.setIfInBounds_toArray, List.set_cons_zero, List.set_cons_succ]
  refine hs_take (i := 4) (d := some 11) (v := ?_) rfl (by kernel_rfl) (by kernel_rfl) (by kernel_rfl) (by rfl) ?_ hS rfl ?_
  rotate_left
  · intro w' hw
    go_simp
    try with_reducible rfl
  simp only [Act.put, List.setIfInBounds_toArray, List.set_cons_zero, List.set_cons_succ]
  refine hs_take (i := 5) (d := some 12) (v := ?_) rfl (by kernel_rfl) (by kernel_rfl) (by kernel_rfl) (by rfl) ?_ hS rfl ?_
  rotate_left
  · intro w' hw
    have q0 : w'.cell? ⟨w.heap.size, 0, none⟩ = some (.int .i64 B) := hw 0 _ rfl; have q1 : w'.cell? ⟨w.heap.size, 1, none⟩ = some (.int .u64 (m : Int)) := hw 1 _ rfl
    go_simp
    try with_reducible rfl
  simp only [Act.put, List.setIfInBounds_toArray, List.set_cons_zero, List.set_cons_succ]
  refine hs_take (i := 6) (d := some 13) (v := ?_) rfl (by kernel_rfl) (by kernel_rfl) (by kernel_rfl) (by rfl) ?_ hS rfl ?_
  rotate_left
  · intro w' hw
    go_simp
    try with_reducible rfl
  simp only [Act.put, List.setIfInBounds_toArray, List.set_cons_zero, List.set_cons_succ]
  refine hs_call (i := 7) (d := some 14) rfl (by kernel_rfl) (by rfl) (by go_simp; first | done | exact ⟨rfl, rfl⟩ | with_reducible rfl) rfl ?_
  refine (c2 w8).mono ?_
  rintro e' w9 ⟨rfl, hx⟩
  have hS : (fun W => W.rangeAt w.heap.size 0 (winC B (m : Int))) w9 := by rw [hx]; exact hS
  refine ⟨_, rfl, hS, ?_⟩
  simp only [Act.put, List.setIfInBounds_toArray, List.set_cons_zero, List.set_cons_succ]
  obtain rfl := hx.symm
  refine hs_take (i := 8) (d := some 15) (v := ?_) rfl (by kernel_rfl) (by kernel_rfl) (by kernel_rfl) (by rfl) ?_ hS rfl ?_
  rotate_left
  · intro w' hw
    go_simp
    try with_reducible rfl
  simp only [Act.put, List.setIfInBounds_toArray, List.set_cons_zero, List.set_cons_succ]
  have hk : (w8.setCells (w.heap.size + 1) 0 (winC (B + (L : Int)) (m2 : Int))).rangeAt w.heap.size 0 (winC B (m : Int)) := win_apart hS (by omega)
  refine hs_store (i := 9) (w' := w8.setCells (w.heap.size + 1) 0 (winC (B + (L : Int)) (m2 : Int))) rfl (by kernel_rfl) (by rfl) (exec_store rfl rfl rfl (win_store hT8)) rfl hk ?_
  refine hs_done (by kernel_rfl) ?_
  have hrs := win_load (win_set (B := B + (L : Int)) (m := (m2 : Int)) hT8)
  go_wp2_with fail
  exact bodyPost_ret (v := winV (B + (L : Int)) (m2 : Int)) (by simp [results, Try.results62, asAddr, hrs]) rfl ⟨by rw [HB.out], below_sets (by omega) _ 0 _ hB8⟩
set_option maxHeartbeats 1000000 in
theorem good_any (B : Int) (m : Nat) (hm : m < 2 ^ 64) (w : World) : Calls Try.prog 49 #[winV B (m : Int)] w fun e w' => e = .returned (.bool (goodW B m)) ∧ Below w.heap.size w w' := by
  have hBx : Below w.heap.size w (w.alloc (.cells #[.int .i64 B, .int .u64 (m : Int)] 57)) := (Below.refl _ _).alloc (Nat.le_refl _) _
  by_cases h0 : B < 1
  · have HG : Hid (goodW B m = false) := by show _ = _; unfold goodW; rw [decide_eq_false (by omega)]; rfl
    rw [HG.out]
    clear hm HG
    go_enter Try.func49, Try.ntmps49
    go_wp2_with fail
    go_ret
    exact ⟨rfl, hBx⟩
  · by_cases h1 : 1099511627777 < B
    · have HG : Hid (goodW B m = false) := by show _ = _; unfold goodW; rw [decide_eq_false (by omega)]; rfl
      rw [HG.out]
      clear hm HG
      go_enter Try.func49, Try.ntmps49
      go_wp2_with fail
      go_ret
      exact ⟨rfl, hBx⟩
    · have c1 := settled_any B m hm (by omega) (by omega)
      have c2 := down_any m hm (1099511627777 - B)
      have HG : Hid (goodW B m = (!m.testBit 0 && decide (downN m (1099511627777 - B) = 0))) := by show _ = _; unfold goodW; rw [decide_eq_true (by omega)]; rfl
      rw [HG.out]
      obtain ⟨hA, _, hz⟩ := one_box (Below.refl (w.alloc (.cells #[.int .i64 B, .int .u64 (m : Int)] 57)).heap.size _)
      cases hb : m.testBit 0
      · have e0 : onesN m = 0 := (ones_zero m).2 hb
        have e1 : setB B m = B := by unfold setB; rw [e0]; simp
        have e2 : setM m = m := by unfold setM; rw [e0]; rfl
        rw [e1, e2] at c1
        generalize downN m (1099511627777 - B) = d at *
        clear e0 e1 e2 hb hm HG
        go_enter Try.func49, Try.ntmps49
        go_wp2_with fail
        obtain ⟨w1, hw1⟩ : ∃ w1, w.alloc (.cells #[.int .i64 B, .int .u64 (m : Int)] 57) = w1 := ⟨_, rfl⟩
        rw [hw1] at hA hz hBx ⊢
        clear hw1
        obtain ⟨w8, hw8⟩ : ∃ w8, w1.drew = w8 := ⟨_, rfl⟩
        refine hs_begin (S := (fun W => W.rangeAt w.heap.size 0 (winC B (m : Int)))) 14 rfl (by kernel_rfl) ?_
        have hS : (w8).rangeAt w.heap.size 0 (winC B (m : Int)) := by rw [← hw8]; exact hA
        have hB8 : Below w.heap.size w w8 := by rw [← hw8]; exact (Below.drew hBx)
        have hz8 : w.heap.size < w8.heap.size := by rw [← hw8]; exact hz
        rw [hw8]
        clear hA hBx hz
        refine hs_take (i := 0) (d := some 11) (v := winV B (m : Int)) rfl (by kernel_rfl) (by kernel_rfl) (by kernel_rfl) (by rfl) (fun w' hw => exec_load rfl rfl (win_load hw)) hS rfl ?_
        simp only [Act.put, List.setIfInBounds_toArray, List.set_cons_zero, List.set_cons_succ]
        refine hs_take (i := 2) (d := some 13) (v := winV B (m : Int)) rfl (by kernel_rfl) (by kernel_rfl) (by kernel_rfl) (by rfl) (fun w' hw => exec_load rfl rfl (win_load hw)) hS rfl ?_
        simp only [Act.put, List.setIfInBounds_toArray, List.set_cons_zero, List.set_cons_succ]
        refine hs_call (i := 1) (d := some 12) rfl (by kernel_rfl) (by rfl) (by go_simp; first | done | exact ⟨rfl, rfl⟩ | with_reducible rfl) rfl ?_
        refine (c1 w8).mono ?_
        rintro e' w9 ⟨rfl, hw9⟩
        have hS : (fun W => W.rangeAt w.heap.size 0 (winC B (m : Int))) w9 := range_below hS hw9 hz8
        refine ⟨_, rfl, hS, ?_⟩
        simp only [Act.put, List.setIfInBounds_toArray, List.set_cons_zero, List.set_cons_succ]
        have hB9 := hB8.trans (hw9.mono hB8.size)
        clear c1
        refine hs_take (i := 3) (d := some 14) (v := .bool true) rfl (by kernel_rfl) (by kernel_rfl) (by kernel_rfl) (by rfl) (fun w' hw => by go_simp) hS rfl ?_
        simp only [Act.put, List.setIfInBounds_toArray, List.set_cons_zero, List.set_cons_succ]
        refine hs_take (i := 4) (d := some 15) (v := ?_) rfl (by kernel_rfl) (by kernel_rfl) (by kernel_rfl) (by rfl) ?_ hS rfl ?_
        rotate_left
        · intro w' hw
          go_simp
          try with_reducible rfl
        simp only [Act.put, List.setIfInBounds_toArray, List.set_cons_zero, List.set_cons_succ]
        refine hs_take (i := 5) (d := some 16) (v := ?_) rfl (by kernel_rfl) (by kernel_rfl) (by kernel_rfl) (by rfl) ?_ hS rfl ?_
        rotate_left
        · intro w' hw
          go_simp
          try with_reducible rfl
        simp only [Act.put, List.setIfInBounds_toArray, List.set_cons_zero, List.set_cons_succ]
        refine hs_take (i := 6) (d := some 17) (v := ?_) rfl (by kernel_rfl) (by kernel_rfl) (by kernel_rfl) (by rfl) ?_ hS rfl ?_
        rotate_left
        · intro w' hw
          have q0 : w'.cell? ⟨w.heap.size, 0, none⟩ = some (.int .i64 B) := hw 0 _ rfl; have q1 : w'.cell? ⟨w.heap.size, 1, none⟩ = some (.int .u64 (m : Int)) := hw 1 _ rfl
          go_simp
          try with_reducible rfl
        simp only [Act.put, List.setIfInBounds_toArray, List.set_cons_zero, List.set_cons_succ]
        refine hs_take (i := 7) (d := some 18) (v := ?_) rfl (by kernel_rfl) (by kernel_rfl) (by kernel_rfl) (by rfl) ?_ hS rfl ?_
        rotate_left
        · intro w' hw
          go_simp
          try with_reducible rfl
        simp only [Act.put, List.setIfInBounds_toArray, List.set_cons_zero, List.set_cons_succ]
        refine hs_take (i := 8) (d := some 19) (v := ?_) rfl (by kernel_rfl) (by kernel_rfl) (by kernel_rfl) (by rfl) ?_ hS rfl ?_
        rotate_left
        · intro w' hw
          have q0 : w'.cell? ⟨w.heap.size, 0, none⟩ = some (.int .i64 B) := hw 0 _ rfl; have q1 : w'.cell? ⟨w.heap.size, 1, none⟩ = some (.int .u64 (m : Int)) := hw 1 _ rfl
          go_simp
          try with_reducible rfl
        simp only [Act.put, List.setIfInBounds_toArray, List.set_cons_zero, List.set_cons_succ]
        refine hs_take (i := 9) (d := some 20) (v := .int .i64 (1099511627777 - B)) rfl (by kernel_rfl) (by kernel_rfl) (by kernel_rfl) (by rfl) (fun w' hw => by go_simp; exact wrap_id _ (by omega) (by omega)) hS rfl ?_
        simp only [Act.put, List.setIfInBounds_toArray, List.set_cons_zero, List.set_cons_succ]
        refine hs_call (i := 10) (d := some 21) rfl (by kernel_rfl) (by rfl) (by go_simp; first | done | exact ⟨rfl, rfl⟩ | with_reducible rfl) rfl ?_
        refine (c2 w9).mono ?_
        rintro e' w10 ⟨rfl, hx⟩
        have hS : (fun W => W.rangeAt w.heap.size 0 (winC B (m : Int))) w10 := by rw [hx]; exact hS
        refine ⟨_, rfl, hS, ?_⟩
        simp only [Act.put, List.setIfInBounds_toArray, List.set_cons_zero, List.set_cons_succ]
        obtain rfl := hx.symm
        refine hs_take (i := 11) (d := some 22) (v := ?_) rfl (by kernel_rfl) (by kernel_rfl) (by kernel_rfl) (by rfl) ?_ hS rfl ?_
        rotate_left
        · intro w' hw
          go_simp
          try with_reducible rfl
        simp only [Act.put, List.setIfInBounds_toArray, List.set_cons_zero, List.set_cons_succ]
        refine hs_take (i := 12) (d := some 23) (v := ?_) rfl (by kernel_rfl) (by kernel_rfl) (by kernel_rfl) (by rfl) ?_ hS rfl ?_
        rotate_left
        · intro w' hw
          go_simp
          try with_reducible rfl
        simp only [Act.put, List.setIfInBounds_toArray, List.set_cons_zero, List.set_cons_succ]
        refine hs_take (i := 13) (d := some 2) (v := ?_) rfl (by kernel_rfl) (by kernel_rfl) (by kernel_rfl) (by rfl) ?_ hS rfl ?_
        rotate_left
        · intro w' hw
          go_simp
          try with_reducible rfl
        simp only [Act.put, List.setIfInBounds_toArray, List.set_cons_zero, List.set_cons_succ]
        refine hs_done (by kernel_rfl) ?_
        go_wp2_with fail
        go_ret
        exact ⟨ret_bool (natz _), hB9⟩
      · have hne : setB B m ≠ B := by
          have : onesN m ≠ 0 := fun e => by rw [(ones_zero m).1 e] at hb; cases hb
          unfold setB; omega
        generalize setB B m = B2 at *
        generalize setM m = m2 at *
        clear c2 hm HG hb
        go_enter Try.func49, Try.ntmps49
        go_wp2_with fail
        obtain ⟨w1, hw1⟩ : ∃ w1, w.alloc (.cells #[.int .i64 B, .int .u64 (m : Int)] 57) = w1 := ⟨_, rfl⟩
        rw [hw1] at hA hz hBx ⊢
        clear hw1
        obtain ⟨w8, hw8⟩ : ∃ w8, w1.drew = w8 := ⟨_, rfl⟩
        refine hs_begin (S := (fun W => W.rangeAt w.heap.size 0 (winC B (m : Int)))) 14 rfl (by kernel_rfl) ?_
        have hS : (w8).rangeAt w.heap.size 0 (winC B (m : Int)) := by rw [← hw8]; exact hA
        have hB8 : Below w.heap.size w w8 := by rw [← hw8]; exact (Below.drew hBx)
        have hz8 : w.heap.size < w8.heap.size := by rw [← hw8]; exact hz
        rw [hw8]
        clear hA hBx hz
        refine hs_take (i := 0) (d := some 11) (v := winV B (m : Int)) rfl (by kernel_rfl) (by kernel_rfl) (by kernel_rfl) (by rfl) (fun w' hw => exec_load rfl rfl (win_load hw)) hS rfl ?_
        simp only [Act.put, List.setIfInBounds_toArray, List.set_cons_zero, List.set_cons_succ]
        refine hs_take (i := 2) (d := some 13) (v := winV B (m : Int)) rfl (by kernel_rfl) (by kernel_rfl) (by kernel_rfl) (by rfl) (fun w' hw => exec_load rfl rfl (win_load hw)) hS rfl ?_
        simp only [Act.put, List.setIfInBounds_toArray, List.set_cons_zero, List.set_cons_succ]
        refine hs_call (i := 1) (d := some 12) rfl (by kernel_rfl) (by rfl) (by go_simp; first | done | exact ⟨rfl, rfl⟩ | with_reducible rfl) rfl ?_
        refine (c1 w8).mono ?_
        rintro e' w9 ⟨rfl, hw9⟩
        have hS : (fun W => W.rangeAt w.heap.size 0 (winC B (m : Int))) w9 := range_below hS hw9 hz8
        refine ⟨_, rfl, hS, ?_⟩
        simp only [Act.put, List.setIfInBounds_toArray, List.set_cons_zero, List.set_cons_succ]
        have hB9 := hB8.trans (hw9.mono hB8.size)
        clear c1
        refine hs_take (i := 3) (d := some 14) (v := .bool false) rfl (by kernel_rfl) (by kernel_rfl) (by kernel_rfl) (by rfl) (fun w' hw => by go_simp; first | done | omega | simp [hne]) hS rfl ?_
        simp only [Act.put, List.setIfInBounds_toArray, List.set_cons_zero, List.set_cons_succ]
        refine hs_take (i := 4) (d := some 15) (v := ?_) rfl (by kernel_rfl) (by kernel_rfl) (by kernel_rfl) (by rfl) ?_ hS rfl ?_
        rotate_left
        · intro w' hw
          go_simp
          try with_reducible rfl
        simp only [Act.put, List.setIfInBounds_toArray, List.set_cons_zero, List.set_cons_succ]
        refine hs_skip (i := 5) (d := some 16) rfl (by kernel_rfl) (by kernel_rfl) (by kernel_rfl) (by rfl) hS rfl ?_
        simp only [Act.put, List.setIfInBounds_toArray, List.set_cons_zero, List.set_cons_succ]
        refine hs_skip (i := 6) (d := some 17) rfl (by kernel_rfl) (by kernel_rfl) (by kernel_rfl) (by rfl) hS rfl ?_
        simp only [Act.put, List.setIfInBounds_toArray, List.set_cons_zero, List.set_cons_succ]
        refine hs_skip (i := 7) (d := some 18) rfl (by kernel_rfl) (by kernel_rfl) (by kernel_rfl) (by rfl) hS rfl ?_
        simp only [Act.put, List.setIfInBounds_toArray, List.set_cons_zero, List.set_cons_succ]
        refine hs_skip (i := 8) (d := some 19) rfl (by kernel_rfl) (by kernel_rfl) (by kernel_rfl) (by rfl) hS rfl ?_
        simp only [Act.put, List.setIfInBounds_toArray, List.set_cons_zero, List.set_cons_succ]
        refine hs_skip (i := 9) (d := some 20) rfl (by kernel_rfl) (by kernel_rfl) (by kernel_rfl) (by rfl) hS rfl ?_
        simp only [Act.put, List.setIfInBounds_toArray, List.set_cons_zero, List.set_cons_succ]
        refine hs_skip (i := 10) (d := some 21) rfl (by kernel_rfl) (by kernel_rfl) (by kernel_rfl) (by rfl) hS rfl ?_
        simp only [Act.put, List.setIfInBounds_toArray, List.set_cons_zero, List.set_cons_succ]
        refine hs_skip (i := 11) (d := some 22) rfl (by kernel_rfl) (by kernel_rfl) (by kernel_rfl) (by rfl) hS rfl ?_
        simp only [Act.put, List.setIfInBounds_toArray, List.set_cons_zero, List.set_cons_succ]
        refine hs_take (i := 12) (d := some 23) (v := ?_) rfl (by kernel_rfl) (by kernel_rfl) (by kernel_rfl) (by rfl) ?_ hS rfl ?_
        rotate_left
        · intro w' hw
          go_simp
          try with_reducible rfl
        simp only [Act.put, List.setIfInBounds_toArray, List.set_cons_zero, List.set_cons_succ]
        refine hs_take (i := 13) (d := some 2) (v := ?_) rfl (by kernel_rfl) (by kernel_rfl) (by kernel_rfl) (by rfl) ?_ hS rfl ?_
        rotate_left
        · intro w' hw
          go_simp
          try with_reducible rfl
        simp only [Act.put, List.setIfInBounds_toArray, List.set_cons_zero, List.set_cons_succ]
        refine hs_done (by kernel_rfl) ?_
        go_wp2_with fail
        go_ret
        exact ⟨rfl, hB9⟩
end Go.Proofs.Ytaaifcpanflejaa.Wn
namespace Go.Proofs.Ytaaifcpanflejaa.Wn
set_option maxRecDepth 100000
open Go.RowKit
theorem there_set {w : World} {b o n : Nat} (h : w.there b o n) (p : Addr) (v : Value) : (w.setCell p v).there b o n := by
  intro j hj
  obtain ⟨h1, h2⟩ := h j hj
  refine ⟨?_, by rw [World.frozen?_setCell]; exact h2⟩
  by_cases e : (⟨b, o + j, none⟩ : Addr) = p
  · subst e
    obtain ⟨u, hu⟩ := Option.isSome_iff_exists.1 h1
    rw [World.cell?_setCell_same _ _ _ hu]; rfl
  · rw [World.cell?_setCell_other _ _ _ _ (fun q => e (by first | exact q | exact q.symm))]; exact h1
theorem two_cells (B m : Int) : (#[Value.int .i64 B, Value.int .u64 m].all fun x => x.oneCell') = true := by simp [Value.oneCell']
end Go.Proofs.Ytaaifcpanflejaa.Wn
namespace Go.Proofs.Ytaaifcpanflejaa.Wn
set_option maxRecDepth 100000
open Go.RowKit
theorem below_drewN {n : Nat} {a w : World} (h : Below n a w) (k : Nat) : Below n a (w.drewN k) := ⟨h.os, h.tape, h.output, h.size, h.block⟩
end Go.Proofs.Ytaaifcpanflejaa.Wn
namespace Go.Proofs.Ytaaifcpanflejaa.Ld
structure Cfg where
  n : Int
  cl : Int
  wi : Int
  bu : Int
  ca : Int
  sl : Int
  rq : Int
  ti : Int
  pe : Int
  la : Int
def goodB (n : Int) : Bool := decide (4 ≤ n ∧ n ≤ 64 ∧ n % 3 = 1)
theorem goodB_mk {n : Int} (h : 4 ≤ n ∧ n ≤ 64 ∧ n % 3 = 1) : goodB n = true := by simpa [goodB] using h
theorem goodB_no {n : Int} (h : ¬ (4 ≤ n ∧ n ≤ 64 ∧ n % 3 = 1)) : goodB n = false := by simpa [goodB] using h
def inB (x l m : Int) : Bool := decide (l ≤ x ∧ x ≤ m)
theorem inB_mk {x l m : Int} (h : l ≤ x ∧ x ≤ m) : inB x l m = true := by simpa [inB] using h
theorem inB_no {x l m : Int} (h : ¬ (l ≤ x ∧ x ≤ m)) : inB x l m = false := by simpa [inB] using h
def goodC (c : Cfg) : Bool := goodB c.n && inB c.cl 1 8 && inB c.wi 1 64 && inB c.bu 1 c.n && inB c.ca 1 16 && inB c.sl 1 4 && inB c.rq 1 4 && inB c.ti 12 64 && inB c.pe 0 8 && inB c.la 1 1048576
def errC (c : Cfg) : Int := if goodC c then 0 else 110
end Go.Proofs.Ytaaifcpanflejaa.Ld
namespace Go.Proofs.Ytaaifcpanflejaa.Ld
open Go.RowKit
theorem hide {p : Prop} (h : p) : Hid p := h
theorem ret_bool {a b : Bool} (h : a = b) : Ending.returned (.bool a) = .returned (.bool b) := by rw [h]
theorem ret_int {k : IntKind} {a b : Int} (h : a = b) : Ending.returned (.int k a) = .returned (.int k b) := by rw [h]
theorem own : ownKnob Try.prog.godebug = none := by kernel_rfl
/-- A slice of integers that came in: it is nil; or it leads to a row of 'cap' cells, the numbers 'zs' (the first 'len' are its elements), each fitting its kind. -/
def IsRow (k : IntKind) (w : World) (a : Option Addr) (len cap : Nat) (zs : List Int) : Prop :=
  (a = none ∧ len = 0 ∧ cap = 0 ∧ zs = []) ∨
  ∃ x, a = some x ∧ len ≤ cap ∧ cap ≤ maxLen ∧ zs.length = cap ∧ (∀ i, i < zs.length → w.cell? (x.add i) = some (.int k (zs.getD i 0))) ∧ ∀ n ∈ zs, (Lit.int k n).wf = true
/-- a slice of ints -/
def RowI (w : World) (a : Option Addr) (zs : List Int) : Prop :=
  zs.length ≤ maxLen ∧ (zs = [] ∨ ∃ b off, a = some ⟨b, off, none⟩ ∧ b < w.heap.size ∧ ∀ j, j < zs.length → w.cell? ⟨b, off + j, none⟩ = some (.int .i64 (zs[j]?.getD 0)))
theorem RowI.below {w w' : World} {a : Option Addr} {zs : List Int} (h : RowI w a zs) (hb : Below w.heap.size w w') : RowI w' a zs := by
  refine ⟨h.1, ?_⟩
  rcases h.2 with h | ⟨b, off, rfl, h1, h2⟩
  · exact Or.inl h
  · exact Or.inr ⟨b, off, rfl, Nat.lt_of_lt_of_le h1 hb.size, fun j hj => (hb.cell (p := ⟨b, off + j, none⟩) h1).trans (h2 j hj)⟩
theorem block_lt {w : World} {a : Addr} {v : Value} (h : w.cell? a = some v) : a.block < w.heap.size := by
  rcases Nat.lt_or_ge a.block w.heap.size with h' | h'
  · exact h'
  · simp [World.cell?, h'] at h
theorem IsRow.cells {k : IntKind} {w : World} {a : Option Addr} {len cap : Nat} {zs : List Int} (h : IsRow k w a len cap zs) :
    len ≤ cap ∧ cap ≤ maxLen ∧ (zs.take len).length = len ∧ (∀ z ∈ zs.take len, (Lit.int k z).wf = true) ∧ (zs.take len = [] ∨ ∃ b off, a = some ⟨b, off, none⟩ ∧ b < w.heap.size ∧ ∀ j, j < (zs.take len).length → w.cell? ⟨b, off + j, none⟩ = some (.int k ((zs.take len)[j]?.getD 0))) := by
  rcases h with ⟨rfl, rfl, rfl, rfl⟩ | ⟨x, rfl, hl, hm, hz, hcell, hwz⟩
  · simp
  · refine ⟨hl, hm, by rw [List.length_take]; omega, fun z hz => hwz z (List.mem_of_mem_take hz), ?_⟩
    by_cases h0 : len = 0
    · left; simp [h0]
    · right
      obtain ⟨b, off, spot⟩ := x
      have hc := hcell 0 (by omega)
      have hspot : spot = none := by simpa [Addr.add] using World.cell?_spot hc
      subst hspot
      refine ⟨b, off, rfl, ?_, fun j hj => ?_⟩
      · have := block_lt hc; simpa [Addr.add] using this
      · rw [List.length_take] at hj
        have hcj := hcell j (by omega)
        have e1 : (zs.take len)[j]?.getD 0 = zs.getD j 0 := by
          rw [List.getD_eq_getElem?_getD, List.getElem?_take, if_pos (by omega)]
        rw [e1]
        by_cases hj0 : j = 0
        · subst hj0; simpa [Addr.add] using hcj
        · simpa [Addr.add, hj0] using hcj
end Go.Proofs.Ytaaifcpanflejaa.Ld
namespace Go.Proofs.Ytaaifcpanflejaa.Ld
set_option maxRecDepth 100000
open Go.RowKit
set_option maxHeartbeats 400000 in
theorem good_any (n : Int) (w : World) : Calls Try.prog 46 #[.int .i64 n] w fun e w' => e = .returned (.bool (goodB n)) ∧ w' = w := by
  by_cases h1 : 4 ≤ n
  · by_cases h2 : n ≤ 64
    · go_enter Try.func46, Try.ntmps46
      go_wp2
      go_ret
      refine ⟨ret_bool ?_, rfl⟩
      by_cases h3 : n % 3 = 1
      · rw [goodB_mk ⟨h1, h2, h3⟩]; simpa using h3
      · rw [goodB_no (by omega)]; simpa using h3
    · go_enter Try.func46, Try.ntmps46
      go_wp2
      go_ret
      exact ⟨ret_bool (by rw [goodB_no (by omega)]), rfl⟩
  · go_enter Try.func46, Try.ntmps46
    go_wp2
    go_ret
    exact ⟨ret_bool (by rw [goodB_no (by omega)]), rfl⟩
theorem within_any (x l m : Int) (w : World) : Calls Try.prog 47 #[.int .i64 x, .int .i64 l, .int .i64 m] w fun e w' => e = .returned (.bool (inB x l m)) ∧ w' = w := by
  by_cases h1 : l ≤ x
  · go_enter Try.func47, Try.ntmps47
    go_wp2
    go_ret
    refine ⟨ret_bool ?_, rfl⟩
    by_cases h2 : x ≤ m
    · rw [inB_mk ⟨h1, h2⟩]; simp [h2]
    · rw [inB_no (by omega)]; simp [h2]
  · go_enter Try.func47, Try.ntmps47
    go_wp2
    go_ret
    exact ⟨ret_bool (by rw [inB_no (by omega)]; try simp [h1]), rfl⟩
end Go.Proofs.Ytaaifcpanflejaa.Ld
namespace Go.Proofs.Ytaaifcpanflejaa.Ld
set_option maxRecDepth 100000
open Go.RowKit
theorem errC_fits {c : Cfg} {x : Int} {b : Bool} (h : goodC c = b) (hx : x = if b then 0 else 110) : errC c = x := by rw [errC, h, hx]
set_option maxRecDepth 100000 in
set_option maxHeartbeats 4000000 in
theorem lgood_any (c : Cfg) (w : World) : Calls Try.prog 26 #[(.agg #[.int .i64 c.n, .int .i64 c.cl, .int .i64 c.wi, .int .i64 c.bu, .int .i64 c.ca, .int .i64 c.sl, .int .i64 c.rq, .int .i64 c.ti, .int .i64 c.pe, .int .i64 c.la])] w fun e w' => e = .returned (.int .i64 (errC c)) ∧ Below w.heap.size w w' := by
  have hb : Below w.heap.size w (w.alloc (.cells #[.int .i64 c.n, .int .i64 c.cl, .int .i64 c.wi, .int .i64 c.bu, .int .i64 c.ca, .int .i64 c.sl, .int .i64 c.rq, .int .i64 c.ti, .int .i64 c.pe, .int .i64 c.la] 23)) := (Below.refl _ _).alloc (Nat.le_refl _) _
  have c1 := fun w => good_any c.n w
  have c2 := fun x l m w => within_any x l m w
  have HG : Hid (goodC c = (goodB c.n && inB c.cl 1 8 && inB c.wi 1 64 && inB c.bu 1 c.n && inB c.ca 1 16 && inB c.sl 1 4 && inB c.rq 1 4 && inB c.ti 12 64 && inB c.pe 0 8 && inB c.la 1 1048576)) := hide rfl
  generalize goodB c.n = g0 at *
  go_enter Try.func26, Try.ntmps26
  go_wp2_with (first | (go_at_call 46; refine (c1 _).mono ?_; rintro e w1 ⟨rfl, hx⟩; obtain rfl := hx.symm; clear hx) | (go_at_call 47; refine (c2 _ _ _ _).mono ?_; rintro e w1 ⟨rfl, hx⟩; obtain rfl := hx.symm; clear hx))
  all_goals go_ret
  all_goals refine ⟨ret_int ?_, hb⟩
  all_goals (symm; refine errC_fits HG.out ?_; simp_all)
end Go.Proofs.Ytaaifcpanflejaa.Ld
namespace Go.Proofs.Ytaaifcpanflejaa
open Go.RowKit
open Sha Tal
set_option linter.unusedVariables false
set_option linter.unusedSimpArgs false
def sameL {α : Type} (B : α → α → Bool) : List α → List α → Bool
  | [], [] => true
  | x :: xs, y :: ys => B x y && sameL B xs ys
  | _, _ => false
theorem sameL_iff {α : Type} {B : α → α → Bool} (h : ∀ x y, B x y = true ↔ x = y) : ∀ xs ys : List α, sameL B xs ys = true ↔ xs = ys
  | [], [] => by simp [sameL]
  | x :: xs, y :: ys => by simp [sameL, h, sameL_iff h xs ys]
  | [], _ :: _ => by simp [sameL]
  | _ :: _, [] => by simp [sameL]
/-- a slice and what lies in it -/
structure Sl (α : Type) where
  a : Option Addr
  cap : Nat
  xs : List α
instance {α : Type} : Inhabited (Sl α) := ⟨⟨none, 0, []⟩⟩
theorem two_boxG (q q' : List Value) (t : TypeId) (w : World) : ((w.alloc (.cells q.toArray t)).alloc (.cells q'.toArray t)).rangeAt w.heap.size 0 q ∧ ((w.alloc (.cells q.toArray t)).alloc (.cells q'.toArray t)).rangeAt (w.heap.size + 1) 0 q' ∧ Below w.heap.size w ((w.alloc (.cells q.toArray t)).alloc (.cells q'.toArray t)) ∧ w.heap.size + 2 ≤ ((w.alloc (.cells q.toArray t)).alloc (.cells q'.toArray t)).heap.size := by
  have hB : Below w.heap.size w (w.alloc (.cells q.toArray t)) := (Below.refl _ _).alloc (Nat.le_refl _) _
  have hB2 : Below (w.alloc (.cells q.toArray t)).heap.size (w.alloc (.cells q.toArray t)) ((w.alloc (.cells q.toArray t)).alloc (.cells q'.toArray t)) := (Below.refl _ _).alloc (Nat.le_refl _) _
  have h1 := range_new w q.toArray t
  have h2 := range_new (w.alloc (.cells q.toArray t)) q'.toArray t
  rw [World.size_alloc] at h2
  exact ⟨range_below (by simpa using h1) hB2 (by simp), by simpa using h2, hB.trans (hB2.mono (by simp)), by simp⟩
def Sl.val {α : Type} (x : Sl α) : Value := .slice x.a x.xs.length x.cap
def Sl.At {α : Type} (E : El α) (w : World) (x : Sl α) : Prop := RowsAt E w x.a x.xs
theorem Sl.At.below {α : Type} {E : El α} {w w' : World} {x : Sl α} (h : x.At E w) (hb : Below w.heap.size w w') : x.At E w' := RowsAt.below h hb
theorem Sl.one {α : Type} (x : Sl α) : x.val.oneCell' = true := rfl
theorem exec_load {P : Program} {o : Oper} {a : Act} {w : World} {ty : TypeId} {x : Operand} {b off : Nat} {v : Value} (ho : o.op = .load ty x) (hx : a.eval x = .pointer (some ⟨b, off, none⟩)) (hr : (loadVar ty ⟨b, off, none⟩).run P w = .ok v w) : (execOp a.eval o).run P w = .ok (.value v) w := by
  unfold execOp
  simp only [ho, hx, Instr.loadAt, Instr.sureAddr, Sem.run_bind, Sem.run_pure, Result.andThen_ok, hr]
theorem exec_store {P : Program} {o : Oper} {a : Act} {w w' : World} {ty : TypeId} {x y : Operand} {b off : Nat} {v : Value} (ho : o.op = .store ty x y) (hx : a.eval x = .pointer (some ⟨b, off, none⟩)) (hy : a.eval y = v) (hr : (storeVar ty ⟨b, off, none⟩ v).run P w = .ok () w') : (execOp a.eval o).run P w = .ok .skip w' := by
  unfold execOp
  simp only [ho, hx, hy, Instr.storeAt, Instr.sureAddr, Sem.run_bind, Sem.run_pure, Result.andThen_ok, hr]
theorem ex_mid {P : Program} {op : Oper} {a : Act} {ty : TypeId} {x : Operand} (ho : op.op = .load ty x) {b o : Nat} (hx : a.eval x = .pointer (some ⟨b, o, none⟩)) {cs : List Value} {d : TypeDesc} {w : World} (hr : w.rangeAt b o cs) (hu : P.underlying ty = some d) (hd : d.isRow = true) (hi : (P.info? ty).map (·.size) = some cs.length) : (execOp a.eval op).run P w = .ok (.value (.agg cs.toArray)) w :=
  exec_load ho hx (run_loadVar_mid w b o ty cs d hr hu hd hi)
theorem ex_put {P : Program} {o : Oper} {a : Act} {w : World} {ty : TypeId} {x y : Operand} {b off : Nat} {cs : Array Value} (ho : o.op = .store ty x y) (hx : a.eval x = .pointer (some ⟨b, off, none⟩)) (hy : a.eval y = .agg cs) (ht : w.there b off cs.size) (hi : (P.info? ty).map (·.size) = some cs.size) (h1 : cs.all (·.oneCell') = true) : (execOp a.eval o).run P w = .ok .skip (w.setCells b off cs.toList) :=
  exec_store ho hx hy (run_storeVar_mid w b off ty cs ht hi h1)
theorem ex_alloc {P : Program} {o : Oper} {a : Act} {w : World} {t : TypeId} {z : Value} (ho : o.op = .alloc t) (hz : (zeroValue t).run P w = .ok z w) : (execOp a.eval o).run P w = .ok (.value (.pointer (some ⟨w.heap.size, 0, none⟩))) (w.alloc (.cells z.cells t)) := by
  unfold execOp
  simp [ho, hz, Instr.alloc, newVar, newRow]
section
variable {P : Program} {ops : Array Oper} {Q : Exit → Act → World → Prop}
theorem pl_store {o : Oper} {rest : List Oper} {a : Act} {w w' : World} (hw : Region.wanted o (yielded ops a.tmps) = true) (hy : (execOp a.eval o).run P w = .ok .skip w') (hd : o.dst = none)
    (h : Pl P ops Q rest a w') : Pl P ops Q (o :: rest) a w := by
  refine ⟨wpList_step fun K hK => ?_⟩
  rw [if_pos hw]
  unfold Oper.wp
  rw [hy, Oper.upon_skip, hd]
  exact hK _ _ h.out
end
theorem there_newN (w : World) (arr : Array Value) (t : TypeId) {n : Nat} (h : arr.size = n) : (w.alloc (.cells arr t)).there w.heap.size 0 n := h ▸ there_new w arr t
/-- a struct that is boxed -/
theorem boxed_new (w : World) (q : List Value) (t : TypeId) : Below w.heap.size w (w.alloc (.cells q.toArray t)) ∧ (w.alloc (.cells q.toArray t)).rangeAt w.heap.size 0 q ∧ w.heap.size < (w.alloc (.cells q.toArray t)).heap.size :=
  ⟨(Below.refl _ _).alloc (Nat.le_refl _) _, by simpa using range_new w q.toArray t, by simp⟩
theorem ex_boxR {P : Program} {o : Oper} {a : Act} {w : World} {t : TypeId} {x : Operand} {u : Array Value} (ho : o.op = .box t x) (hx : a.eval x = .agg u) : (execOp a.eval o).run P w = .ok (.value (.pointer (some ⟨w.heap.size, 0, none⟩))) (w.alloc (.cells u t)) := by
  unfold execOp
  simp [ho, hx, Instr.box, newVar, newRow, Value.cells]
/-- a window -/
structure Wd where
  b : Int
  m : Nat
instance : Inhabited Wd := ⟨⟨0, 0⟩⟩
def Wd.cells (x : Wd) : List Value := [.int .i64 x.b, .int .u64 (x.m : Int)]
structure Wd.ok (x : Wd) : Prop where
  lo : -9223372036854775808 ≤ x.b
  hi : x.b ≤ 9223372036854775807
  ml : x.m < 2 ^ 64
def WdE : El Wd where
  f := Wd.cells
  k := 2
  ok := Wd.ok
  len := fun _ _ => rfl
  one := fun y v hv => by
    simp only [Wd.cells, List.mem_cons, List.not_mem_nil, or_false] at hv
    rcases hv with rfl | rfl <;> rfl
structure PnOk (z : Int) : Prop where
  lo : -9223372036854775808 ≤ z
  hi : z ≤ 9223372036854775807
def PnE : El Int where
  f := fun z => [.int .i64 z]
  k := 1
  ok := PnOk
  len := fun _ _ => rfl
  one := fun y v hv => by
    simp only [List.mem_cons, List.not_mem_nil, or_false] at hv
    subst hv
    rfl
def Wd.good (x : Wd) : Bool := Wn.goodW x.b x.m
def pnGood (z : Int) : Bool := decide (0 ≤ z ∧ z ≤ 1048592)
theorem Wd.val_eq (x : Wd) : Value.agg x.cells.toArray = Wn.winV x.b (x.m : Int) := rfl
theorem iszW : (Try.prog.info? 57).map (·.size) = some 2 := by kernel_rfl
theorem fldW : (Try.prog.fieldsOf 57).toList.map (fun f => (f.name, f.type, f.offset)) = [("Base", 3, 0), ("Bits", 55, 1)] := by kernel_rfl
theorem undW : Try.prog.underlying 57 = some (.struct (Try.prog.fieldsOf 57)) := by kernel_rfl
theorem sihW : Try.prog.stoodInHeld 57 = false := by kernel_rfl
def Wd.B (x y : Wd) : Bool := (x.b == y.b) && (((x.m : Int)) == ((y.m : Int)))
theorem Wd.B_iff {x y : Wd} : Wd.B x y = true ↔ x = y := by
  cases x
  cases y
  simp [Wd.B]
  intro _
  omega
theorem part_intV1 (w : World) (q : List Value) (i : Nat) (c : Int) (h : q[i]? = some (.int .i64 c)) : (part 3 q.toArray i).run Try.prog w = .ok (.int .i64 c) w := by
  simp [part, isAgg, run_underlying Try.underlying3, h]
theorem part_u64V (w : World) (q : List Value) (i : Nat) (c : Int) (h : q[i]? = some (.int .u64 c)) : (part 55 q.toArray i).run Try.prog w = .ok (.int .u64 c) w := by
  simp [part, isAgg, run_underlying Try.underlying55, h]
theorem Wd.eqIn (x y : Wd) (d : Nat) (w : World) :
    (Op.equalIn (d + 2 + 1) 57 (.agg x.cells.toArray) (.agg y.cells.toArray)).run Try.prog w = .ok (Wd.B x y) w := by
  rw [run_equalIn_struct w (d + 2) 57 _ _ undW sihW]
  have hf := fldW
  generalize (Try.prog.fieldsOf 57).toList = fs at hf
  obtain ⟨f0, f1, rfl⟩ : ∃ f0 f1, fs = [f0, f1] := by
    rcases fs with _ | ⟨f0, _ | ⟨f1, _ | ⟨f2, fs⟩⟩⟩ <;> simp at hf
    exact ⟨f0, f1, rfl⟩
  simp only [List.map_cons, List.map_nil, List.cons.injEq, Prod.mk.injEq, and_true] at hf
  obtain ⟨⟨a0, b0, d0⟩, ⟨a1, b1, d1⟩⟩ := hf
  have p0 := part_intV1 w x.cells 0 x.b rfl
  have q0 := part_intV1 w y.cells 0 y.b rfl
  have p1 := part_u64V w x.cells 1 x.m rfl
  have q1 := part_u64V w y.cells 1 y.m rfl
  have eI := fun a b => run_equalIn_int (P := Try.prog) w (d + 1) 3 .i64 .i64 a b Try.underlying3
  have eU := fun a b => run_equalIn_int (P := Try.prog) w (d + 1) 55 .u64 .u64 a b Try.underlying55
  unfold Wd.B
  generalize x.cells.toArray = q at *
  generalize y.cells.toArray = q' at *
  obtain ⟨D, hD⟩ : ∃ D, d + 1 + 1 = D := ⟨_, rfl⟩
  have n0 : ¬ ("Base" = "_") := by decide
  have n1 : ¬ ("Bits" = "_") := by decide
  simp only [Op.eqFields, a0, b0, d0, a1, b1, d1, ne_eq, n0, n1, not_false_eq_true, if_true]
  rw [show d + 2 = d + 1 + 1 from rfl, hD]
  rw [hD] at eI eU
  clear hD
  simp only [Sem.run_bind, p0, q0, Result.andThen_ok, eI]
  cases (x.b == y.b)
  · simp only [Bool.not_false, if_true, Sem.run_pure, Bool.false_and]
  · simp only [Bool.not_true, Bool.false_eq_true, if_false, Sem.run_bind, p1, q1, Result.andThen_ok, eU, Bool.true_and]
    cases ((x.m : Int) == (y.m : Int))
    · simp only [Bool.not_false, if_true, Sem.run_pure]
    · simp only [Bool.not_true, Bool.false_eq_true, if_false, Sem.run_pure]
theorem Wd.eq10 (x y : Wd) (hx : x.ok) (hy : y.ok) (w : World) : (Op.equalIn 10000 57 (.agg x.cells.toArray) (.agg y.cells.toArray)).run Try.prog w = .ok (Wd.B x y) w := Wd.eqIn x y 9997 w
end Go.Proofs.Ytaaifcpanflejaa
namespace Go.Proofs.Ytaaifcpanflejaa
open Go.RowKit
open Sha Tal
set_option linter.unusedVariables false
set_option linter.unusedSimpArgs false
set_option maxRecDepth 100000 in
theorem wmay_any (x : Wd) (w : World) (h : x.ok) : Calls Try.prog 28 #[.agg x.cells.toArray] w fun e w' => e = .returned (.bool (!x.good)) ∧ Below w.heap.size w w' := by
  have c1 := Wn.good_any x.b x.m h.ml
  rw [Wd.val_eq]
  unfold Wd.good
  generalize Wn.goodW x.b x.m = g at *
  have hb := (Below.refl w.heap.size w).alloc (Nat.le_refl _) (.cells #[.int .i64 x.b, .int .u64 (x.m : Int)] 57)
  unfold Wn.winV at *
  clear h
  go_enter Try.func28, Try.ntmps28
  go_wp2_with fail
  refine (c1 _).mono ?_
  rintro e1 w1 ⟨rfl, hb1⟩
  have hB := hb.trans (hb1.mono hb.size)
  clear c1 hb hb1
  cases g
  · go_wp2
    go_ret
    exact ⟨rfl, hB⟩
  · go_wp2
    go_ret
    exact ⟨rfl, hB⟩
set_option maxRecDepth 100000 in
theorem pmay_any (z : Int) (w : World) : Calls Try.prog 30 #[.int .i64 z] w fun e w' => e = .returned (.bool (!pnGood z)) ∧ Below w.heap.size w w' := by
  unfold pnGood
  obtain ⟨g, hg⟩ : ∃ g, Hid (decide (0 ≤ z ∧ z ≤ 1048592) = g) := ⟨_, hide rfl⟩
  rw [hg.out]
  by_cases h0 : z < 0
  · obtain rfl : g = false := hg.out.symm.trans (decide_eq_false (by omega))
    clear hg
    go_enter Try.func30, Try.ntmps30
    go_wp2
    go_ret
    exact ⟨rfl, Below.refl _ _⟩
  · by_cases h1 : 1048592 < z
    · obtain rfl : g = false := hg.out.symm.trans (decide_eq_false (by omega))
      clear hg
      go_enter Try.func30, Try.ntmps30
      go_wp2
      go_ret
      exact ⟨rfl, Below.refl _ _⟩
    · obtain rfl : g = true := hg.out.symm.trans (decide_eq_true (by omega))
      clear hg
      go_enter Try.func30, Try.ntmps30
      go_wp2
      go_ret
      exact ⟨rfl, Below.refl _ _⟩
set_option maxRecDepth 100000 in
set_option maxHeartbeats 2000000 in
theorem idxW_any (x : Sl Wd) (p : Wd → Bool) (w : World) (hx : x.At WdE w) (hp : ∀ y ∈ x.xs, ∀ w0, Below w.heap.size w w0 → Calls Try.prog 28 #[.agg y.cells.toArray] w0 fun e w' => e = .returned (.bool (p y)) ∧ Below w0.heap.size w0 w') :
    Calls Try.prog 48 #[x.val, .func (.func 28) #[] #[]] w fun e w' => ∃ r : Int, e = .returned (.int .i64 r) ∧ Hid (decide (0 ≤ r) = x.xs.any p) ∧ Below w.heap.size w w' := by
  obtain ⟨a, cap, xs⟩ := x
  have hml : xs.length ≤ maxLen := hx.1
  unfold maxLen at hml
  simp only [Sl.val]
  obtain ⟨sb, hsb⟩ : ∃ sb, Hid (xs.any p = sb) := ⟨_, hide rfl⟩
  rw [hsb.out]
  go_enter Try.func48, Try.ntmps48
  go_wp2
  go_loopw [8] (fun iv wr' => ∃ k : Nat, k ≤ xs.length ∧ iv = .int .i64 (k : Int) ∧ Hid (∀ j (hj : j < xs.length), j < k → p xs[j] = false) ∧ Below w.heap.size w wr') (fun iv _ => xs.length - (intOf iv).toNat)
  case atStart => exact ⟨0, by omega, rfl, hide (fun j _ hj => absurd hj (by omega)), Below.refl _ _⟩
  case round =>
    obtain ⟨k, hk, rfl, HM, hB⟩ := hrel
    by_cases hlt : k < xs.length
    · have k1 : (k : Int) < xs.length := by omega
      obtain ⟨b, off, rfl, hb, hre⟩ := RowsAt.elem (hx.below hB) k hlt
      have hre : wr.rangeAt b (off + k * 2) (WdE.f xs[k]) := hre
      have hpk := fun w0 h0 => hp xs[k] (List.getElem_mem hlt) w0 h0
      have HT : Hid (p xs[k] = false → ∀ j (hj : j < xs.length), j < k + 1 → p xs[j] = false) := hide (fun h j hj hjk => by
        by_cases e : j = k
        · subst e; exact h
        · exact HM.out j hj (by omega))
      have HF : Hid (p xs[k] = true → sb = true) := hide (fun h => by
        rw [← hsb.out]
        rw [List.any_eq_true]
        exact ⟨xs[k], List.getElem_mem hlt, h⟩)
      obtain ⟨gx, hX⟩ : ∃ g, Hid (xs[k] = g) := ⟨_, hide rfl⟩
      rw [hX.out] at hre hpk HT HF
      clear hX HM
      generalize p gx = pb at *
      have c7 := hpk wr hB
      clear hpk hp hsb hx
      have iu : (Try.prog.info? 57).map (·.size) = some (WdE.f gx).length := iszW
      have c7' : Calls Try.prog 28 #[.agg (WdE.f gx).toArray] wr _ := c7
      clear c7
      generalize WdE.f gx = u at *
      go_wp2_with (refine wpList_load_mid rfl 57 _ rfl _ _ rfl u _ hre Try.underlying57 rfl iu ?_)
      have c7 := c7'
      clear c7'
      refine c7.mono ?_
      rintro e8 w8 ⟨rfl, hb8⟩
      have hB8 := hB.trans (hb8.mono hB.size)
      clear c7 hb8 hre
      cases pb
      · have HT' := hide (HT.out rfl)
        clear HF HT
        go_wp2
        go_roundw
        case rel => exact ⟨k + 1, by omega, by go_num, HT', hB8⟩
        case measure => simp [intOf]; omega
      · have HF' := hide (HF.out rfl)
        clear HF HT
        go_wp2
        go_ret
        exact ⟨(k : Int), rfl, hide (by rw [HF'.out]; exact decide_eq_true (by omega)), hB8⟩
    · have k1 : ¬ (k : Int) < xs.length := by omega
      have HE : Hid (sb = false) := hide (by
        rw [← hsb.out]
        rw [List.any_eq_false]
        intro y hy
        obtain ⟨j, hj, rfl⟩ := List.mem_iff_getElem.1 hy
        rw [HM.out j hj (by omega)]
        simp)
      clear HM hsb hp hx
      go_wp2
      go_ret
      exact ⟨-1, rfl, hide (by rw [HE.out]; rfl), hB⟩
set_option maxRecDepth 100000 in
theorem contW_any (x : Sl Wd) (p : Wd → Bool) (w : World) (hx : x.At WdE w) (hp : ∀ y ∈ x.xs, ∀ w0, Below w.heap.size w w0 → Calls Try.prog 28 #[.agg y.cells.toArray] w0 fun e w' => e = .returned (.bool (p y)) ∧ Below w0.heap.size w0 w') :
    Calls Try.prog 27 #[x.val, .func (.func 28) #[] #[]] w fun e w' => e = .returned (.bool (x.xs.any p)) ∧ Below w.heap.size w w' := by
  have c1 := idxW_any x p w hx hp
  clear hx hp
  obtain ⟨sb, hsb⟩ : ∃ sb, Hid (x.xs.any p = sb) := ⟨_, hide rfl⟩
  rw [hsb.out] at c1 ⊢
  clear hsb
  obtain ⟨vx, hvx⟩ : ∃ v, x.val = v := ⟨_, rfl⟩
  rw [hvx] at c1 ⊢
  clear hvx
  go_enter Try.func27, Try.ntmps27
  go_wp2_with fail
  refine c1.mono ?_
  rintro e1 w1 ⟨r, rfl, hr, hb⟩
  by_cases h0 : 0 ≤ r
  · have hr' := hide (hr.out.symm.trans (decide_eq_true h0))
    clear hr c1
    go_wp2
    go_ret
    exact ⟨by rw [hr'.out]; rfl, hb⟩
  · have hr' := hide (hr.out.symm.trans (decide_eq_false h0))
    clear hr c1
    go_wp2
    go_ret
    exact ⟨by rw [hr'.out]; show Ending.returned (.bool (decide (0 ≤ r))) = _; rw [decide_eq_false (by omega)], hb⟩
set_option maxRecDepth 100000 in
set_option maxHeartbeats 2000000 in
theorem idxI_any (x : Sl Int) (p : Int → Bool) (w : World) (hx : x.At PnE w) (hp : ∀ y ∈ x.xs, ∀ w0, Below w.heap.size w w0 → Calls Try.prog 30 #[.int .i64 y] w0 fun e w' => e = .returned (.bool (p y)) ∧ Below w0.heap.size w0 w') :
    Calls Try.prog 50 #[x.val, .func (.func 30) #[] #[]] w fun e w' => ∃ r : Int, e = .returned (.int .i64 r) ∧ Hid (decide (0 ≤ r) = x.xs.any p) ∧ Below w.heap.size w w' := by
  obtain ⟨a, cap, xs⟩ := x
  have hml : xs.length ≤ maxLen := hx.1
  unfold maxLen at hml
  simp only [Sl.val]
  obtain ⟨sb, hsb⟩ : ∃ sb, Hid (xs.any p = sb) := ⟨_, hide rfl⟩
  rw [hsb.out]
  go_enter Try.func50, Try.ntmps50
  go_wp2
  go_loopw [8] (fun iv wr' => ∃ k : Nat, k ≤ xs.length ∧ iv = .int .i64 (k : Int) ∧ Hid (∀ j (hj : j < xs.length), j < k → p xs[j] = false) ∧ Below w.heap.size w wr') (fun iv _ => xs.length - (intOf iv).toNat)
  case atStart => exact ⟨0, by omega, rfl, hide (fun j _ hj => absurd hj (by omega)), Below.refl _ _⟩
  case round =>
    obtain ⟨k, hk, rfl, HM, hB⟩ := hrel
    by_cases hlt : k < xs.length
    · have k1 : (k : Int) < xs.length := by omega
      obtain ⟨b, off, rfl, hb, hre⟩ := RowsAt.elem (hx.below hB) k hlt
      have hre : wr.rangeAt b (off + k * 1) (PnE.f xs[k]) := hre
      have hpk := fun w0 h0 => hp xs[k] (List.getElem_mem hlt) w0 h0
      have HT : Hid (p xs[k] = false → ∀ j (hj : j < xs.length), j < k + 1 → p xs[j] = false) := hide (fun h j hj hjk => by
        by_cases e : j = k
        · subst e; exact h
        · exact HM.out j hj (by omega))
      have HF : Hid (p xs[k] = true → sb = true) := hide (fun h => by
        rw [← hsb.out]
        rw [List.any_eq_true]
        exact ⟨xs[k], List.getElem_mem hlt, h⟩)
      obtain ⟨gx, hX⟩ : ∃ g, Hid (xs[k] = g) := ⟨_, hide rfl⟩
      rw [hX.out] at hre hpk HT HF
      clear hX HM
      generalize p gx = pb at *
      have c7 := hpk wr hB
      clear hpk hp hsb hx
      have hre : wr.cell? ⟨b, off + k, none⟩ = some (.int .i64 gx) := by have := hre 0 _ rfl; simpa using this
      go_wp2_with fail
      refine c7.mono ?_
      rintro e8 w8 ⟨rfl, hb8⟩
      have hB8 := hB.trans (hb8.mono hB.size)
      clear c7 hb8 hre
      cases pb
      · have HT' := hide (HT.out rfl)
        clear HF HT
        go_wp2
        go_roundw
        case rel => exact ⟨k + 1, by omega, by go_num, HT', hB8⟩
        case measure => simp [intOf]; omega
      · have HF' := hide (HF.out rfl)
        clear HF HT
        go_wp2
        go_ret
        exact ⟨(k : Int), rfl, hide (by rw [HF'.out]; exact decide_eq_true (by omega)), hB8⟩
    · have k1 : ¬ (k : Int) < xs.length := by omega
      have HE : Hid (sb = false) := hide (by
        rw [← hsb.out]
        rw [List.any_eq_false]
        intro y hy
        obtain ⟨j, hj, rfl⟩ := List.mem_iff_getElem.1 hy
        rw [HM.out j hj (by omega)]
        simp)
      clear HM hsb hp hx
      go_wp2
      go_ret
      exact ⟨-1, rfl, hide (by rw [HE.out]; rfl), hB⟩
set_option maxRecDepth 100000 in
theorem contI_any (x : Sl Int) (p : Int → Bool) (w : World) (hx : x.At PnE w) (hp : ∀ y ∈ x.xs, ∀ w0, Below w.heap.size w w0 → Calls Try.prog 30 #[.int .i64 y] w0 fun e w' => e = .returned (.bool (p y)) ∧ Below w0.heap.size w0 w') :
    Calls Try.prog 29 #[x.val, .func (.func 30) #[] #[]] w fun e w' => e = .returned (.bool (x.xs.any p)) ∧ Below w.heap.size w w' := by
  have c1 := idxI_any x p w hx hp
  clear hx hp
  obtain ⟨sb, hsb⟩ : ∃ sb, Hid (x.xs.any p = sb) := ⟨_, hide rfl⟩
  rw [hsb.out] at c1 ⊢
  clear hsb
  obtain ⟨vx, hvx⟩ : ∃ v, x.val = v := ⟨_, rfl⟩
  rw [hvx] at c1 ⊢
  clear hvx
  go_enter Try.func29, Try.ntmps29
  go_wp2_with fail
  refine c1.mono ?_
  rintro e1 w1 ⟨r, rfl, hr, hb⟩
  by_cases h0 : 0 ≤ r
  · have hr' := hide (hr.out.symm.trans (decide_eq_true h0))
    clear hr c1
    go_wp2
    go_ret
    exact ⟨by rw [hr'.out]; rfl, hb⟩
  · have hr' := hide (hr.out.symm.trans (decide_eq_false h0))
    clear hr c1
    go_wp2
    go_ret
    exact ⟨by rw [hr'.out]; show Ending.returned (.bool (decide (0 ≤ r))) = _; rw [decide_eq_false (by omega)], hb⟩
end Go.Proofs.Ytaaifcpanflejaa
