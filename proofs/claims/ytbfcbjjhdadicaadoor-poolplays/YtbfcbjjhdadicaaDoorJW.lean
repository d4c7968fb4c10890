/- Sets of numbers below 64 as natural numbers: bits, lists, counting. Imports nothing of the translation. What a law is told of its slices of ints; small words. mask.bit, Has, With, Down: contracts. mask.All, asLong, Ones, Many, raddlelaw08.all: contracts. mask.asLong over a mask's numbers; raddlelaw08.all: contracts. mask.All, Ones, Many, raddlelaw08.all: contracts. The document's List, Ones, Of, Down; mask.Of; Ints; lives: contracts. Windows of a client's numbers: which were delivered, marked, counted. Imports nothing of the translation. A region that draws its order, walked one way under a condition that every operation keeps: what yields one value wherever the condition holds may be taken first; what makes memory, writes or calls comes up alone. Windows in memory: two cells; loads and stores of them; what stays. window.settled, Good, Done, Count, Ask, Mark: contracts. window.Done, Count, Ask, Mark: contracts. -/
import Derived.Test.YtbfcbjjhdadicaaDoorProg
import Derived.WalkKit
import Derived.WalkSpells
import Derived.WalkLawsBesides
import Derived.Below
import Derived.Deep.OwnRows
import Derived.ProofKit
import Derived.OpenShut
import Derived.ShutString
import Derived.ChangeOld
import Derived.RangeFuncBox
import Derived.RangeFuncLeaves
import Derived.RangeFuncCalls
import Derived.Shelf.Abstract
import Derived.Shelf.RegionOpen
import Derived.OwnWalkIn
import Derived.TacticsInMore
import Derived.LoopNIn
import Derived.LoopIn
import Derived.Maps.AppendAt
import Derived.Deep.QuietTactic
import Derived.BigQuiet
import Derived.Test.YtbfcbjjhdadicaaDoorAppend
import Derived.Deep.RegionHeld3
import Derived.Deep.MidRow
namespace Go.Proofs.YtbfcbjjhdadicaaDoor.Wn
def hasN (m : Nat) (i : Int) : Bool := decide (0 ≤ i ∧ i < 64) && m.testBit i.toNat
def bitN (i : Int) : Nat := if 0 ≤ i ∧ i < 64 then 2 ^ i.toNat else 0
def withN (m : Nat) (i : Int) : Nat := m ||| bitN i
def downN (m : Nat) (n : Int) : Nat := if n < 1 then m else m >>> n.toNat
def setUp (m k : Nat) : List Nat := (List.range k).filter m.testBit
def setN (m : Nat) : List Nat := setUp m 64
def ofN (m : Nat) (l : List Int) : Nat := l.foldl withN m
def onesUp (m : Nat) : Nat → Nat → Nat
  | 0, n => n
  | f + 1, n => if m.testBit n then onesUp m f (n + 1) else n
def onesN (m : Nat) : Nat := onesUp m 64 0
theorem testBit_bitN (i : Int) (j : Nat) : (bitN i).testBit j = decide ((j : Int) = i ∧ j < 64) := by
  unfold bitN
  split
  · rename_i h
    rw [Nat.testBit_two_pow]
    apply decide_eq_decide.2
    omega
  · rename_i h
    rw [Nat.zero_testBit]
    symm; apply decide_eq_false; omega
theorem testBit_withN (m : Nat) (i : Int) (j : Nat) : (withN m i).testBit j = (m.testBit j || decide ((j : Int) = i ∧ j < 64)) := by
  unfold withN; rw [Nat.testBit_or, testBit_bitN]
theorem bitN_lt (i : Int) : bitN i < 2 ^ 64 := by
  unfold bitN
  split
  · exact Nat.pow_lt_pow_right (by omega) (by omega)
  · decide
theorem withN_lt {m : Nat} (h : m < 2 ^ 64) (i : Int) : withN m i < 2 ^ 64 := Nat.or_lt_two_pow h (bitN_lt i)
theorem ofN_lt {l : List Int} : ∀ {m : Nat}, m < 2 ^ 64 → ofN m l < 2 ^ 64 := by
  induction l with
  | nil => intro m h; exact h
  | cons x l ih => intro m h; exact ih (withN_lt h x)
theorem downN_lt {m : Nat} (h : m < 2 ^ 64) (n : Int) : downN m n < 2 ^ 64 := by
  unfold downN; split
  · exact h
  · rw [Nat.shiftRight_eq_div_pow]; exact Nat.lt_of_le_of_lt (Nat.div_le_self _ _) h
theorem and_bitN (m : Nat) (i : Int) : (m &&& bitN i = 0) ↔ hasN m i = false := by
  unfold bitN hasN
  split
  · rename_i h
    rw [decide_eq_true h, Bool.true_and]
    constructor
    · intro e
      have := congrArg (fun x => Nat.testBit x i.toNat) e
      simpa [Nat.testBit_and, Nat.testBit_two_pow] using this
    · intro e
      apply Nat.eq_of_testBit_eq
      intro j
      rw [Nat.testBit_and, Nat.testBit_two_pow, Nat.zero_testBit]
      by_cases hj : i.toNat = j
      · subst hj; rw [e]; rfl
      · simp [hj]
  · rename_i h
    simp [h]
theorem hasN_cast (m : Nat) (k : Nat) (h : k < 64) : hasN m (k : Int) = m.testBit k := by
  unfold hasN
  have : (0 ≤ (k : Int) ∧ (k : Int) < 64) := by omega
  simp [this]
theorem hasN_out (m : Nat) (i : Int) (h : ¬ (0 ≤ i ∧ i < 64)) : hasN m i = false := by
  unfold hasN; simp [h]
theorem eq_of_bits {a b : Nat} (ha : a < 2 ^ 64) (hb : b < 2 ^ 64) (h : ∀ j, j < 64 → a.testBit j = b.testBit j) : a = b := by
  apply Nat.eq_of_testBit_eq
  intro j
  by_cases hj : j < 64
  · exact h j hj
  · rw [Nat.testBit_lt_two_pow (Nat.lt_of_lt_of_le ha (Nat.pow_le_pow_right (by omega) (by omega))), Nat.testBit_lt_two_pow (Nat.lt_of_lt_of_le hb (Nat.pow_le_pow_right (by omega) (by omega)))]
theorem testBit_ofN (l : List Int) (m j : Nat) : (ofN m l).testBit j = (m.testBit j || decide ((j : Int) ∈ l ∧ j < 64)) := by
  induction l generalizing m with
  | nil => simp [ofN]
  | cons x l ih =>
    show (ofN (withN m x) l).testBit j = _
    rw [ih, testBit_withN, Bool.or_assoc]
    congr 1
    rw [← Bool.decide_or]
    apply decide_eq_decide.2
    rw [List.mem_cons]
    constructor
    · rintro (⟨h, h'⟩ | ⟨h, h'⟩)
      · exact ⟨Or.inl h, h'⟩
      · exact ⟨Or.inr h, h'⟩
    · rintro ⟨h | h, h'⟩
      · exact Or.inl ⟨h, h'⟩
      · exact Or.inr ⟨h, h'⟩
theorem mem_setUp {m k j : Nat} : j ∈ setUp m k ↔ j < k ∧ m.testBit j = true := by simp [setUp]
theorem mem_setN {m j : Nat} : j ∈ setN m ↔ j < 64 ∧ m.testBit j = true := mem_setUp
def ints (l : List Nat) : List Int := l.map Int.ofNat
theorem mem_ints {l : List Nat} {j : Nat} : (j : Int) ∈ ints l ↔ j ∈ l := by
  unfold ints
  rw [List.mem_map]
  constructor
  · rintro ⟨a, h, e⟩
    have : a = j := Int.ofNat.inj e
    exact this ▸ h
  · intro h; exact ⟨j, h, rfl⟩
theorem of_set {m : Nat} (h : m < 2 ^ 64) : ofN 0 (ints (setN m)) = m := by
  refine eq_of_bits (ofN_lt (by decide)) h fun j hj => ?_
  rw [testBit_ofN, Nat.zero_testBit, Bool.false_or]
  cases hb : m.testBit j
  · apply decide_eq_false
    rw [mem_ints, mem_setN, hb]; simp
  · apply decide_eq_true
    rw [mem_ints, mem_setN, hb]; simp [hj]
theorem down_set {m : Nat} (h : m < 2 ^ 64) (n : Int) (h1 : 1 ≤ n) (h2 : n ≤ 63) : ofN 0 ((ints (setN m)).map (fun x => x - n)) = downN m n := by
  refine eq_of_bits (ofN_lt (by decide)) (downN_lt h n) fun j hj => ?_
  rw [testBit_ofN, Nat.zero_testBit, Bool.false_or, downN, if_neg (by omega), Nat.testBit_shiftRight]
  have e : ((j : Int) ∈ (ints (setN m)).map (fun x => x - n)) ↔ (n.toNat + j) ∈ setN m := by
    rw [List.mem_map]
    constructor
    · rintro ⟨x, hx, e⟩
      unfold ints at hx
      rw [List.mem_map] at hx
      obtain ⟨y, hy, rfl⟩ := hx
      have : y = n.toNat + j := by simp at e; omega
      exact this ▸ hy
    · intro hy
      exact ⟨((n.toNat + j : Nat) : Int), mem_ints.2 hy, by omega⟩
  cases hb : m.testBit (n.toNat + j)
  · apply decide_eq_false
    rw [e, mem_setN, hb]; simp
  · apply decide_eq_true
    rw [e, mem_setN, hb]
    refine ⟨⟨?_, rfl⟩, hj⟩
    rcases Nat.lt_or_ge (n.toNat + j) 64 with h' | h'
    · exact h'
    · rw [Nat.testBit_lt_two_pow (Nat.lt_of_lt_of_le h (Nat.pow_le_pow_right (by omega) h'))] at hb; cases hb
theorem down_far {m : Nat} (h : m < 2 ^ 64) (n : Int) (h2 : 63 < n) : downN m n = 0 := by
  unfold downN; rw [if_neg (by omega), Nat.shiftRight_eq_div_pow]
  exact Nat.div_eq_of_lt (Nat.lt_of_lt_of_le h (Nat.pow_le_pow_right (by omega) (by omega)))
theorem add_bit {m k : Nat} (h : m.testBit k = false) : m + 2 ^ k = m ||| 2 ^ k := by
  have hx := Nat.two_pow_add_eq_or_of_lt (i := k) (b := m % 2 ^ k) (Nat.mod_lt _ (Nat.two_pow_pos k)) 1
  have e0 : m.testBit k = decide (m / 2 ^ k % 2 = 1) := Nat.testBit_eq_decide_div_mod_eq
  have e1 : m / 2 ^ k % 2 = 0 := by
    rw [h] at e0
    have := of_decide_eq_false e0.symm
    omega
  apply Nat.eq_of_testBit_eq
  intro j
  rw [Nat.testBit_or, Nat.testBit_two_pow]
  rcases Nat.lt_trichotomy j k with hj | rfl | hj
  · rw [Nat.add_comm, Nat.testBit_two_pow_add_gt hj]; simp; omega
  · rw [Nat.add_comm, Nat.testBit_two_pow_add_eq, h]; simp
  · have : decide (k = j) = false := decide_eq_false (by omega)
    rw [this, Bool.or_false]
    obtain ⟨d, rfl⟩ : ∃ d, j = k + 1 + d := ⟨j - (k + 1), by omega⟩
    rw [show k + 1 + d = d + (k + 1) from by omega]
    rw [← Nat.testBit_div_two_pow, ← Nat.testBit_div_two_pow]
    congr 1
    rw [Nat.pow_succ, ← Nat.div_div_eq_div_mul, ← Nat.div_div_eq_div_mul, Nat.add_div_right _ (Nat.two_pow_pos k)]
    omega
theorem withN_new {m : Nat} {i : Int} (h0 : 0 ≤ i) (h1 : i < 64) (h : hasN m i = false) : withN m i = m + 2 ^ i.toNat := by
  unfold withN bitN; rw [if_pos ⟨h0, h1⟩, add_bit]
  simpa [hasN, h0, h1] using h
theorem withN_old {m : Nat} {i : Int} (h : hasN m i = true) : withN m i = m := by
  apply Nat.eq_of_testBit_eq
  intro j
  rw [testBit_withN]
  by_cases e : (j : Int) = i ∧ j < 64
  · obtain ⟨rfl, h64⟩ := e
    rw [hasN_cast _ _ h64] at h; simp [h]
  · simp [e]
theorem withN_out {m : Nat} {i : Int} (h : ¬ (0 ≤ i ∧ i < 64)) : withN m i = m := by
  unfold withN bitN; rw [if_neg h, Nat.or_zero]
theorem has_half (m k : Nat) : m.testBit k = decide (m / 2 ^ k % 2 = 1) := Nat.testBit_eq_decide_div_mod_eq
theorem setUp_succ (m k : Nat) : setUp m (k + 1) = setUp m k ++ (if m.testBit k then [k] else []) := by
  unfold setUp; rw [List.range_succ, List.filter_append]
  cases h : m.testBit k <;> simp [h]
theorem setUp_no {m k : Nat} (h : m.testBit k = false) : setUp m (k + 1) = setUp m k := by rw [setUp_succ, h]; simp
theorem setUp_yes {m k : Nat} (h : m.testBit k = true) : setUp m (k + 1) = setUp m k ++ [k] := by rw [setUp_succ, h]; simp
theorem setUp_zero (m : Nat) : setUp m 0 = [] := rfl
theorem setUp_len (m k : Nat) : (setUp m k).length ≤ k := by
  unfold setUp; exact Nat.le_trans (List.length_filter_le _ _) (by simp)
theorem setUp_prefix (m : Nat) {j k : Nat} (h : j ≤ k) : setUp m j <+: setUp m k := by
  induction k with
  | zero => obtain rfl : j = 0 := by omega
            exact List.prefix_refl _
  | succ k ih =>
    rcases Nat.lt_or_eq_of_le h with h' | rfl
    · rw [setUp_succ]; exact (ih (by omega)).trans (List.prefix_append _ _)
    · exact List.prefix_refl _
theorem setUp_lt (m k : Nat) : (setUp m k).Pairwise (· < ·) := by
  unfold setUp; exact List.Pairwise.filter _ List.pairwise_lt_range
theorem onesUp_spec (m : Nat) : ∀ f n L, n ≤ L → L ≤ n + f → (∀ j, n ≤ j → j < L → m.testBit j = true) → (L < n + f → m.testBit L = false) → onesUp m f n = L := by
  intro f
  induction f with
  | zero => intro n L h1 h2 _ _; unfold onesUp; omega
  | succ f ih =>
    intro n L h1 h2 h3 h4
    unfold onesUp
    rcases Nat.lt_or_eq_of_le h1 with h | rfl
    · rw [if_pos (h3 n (Nat.le_refl _) h)]
      exact ih (n + 1) L h (by omega) (fun j a b => h3 j (by omega) b) (fun a => h4 (by omega))
    · rw [if_neg (by rw [h4 (by omega)]; decide)]
theorem onesN_spec (m L : Nat) (h2 : L ≤ 64) (h3 : ∀ j, j < L → m.testBit j = true) (h4 : L < 64 → m.testBit L = false) : onesN m = L :=
  onesUp_spec m 64 0 L (Nat.zero_le _) (by omega) (fun j _ h => h3 j h) (fun h => h4 (by omega))
theorem ones_done {m L : Nat} (h : setN m = List.range L) : onesN m = L := by
  have hl : L ≤ 64 := by have := setUp_len m 64; rw [show setUp m 64 = _ from h] at this; simpa using this
  refine onesN_spec m L hl (fun j hj => (mem_setN.1 (by rw [h]; exact List.mem_range.2 hj)).2) (fun hL => ?_)
  cases hb : m.testBit L
  · rfl
  · have := mem_setN.2 ⟨hL, hb⟩
    rw [h] at this; simp at this
theorem ones_stop {m L x : Nat} (h : List.range L ++ [x] <+: setN m) (hx : x ≠ L) : onesN m = L := by
  obtain ⟨rest, hr⟩ := h
  have hp := setUp_lt m 64
  rw [show setUp m 64 = _ from hr.symm, List.append_assoc, List.pairwise_append] at hp
  obtain ⟨_, p2, p3⟩ := hp
  have hm : ∀ j, j ∈ setN m ↔ j ∈ List.range L ++ [x] ++ rest := fun j => by rw [hr]
  have hl : L ≤ 64 := by
    rcases Nat.eq_zero_or_pos L with h | h
    · omega
    · have := (mem_setN.1 ((hm (L - 1)).2 (by simp; omega))).1; omega
  have hxL : L < x := by
    rcases Nat.lt_trichotomy x L with h | h | h
    · exact absurd (p3 x (List.mem_range.2 h) x (by simp)) (Nat.lt_irrefl _)
    · exact absurd h hx
    · exact h
  refine onesN_spec m L hl (fun j hj => (mem_setN.1 ((hm j).2 (by simp; omega))).2) (fun hL => ?_)
  cases hb : m.testBit L
  · rfl
  · exfalso
    have := (hm L).1 (mem_setN.2 ⟨hL, hb⟩)
    simp only [List.append_assoc, List.mem_append, List.mem_range, List.mem_singleton] at this
    rcases this with h | h | h
    · omega
    · exact hx h.symm
    · rw [List.singleton_append, List.pairwise_cons] at p2
      have := p2.1 L h; omega
theorem setUp_with {m : Nat} {k : Nat} (hb : m.testBit k = false) : ∀ n, (setUp (m ||| 2 ^ k) n).length = (setUp m n).length + (if k < n then 1 else 0) := by
  intro n
  induction n with
  | zero => simp [setUp]
  | succ n ih =>
    rw [setUp_succ, setUp_succ, List.length_append, List.length_append, ih, Nat.testBit_or, Nat.testBit_two_pow]
    by_cases e : k = n
    · subst e
      rw [hb]; simp
    · have e2 : decide (k = n) = false := decide_eq_false e
      rw [e2, Bool.or_false]
      have : (if k < n + 1 then 1 else 0) = (if k < n then 1 else 0) := by
        by_cases h : k < n
        · rw [if_pos h, if_pos (by omega)]
        · rw [if_neg h, if_neg (by omega)]
      rw [this]; omega
theorem many_with (m : Nat) (i : Int) : decide (((setN (withN m i)).length : Int) = (setN m).length + 1) = (decide (0 ≤ i ∧ i < 64) && !hasN m i) := by
  by_cases h : 0 ≤ i ∧ i < 64
  · cases hb : hasN m i
    · rw [decide_eq_true h]
      show _ = true
      apply decide_eq_true
      have hb' : m.testBit i.toNat = false := by simpa [hasN, h] using hb
      have := setUp_with hb' 64
      unfold withN bitN setN; rw [if_pos h, this, if_pos (by omega)]; omega
    · rw [withN_old hb]; simp; omega
  · rw [withN_out h]; simp [h]; omega
theorem has_with (m : Nat) (i j : Int) : hasN (withN m i) j = (hasN m j || decide (j = i ∧ 0 ≤ i ∧ i < 64)) := by
  unfold hasN
  by_cases h : 0 ≤ j ∧ j < 64
  · rw [decide_eq_true h, Bool.true_and, Bool.true_and, testBit_withN]
    congr 1
    apply decide_eq_decide.2
    omega
  · rw [decide_eq_false h, Bool.false_and, Bool.false_and, Bool.false_or]
    symm; apply decide_eq_false; omega
theorem with_comm (m : Nat) (i j : Int) : withN (withN m i) j = withN (withN m j) i := by
  unfold withN; rw [Nat.or_assoc, Nat.or_comm (bitN i), ← Nat.or_assoc]
theorem with_again (m : Nat) (i : Int) : withN (withN m i) i = withN m i := by
  unfold withN; rw [Nat.or_assoc, Nat.or_self]
theorem has_down (m a b : Nat) (hm : m < 2 ^ 64) (ha : a < 64) (hb : b < 64) : hasN (downN m a) b = (decide (a + b < 64) && m.testBit (a + b)) := by
  rw [hasN_cast _ _ hb]
  have e : (downN m a).testBit b = m.testBit (a + b) := by
    unfold downN
    split
    · obtain rfl : a = 0 := by omega
      simp
    · rw [Nat.testBit_shiftRight]; simp
  rw [e]
  by_cases h : a + b < 64
  · simp [h]
  · rw [Nat.testBit_lt_two_pow (Nat.lt_of_lt_of_le hm (Nat.pow_le_pow_right (by omega) (by omega)))]; simp
theorem has_of (l : List Int) (i : Int) (h : i ∈ l) : hasN (ofN 0 l) i = decide (0 ≤ i ∧ i < 64) := by
  by_cases hi : 0 ≤ i ∧ i < 64
  · obtain ⟨k, rfl⟩ := Int.eq_ofNat_of_zero_le hi.1
    rw [hasN_cast _ _ (by omega), testBit_ofN]; simp [h]; omega
  · rw [hasN_out _ _ hi, decide_eq_false hi]
theorem set_of {l : List Int} {k : Nat} (h : k ∈ setN (ofN 0 l)) : (k : Int) ∈ l := by
  have := (mem_setN.1 h).2
  rw [testBit_ofN, Nat.zero_testBit, Bool.false_or] at this
  exact (of_decide_eq_true this).1
theorem ofN_append (m : Nat) (l r : List Int) : ofN m (l ++ r) = ofN (ofN m l) r := List.foldl_append
end Go.Proofs.YtbfcbjjhdadicaaDoor.Wn
namespace Go.Proofs.YtbfcbjjhdadicaaDoor.Wn
open Go.RowKit
theorem hide {p : Prop} (h : p) : Hid p := h
theorem ret_bool {a b : Bool} (h : a = b) : Ending.returned (.bool a) = .returned (.bool b) := by rw [h]
theorem ret_int {k : IntKind} {a b : Int} (h : a = b) : Ending.returned (.int k a) = .returned (.int k b) := by rw [h]
theorem own : ownKnob Tryd.prog.godebug = none := by kernel_rfl
theorem laidOut : laidOutB Tryd.prog = true := by kernel_rfl
/-- A slice of integers that came in: it is nil; or it leads to a row of 'cap' cells, the numbers 'zs' (the first 'len' are its elements), each fitting its kind. -/
def IsRow (k : IntKind) (w : World) (a : Option Addr) (len cap : Nat) (zs : List Int) : Prop :=
  (a = none ∧ len = 0 ∧ cap = 0 ∧ zs = []) ∨
  ∃ x, a = some x ∧ len ≤ cap ∧ cap ≤ maxLen ∧ zs.length = cap ∧ (∀ i, i < zs.length → w.cell? (x.add i) = some (.int k (zs.getD i 0))) ∧ ∀ n ∈ zs, (Lit.int k n).wf = true
/-- a slice of ints -/
def RowI (w : World) (a : Option Addr) (zs : List Int) : Prop :=
  zs.length ≤ maxLen ∧ (zs = [] ∨ ∃ b off, a = some ⟨b, off, none⟩ ∧ b < w.heap.size ∧ ∀ j, j < zs.length → w.cell? ⟨b, off + j, none⟩ = some (.int .i64 (zs[j]?.getD 0)))
theorem RowI.below {w w' : World} {a : Option Addr} {zs : List Int} (h : RowI w a zs) (hb : Below w.heap.size w w') : RowI w' a zs := by
  refine ⟨h.1, ?_⟩
  rcases h.2 with h | ⟨b, off, rfl, h1, h2⟩
  · exact Or.inl h
  · exact Or.inr ⟨b, off, rfl, Nat.lt_of_lt_of_le h1 hb.size, fun j hj => (hb.cell (p := ⟨b, off + j, none⟩) h1).trans (h2 j hj)⟩
theorem block_lt {w : World} {a : Addr} {v : Value} (h : w.cell? a = some v) : a.block < w.heap.size := by
  rcases Nat.lt_or_ge a.block w.heap.size with h' | h'
  · exact h'
  · simp [World.cell?, h'] at h
theorem IsRow.cells {k : IntKind} {w : World} {a : Option Addr} {len cap : Nat} {zs : List Int} (h : IsRow k w a len cap zs) :
    len ≤ cap ∧ cap ≤ maxLen ∧ (zs.take len).length = len ∧ (∀ z ∈ zs.take len, (Lit.int k z).wf = true) ∧ (zs.take len = [] ∨ ∃ b off, a = some ⟨b, off, none⟩ ∧ b < w.heap.size ∧ ∀ j, j < (zs.take len).length → w.cell? ⟨b, off + j, none⟩ = some (.int k ((zs.take len)[j]?.getD 0))) := by
  rcases h with ⟨rfl, rfl, rfl, rfl⟩ | ⟨x, rfl, hl, hm, hz, hcell, hwz⟩
  · simp
  · refine ⟨hl, hm, by rw [List.length_take]; omega, fun z hz => hwz z (List.mem_of_mem_take hz), ?_⟩
    by_cases h0 : len = 0
    · left; simp [h0]
    · right
      obtain ⟨b, off, spot⟩ := x
      have hc := hcell 0 (by omega)
      have hspot : spot = none := by simpa [Addr.add] using World.cell?_spot hc
      subst hspot
      refine ⟨b, off, rfl, ?_, fun j hj => ?_⟩
      · have := block_lt hc; simpa [Addr.add] using this
      · rw [List.length_take] at hj
        have hcj := hcell j (by omega)
        have e1 : (zs.take len)[j]?.getD 0 = zs.getD j 0 := by
          rw [List.getD_eq_getElem?_getD, List.getElem?_take, if_pos (by omega)]
        rw [e1]
        by_cases hj0 : j = 0
        · subst hj0; simpa [Addr.add] using hcj
        · simpa [Addr.add, hj0] using hcj
theorem IsRow.rowI {w : World} {a : Option Addr} {len cap : Nat} {zs : List Int} (h : IsRow .i64 w a len cap zs) : ∃ ys : List Int, len = ys.length ∧ len ≤ cap ∧ cap ≤ maxLen ∧ RowI w a ys ∧ ∀ z ∈ ys, (Lit.int .i64 z).wf = true := by
  obtain ⟨h1, h2, h3, h4, h5⟩ := h.cells
  exact ⟨zs.take len, h3.symm, h1, h2, ⟨by omega, h5⟩, h4⟩
end Go.Proofs.YtbfcbjjhdadicaaDoor.Wn
namespace Go.Proofs.YtbfcbjjhdadicaaDoor.Wn
open Go.RowKit
attribute [local go_sem] Oper.semAt_some
theorem wrap_pow (i : Int) (h0 : 0 ≤ i) (h1 : i < 64) : IntKind.u64.wrap (2 ^ i.toNat) = ((bitN i : Nat) : Int) := by
  have hb := bitN_lt i
  have e : ((2 : Int) ^ i.toNat) = ((bitN i : Nat) : Int) := by unfold bitN; rw [if_pos ⟨h0, h1⟩]; simp
  rw [e, IntKind.wrap_u64]
  generalize bitN i = b at *
  omega
theorem toNat_ofInt (a : Nat) (h : a < 2 ^ 64) : (BitVec.ofInt 64 (a : Int)).toNat = a := by
  rw [BitVec.toNat_ofInt]; omega
theorem and_nat (a b : Nat) (ha : a < 2 ^ 64) (hb : b < 2 ^ 64) : bits BinOp.and IntKind.u64 (a : Int) (b : Int) = ((a &&& b : Nat) : Int) := by
  show IntKind.u64.wrap ((BitVec.ofInt 64 (a : Int) &&& BitVec.ofInt 64 (b : Int)).toNat : Int) = _
  rw [BitVec.toNat_and, toNat_ofInt a ha, toNat_ofInt b hb, IntKind.wrap_u64]
  have : a &&& b < 2 ^ 64 := Nat.and_lt_two_pow a hb
  generalize a &&& b = c at *
  omega
theorem or_nat (a b : Nat) (ha : a < 2 ^ 64) (hb : b < 2 ^ 64) : bits BinOp.or IntKind.u64 (a : Int) (b : Int) = ((a ||| b : Nat) : Int) := by
  show IntKind.u64.wrap ((BitVec.ofInt 64 (a : Int) ||| BitVec.ofInt 64 (b : Int)).toNat : Int) = _
  rw [BitVec.toNat_or, toNat_ofInt a ha, toNat_ofInt b hb, IntKind.wrap_u64]
  have : a ||| b < 2 ^ 64 := Nat.or_lt_two_pow ha hb
  generalize a ||| b = c at *
  omega
theorem ne_zero_has {c m : Nat} {i : Int} (h : c = 0 ↔ hasN m i = false) : (((c : Nat) : Int) != 0) = hasN m i := by
  cases hb : hasN m i
  · rw [h.2 hb]; rfl
  · have : c ≠ 0 := fun e => by rw [h.1 e] at hb; cases hb
    simp [this]
theorem shr_down (m : Nat) (hm : m < 2 ^ 64) (n : Int) (h : 1 ≤ n) : Op.shift BinOp.shr IntKind.u64 (m : Int) IntKind.i64 n = pure (.int .u64 (downN m n : Int)) := by
  by_cases h64 : n ≤ 64
  · rw [shift_shr_u64 _ _ _ (by omega) h64]
    have : (m : Int) / 2 ^ n.toNat = ((downN m n : Nat) : Int) := by
      unfold downN; rw [if_neg (by omega), Nat.shiftRight_eq_div_pow]; simp
    rw [this]
  · have hz : downN m n = 0 := down_far hm n (by omega)
    have hmn : min n.toNat IntKind.u64.bits = 64 := by show min n.toNat 64 = 64; omega
    have hq : (m : Int).fdiv (2 ^ 64) = 0 := by rw [Int.fdiv_eq_ediv_of_nonneg _ (by decide)]; omega
    rw [hz]
    have hn : ¬ n < 0 := by omega
    simp [Op.shift, hmn, hn]
    rw [show (m : Int).fdiv 18446744073709551616 = 0 from hq]
theorem bit_in (F : Fence) (n : Nat) (hf : F.fn 57) (hro : F.round = none) (i : Int) (w : World) :
    CallsIn F n Tryd.prog 57 #[.int .i64 i] w fun e w' => e = .returned (.int .u64 (bitN i : Int)) ∧ w' = w := by
  refine callsIn_of_wp Tryd.func57 rfl hf ?_ hro
  simp only [Tryd.ntmps57, List.size_toArray, List.length_cons, List.length_nil, Nat.reduceAdd, Nat.reduceSub, Array.replicate_succ, Array.replicate_zero, List.push_toArray, List.append_toArray, List.nil_append, List.cons_append]
  by_cases h0 : i < 0
  · gi_wp2
    go_ret
    exact ⟨ret_int (by unfold bitN; rw [if_neg (by omega)]; rfl), rfl⟩
  · by_cases h1 : 64 ≤ i
    · gi_wp2
      go_ret
      exact ⟨ret_int (by unfold bitN; rw [if_neg (by omega)]; rfl), rfl⟩
    · gi_wp2
      go_ret
      exact ⟨ret_int (wrap_pow i (by omega) (by omega)), rfl⟩
theorem bit_any (i : Int) (w : World) : Calls Tryd.prog 57 #[.int .i64 i] w fun e w' => e = .returned (.int .u64 (bitN i : Int)) ∧ w' = w :=
  (callsIn_wide (n := 4)).1 (bit_in _ 4 trivial rfl i w)
set_option maxHeartbeats 400000 in
theorem has_in (F : Fence) (n : Nat) (hf : F.fn 45) (hg : F.fn 57) (hro : F.round = none) (hn : 1 ≤ n) (m : Nat) (hm : m < 2 ^ 64) (i : Int) (w : World) :
    CallsIn F n Tryd.prog 45 #[.int .u64 (m : Int), .int .i64 i] w fun e w' => e = .returned (.bool (hasN m i)) ∧ w' = w := by
  have c := bit_in F (n - 1) hg hro i w
  have hb := bitN_lt i
  have ha := hide (and_bitN m i)
  refine callsIn_of_wp Tryd.func45 rfl hf ?_ hro
  simp only [Tryd.ntmps45, List.size_toArray, List.length_cons, List.length_nil, Nat.reduceAdd, Nat.reduceSub, Array.replicate_succ, Array.replicate_zero, List.push_toArray, List.append_toArray, List.nil_append, List.cons_append]
  generalize bitN i = b at *
  gi_wp2_with (gi_at_call 57; refine c.mono ?_; rintro e w1 ⟨rfl, rfl⟩)
  go_ret
  exact ⟨ret_bool (by rw [and_nat m b hm hb]; exact ne_zero_has ha.out), rfl⟩
theorem has_any (m : Nat) (hm : m < 2 ^ 64) (i : Int) (w : World) : Calls Tryd.prog 45 #[.int .u64 (m : Int), .int .i64 i] w fun e w' => e = .returned (.bool (hasN m i)) ∧ w' = w :=
  (callsIn_wide (n := 4)).1 (has_in _ 4 trivial trivial rfl (by decide) m hm i w)
set_option maxHeartbeats 400000 in
theorem down_any (m : Nat) (hm : m < 2 ^ 64) (n : Int) (w : World) :
    Calls Tryd.prog 56 #[.int .u64 (m : Int), .int .i64 n] w fun e w' => e = .returned (.int .u64 (downN m n : Int)) ∧ w' = w := by
  have hsh : 1 ≤ n → Op.shift BinOp.shr IntKind.u64 (m : Int) IntKind.i64 n = pure (.int .u64 (downN m n : Int)) := shr_down m hm n
  clear hm
  by_cases h : n < 1
  · go_enter Tryd.func56, Tryd.ntmps56
    go_wp2
    go_ret
    exact ⟨ret_int (by unfold downN; rw [if_pos h]), rfl⟩
  · have hs := hsh (by omega)
    clear hsh
    go_enter Tryd.func56, Tryd.ntmps56
    go_wp2
    go_ret
    exact ⟨rfl, rfl⟩
set_option maxHeartbeats 400000 in
theorem refHas_any (m : Nat) (hm : m < 2 ^ 64) (i : Int) (w : World) :
    Calls Tryd.prog 60 #[.int .u64 (m : Int), .int .i64 i] w fun e w' => e = .returned (.bool (hasN m i)) ∧ w' = w := by
  by_cases h0 : i < 0
  · go_enter Tryd.func60, Tryd.ntmps60
    go_wp2
    go_ret
    exact ⟨ret_bool (by rw [hasN_out _ _ (by omega)]), rfl⟩
  · by_cases h1 : 63 < i
    · go_enter Tryd.func60, Tryd.ntmps60
      go_wp2
      go_ret
      exact ⟨ret_bool (by rw [hasN_out _ _ (by omega)]), rfl⟩
    · obtain ⟨K, rfl⟩ := Int.eq_ofNat_of_zero_le (show 0 ≤ i by omega)
      go_enter Tryd.func60, Tryd.ntmps60
      go_wp2
      go_loop [0, 5] (fun mv kv => ∃ (k q : Nat), k ≤ K ∧ kv = .int .i64 (k : Int) ∧ mv = .int .u64 (q : Int) ∧ q < 2 ^ 64 ∧ Hid (q = m / 2 ^ k)) (fun _ kv => K - (intOf kv).toNat)
      case atStart => exact ⟨0, m, by omega, rfl, rfl, hm, hide (by simp)⟩
      case round =>
        obtain ⟨k, q, hk, rfl, rfl, hq, HQ⟩ := hrel
        by_cases hlt : k < K
        · go_wp2
          go_round
          case rel => exact ⟨k + 1, q / 2, by omega, by go_num, by go_num, by omega, hide (by rw [HQ.out, Nat.div_div_eq_div_mul, Nat.pow_succ])⟩
          case measure => simp [intOf]; omega
        · obtain rfl : k = K := by omega
          go_wp2
          go_ret
          refine ⟨ret_bool ?_, rfl⟩
          rw [hasN_cast _ _ (by omega), has_half, ← HQ.out]
          rw [Bool.eq_iff_iff]; simp; omega
end Go.Proofs.YtbfcbjjhdadicaaDoor.Wn
namespace Go.Proofs.YtbfcbjjhdadicaaDoor.Wn
open Go.RowKit Go.Shelf
attribute [local go_sem] Oper.semAt_some
theorem info3 : (Tryd.prog.info? 3).map (fun i => (i.zero, i.size, i.bytes)) = some (some (.int .i64 0), 1, 8) := by kernel_rfl
theorem mixed : Tryd.prog.follows .mixedOrders = true := by kernel_rfl
set_option maxRecDepth 100000 in
set_option maxHeartbeats 2000000 in
theorem all1_in (F : Fence) (n : Nat) (h29 : F.fn 82) (h8 : F.fn 45) (h24 : F.fn 57) (hro : F.round = none) (hn : 2 ≤ n) (m : Nat) (l Bs : Nat) (Kp : World → World → Prop) (hKr : ∀ A, Kp A A) (hKt : ∀ {A B C : World}, Kp A B → Kp B C → Kp A C) (hKc : ∀ {A B : World}, Kp A B → A.cell? ⟨Bs, 0, none⟩ = some (.int .u64 (m : Int)) → B.cell? ⟨Bs, 0, none⟩ = some (.int .u64 (m : Int))) (hm : m < 2 ^ 64) (J Jx : List Nat → World → Prop)
    (hY : ∀ (pre : List Nat) (x : Nat) (W : World), J pre W → pre.length < 64 → YieldAt F (n - 1) Tryd.prog l #[.int .i64 (x : Int)] W fun e W' =>
      (e = .returned (.bool true) ∧ J (pre ++ [x]) W' ∧ Kp W W') ∨ (e = .returned (.bool false) ∧ Jx (pre ++ [x]) W'))
    (W : World) (hBs : W.cell? ⟨Bs, 0, none⟩ = some (.int .u64 (m : Int))) (h0 : J [] W) :
    CallsIn F n Tryd.prog 82 #[.func (.yield l) #[] #[], .pointer (some ⟨Bs, 0, none⟩)] W fun e W' => (∃ v, e = .returned v) ∧
      ((∃ ys, ys = setN m ∧ J ys W') ∨ (∃ pre, pre <+: setN m ∧ Jx pre W')) := by
  have h1 : 1 ≤ n := by omega
  have h1' : 1 ≤ n - 1 := by omega
  have hmx := mixed
  refine callsIn_of_wp Tryd.func82 rfl h29 ?_ hro
  simp only [Tryd.ntmps82, List.size_toArray, List.length_cons, List.length_nil, Nat.reduceAdd, Nat.reduceSub, Array.replicate_succ, Array.replicate_zero, List.push_toArray, List.append_toArray, List.nil_append, List.cons_append]
  gi_wp2
  gi_loopw [4] (fun i wr => ∃ k : Nat, k ≤ 64 ∧ i = .int .i64 (k : Int) ∧ J (setUp m k) wr ∧ Kp W wr)
    (fun i _ => 64 - (intOf i).toNat)
  case atStart => exact ⟨0, Nat.zero_le _, rfl, h0, hKr _⟩
  case round =>
    obtain ⟨k, hk, rfl, hJs, hnx⟩ := hrel
    have hc : wr.cell? ⟨Bs, 0, none⟩ = some (.int .u64 (m : Int)) := hKc hnx hBs
    by_cases hlt' : k < 64
    · have ch := has_in F (n - 1) h8 h24 hro h1' m hm (k : Int)
      rw [hasN_cast _ _ hlt'] at ch
      cases hb : m.testBit k
      · rw [hb] at ch
        have HU := hide (setUp_no hb)
        clear hb hY
        gi_wp2_with (gi_at_call 45; refine (ch _).mono ?_; rintro e w1 ⟨rfl, hx⟩; obtain rfl := hx.symm; clear hx)
        refine ⟨fun f h => (by cases h), ?_⟩
        gi_wp2
        go_roundw
        case rel => exact ⟨k + 1, by omega, by go_num, by rw [HU.out]; exact hJs, hnx⟩
        case measure => simp [intOf]; omega
      · rw [hb] at ch
        have HU := hide (setUp_yes hb)
        clear hb
        obtain ⟨fn, tmps, assign, body, hy, hR⟩ := hY _ k wr hJs (by have := setUp_len m k; omega)
        gi_wp2_with (gi_at_call 45; refine (ch _).mono ?_; rintro e w1 ⟨rfl, hx⟩; obtain rfl := hx.symm; clear hx)
        refine hR.mono ?_
        rintro e W3 (⟨rfl, hJ3, hk3⟩ | ⟨rfl, hJx3⟩)
        · gi_wp2
          go_roundw
          case rel => exact ⟨k + 1, by omega, by go_num, by rw [HU.out]; exact hJ3, hKt hnx hk3⟩
          case measure => simp [intOf]; omega
        · gi_wp2
          refine bodyPost_ret (results_none rfl _ _ _) rfl ?_
          exact ⟨⟨_, rfl⟩, .inr ⟨_, by rw [← HU.out]; exact setUp_prefix m (by omega), hJx3⟩⟩
    · obtain rfl : k = 64 := by omega
      gi_wp2
      go_end0
      exact ⟨⟨_, rfl⟩, .inl ⟨_, rfl, hJs⟩⟩
end Go.Proofs.YtbfcbjjhdadicaaDoor.Wn
namespace Go.Proofs.YtbfcbjjhdadicaaDoor.Wn
open Go.RowKit Go.Shelf
attribute [local go_sem] Oper.semAt_some
theorem all_stops (F : Fence) (n : Nat) (h29 : F.fn 82) (h8 : F.fn 45) (h24 : F.fn 57) (hro : F.round = none) (hn : 2 ≤ n) (Bs n₀ : Nat) (m : Nat) (hm : m < 2 ^ 64) (w : World) (hBs : Bs < n₀) (hn₀ : n₀ ≤ w.heap.size)
    (hc : w.cell? ⟨Bs, 0, none⟩ = some (.int .u64 (m : Int))) :
    SeqStopsK F n Tryd.prog 82 #[.pointer (some ⟨Bs, 0, none⟩)] (fun x : Nat => #[Value.int .i64 (x : Int)]) (Below n₀) (fun ys => ys = setN m) (fun pre => pre <+: setN m) 64 w := fun l J Jx W hW _ _ hY h0 =>
  all1_in F n h29 h8 h24 hro hn m l Bs (Below n₀) (fun A => Below.refl _ A) (fun h k => h.trans k) (fun h e => (h.cell (p := ⟨Bs, 0, none⟩) hBs).trans e) hm J Jx hY W ((hW.cell (p := ⟨Bs, 0, none⟩) (by simp; omega)).trans hc) h0
/-- the block Bs lies as it lay -/
def KeepsAt (Bs : Nat) (A B : World) : Prop := Bs < A.heap.size → B.heap[Bs]? = A.heap[Bs]?
theorem KeepsAt.cell {Bs : Nat} {A B : World} (h : KeepsAt Bs A B) {v : Value} (e : A.cell? ⟨Bs, 0, none⟩ = some v) : B.cell? ⟨Bs, 0, none⟩ = some v := by
  have hb : Bs < A.heap.size := by
    rcases Nat.lt_or_ge Bs A.heap.size with h' | h'
    · exact h'
    · simp [World.cell?, h'] at e
  simp only [World.cell?, h hb] at e ⊢
  exact e
theorem KeepsAt.tr {Bs : Nat} {A B C : World} (h : KeepsAt Bs A B) (k : KeepsAt Bs B C) : KeepsAt Bs A C := by
  intro hb
  have h1 := h hb
  have : Bs < B.heap.size := by
    rcases Nat.lt_or_ge Bs B.heap.size with h' | h'
    · exact h'
    · rw [Array.getElem?_eq_none h', Array.getElem?_eq_getElem hb] at h1; cases h1
  rw [k this, h1]
theorem all_stopsK (F : Fence) (n : Nat) (h29 : F.fn 82) (h8 : F.fn 45) (h24 : F.fn 57) (hro : F.round = none) (hn : 2 ≤ n) (Bs : Nat) (m : Nat) (hm : m < 2 ^ 64) (w : World) (hBs : Bs < w.heap.size)
    (hc : w.cell? ⟨Bs, 0, none⟩ = some (.int .u64 (m : Int))) :
    SeqStopsK F n Tryd.prog 82 #[.pointer (some ⟨Bs, 0, none⟩)] (fun x : Nat => #[Value.int .i64 (x : Int)]) (KeepsAt Bs) (fun ys => ys = setN m) (fun pre => pre <+: setN m) 64 w := fun l J Jx W hW _ _ hY h0 =>
  all1_in F n h29 h8 h24 hro hn m l Bs (KeepsAt Bs) (fun _ _ => rfl) (fun h k => h.tr k) (fun h e => h.cell e) hm J Jx hY W ((hW.cell (p := ⟨Bs, 0, none⟩) (by simp; omega)).trans hc) h0
theorem keepsAt_b {Bs : Nat} {w : World} (hn : Bs < w.heap.size) (W : World) (l : Nat) (o o' : Obj) (hl : w.heap.size ≤ l) (_ : W.heap[l]? = some o) (_ : o.isCells = false) (_ : o.isWalk = false) : KeepsAt Bs W (W.putObj l o') :=
  fun _ => World.putObj_heap_other (by omega)
/-- each fits at its place -/
def Fits (p : Nat → Nat → Bool) (l : List Nat) : Prop := ∀ k (h : k < l.length), p k l[k] = true
theorem Fits.nil (p : Nat → Nat → Bool) : Fits p [] := fun _ h => absurd h (Nat.not_lt_zero _)
theorem Fits.snoc {p : Nat → Nat → Bool} {l : List Nat} {x : Nat} (h : Fits p l) (hx : p l.length x = true) : Fits p (l ++ [x]) := by
  intro k hk
  rw [List.length_append, List.length_singleton] at hk
  rcases Nat.lt_or_eq_of_le (Nat.lt_succ_iff.1 hk) with h' | rfl
  · rw [List.getElem_append_left h']; exact h k h'
  · simpa using hx
def vals (l : List Nat) : List Value := l.map fun (x : Nat) => Value.int .i64 (x : Int)
/-- what asLong lists -/
def Longest (p : Nat → Nat → Bool) (all l : List Nat) : Prop := Fits p l ∧ (l = all ∨ ∃ x, l ++ [x] <+: all ∧ p l.length x = false)
theorem vals_snoc (l : List Nat) (x : Nat) : vals (l ++ [x]) = vals l ++ [Value.int .i64 (x : Int)] := by simp [vals]
theorem ownsRow_low {W : World} {base base' : Nat} {e : TypeId} {size : Nat} {v : Value} {k : Nat} {xs : List Value} (hb : base' ≤ base) (h : W.ownsRow base e size v k xs) : W.ownsRow base' e size v k xs := by
  refine ⟨h.1, ?_⟩
  rcases h.2 with h | ⟨g, cap, cur, e1, e2, e3⟩
  · exact .inl h
  · exact .inr ⟨g, cap, cur, e1, Nat.le_trans hb e2, e3⟩
theorem ownsRow_slice {W : World} {base : Nat} {e : TypeId} {size : Nat} {v : Value} {k : Nat} {xs : List Value} (h : W.ownsRow base e size v k xs) : ∃ a cap, v = .slice a k cap := by
  rcases h.2 with ⟨rfl, rfl⟩ | ⟨g, cap, cur, rfl, _⟩
  · exact ⟨none, 0, rfl⟩
  · exact ⟨_, _, rfl⟩
set_option maxRecDepth 100000 in
set_option maxHeartbeats 2000000 in
theorem asLongO_in (F : Fence) (n : Nat) (h26 : F.fn 77) (h29 : F.fn 82) (h8 : F.fn 45) (h24 : F.fn 57) (hro : F.round = none) (hn : 4 ≤ n) (hg : F.fn 79) (p : Nat → Nat → Bool)
    (hp : ∀ (k x : Nat) (W : World), CallsIn F (n - 1 - 1 - 1) Tryd.prog 79 #[.int .i64 (k : Int), .int .i64 (x : Int)] W fun e W' => e = .returned (.bool (p k x)) ∧ W' = W)
    (Bs : Nat) (m : Nat) (hm : m < 2 ^ 64) (w : World) (hBs : Bs < w.heap.size) (hcB : w.cell? ⟨Bs, 0, none⟩ = some (.int .u64 (m : Int))) :
    CallsIn F n Tryd.prog 77 #[.func (.func 82) #[] #[.pointer (some ⟨Bs, 0, none⟩)], .func (.func 79) #[] #[]] w fun e W' => ∃ v l, e = .returned v ∧ Longest p (setN m) l ∧ W'.ownsRow w.heap.size 3 1 v l.length (vals l) ∧ Below w.heap.size w W' := by
  have h1 : 1 ≤ n := by omega
  have h1' : 1 ≤ n - 1 - 1 := by omega
  obtain ⟨i0, hi, hz0, hz1, hz2⟩ := info_parts info3
  refine callsIn_of_wp_marks Tryd.func77 rfl h26 ?_ hro
  simp only [Tryd.ntmps77, List.size_toArray, List.length_cons, List.length_nil, Nat.reduceAdd, Nat.reduceSub, Array.replicate_succ, Array.replicate_zero, List.push_toArray, List.append_toArray, List.nil_append, List.cons_append]
  gi_wp2
  have hfit0 : (w.alloc (.cells #[.func (.func 79) #[] #[]] 46)).cell? ⟨w.heap.size, 0, none⟩ = some (.func (.func 79) #[] #[]) := (Boxed.new w 46 (.func (.func 79) #[] #[])).cell
  have hBw : Below w.heap.size w (w.alloc (.cells #[.func (.func 79) #[] #[]] 46)) := (Below.refl _ w).alloc (Nat.le_refl _) _
  have hsz : (w.alloc (.cells #[.func (.func 79) #[] #[]] 46)).heap.size = w.heap.size + 1 := World.size_alloc _ _
  obtain ⟨w1, hw1⟩ : ∃ w1, w.alloc (.cells #[.func (.func 79) #[] #[]] 46) = w1 := ⟨_, rfl⟩
  rw [hw1] at hfit0 hBw hsz ⊢
  clear hw1
  rw [← hsz]
  have HSZ := hide hsz
  clear hsz
  have hbs1 : Bs < w1.heap.size := by have := HSZ.out; omega
  have hfl : w.heap.size < w1.heap.size := by have := HSZ.out; omega
  have hc1 : w1.cell? ⟨Bs, 0, none⟩ = some (.int .u64 (m : Int)) := (hBw.cell (p := ⟨Bs, 0, none⟩) hBs).trans hcB
  have bO := Boxed.new w1 36 (.slice none 0 0)
  have hB0 : Below w1.heap.size w1 (w1.alloc (.cells #[.slice none 0 0] 36)) := (Below.refl _ w1).alloc (Nat.le_refl _) _
  have hc2 : (w1.alloc (.cells #[.slice none 0 0] 36)).cell? ⟨Bs, 0, none⟩ = some (.int .u64 (m : Int)) := (hB0.cell (p := ⟨Bs, 0, none⟩) hbs1).trans hc1
  refine wpIn_rangeFunc_ownG hro h1 (gf := 82) (lb := #[.pointer (some ⟨Bs, 0, none⟩)]) rfl h29 (enters_of Tryd.func82 (by kernel_rfl) rfl)
    (all_stops F (n - 1) h29 h8 h24 hro (by omega) Bs w1.heap.size m hm _ hbs1 (by simp) hc2) belowK_t (belowK_b (by simp)) (Below.refl _ _) (fun _ => rfl)
    (fun pre W => (∃ v, Boxed W w1.heap.size 36 v ∧ W.ownsRow w1.heap.size 3 1 v pre.length (vals pre) ∧ Fits p pre) ∧ Below w1.heap.size w1 W)
    (fun c pre W => (∃ v, Boxed W w1.heap.size 36 v ∧ W.ownsRow w1.heap.size 3 1 v pre.dropLast.length (vals pre.dropLast) ∧ (c = .exit 0 ∧ ∃ l x, pre = l ++ [x] ∧ Fits p l ∧ p l.length x = false)) ∧ Below w1.heap.size w1 W)
    (OwnFrom.and (Own.from (holdsRow_own w1.heap.size w1.heap.size 36 3 1 (fun pre : List Nat => pre.length) (fun pre => vals pre) (fun pre _ => Fits p pre)) _) (ownFrom_below (Nat.le_refl _) (by simp)))
    (fun c => OwnFrom.and (Own.from (holdsRow_own w1.heap.size w1.heap.size 36 3 1 (fun pre : List Nat => pre.dropLast.length) (fun pre => vals pre.dropLast) (fun pre _ => c = .exit 0 ∧ ∃ l x, pre = l ++ [x] ∧ Fits p l ∧ p l.length x = false)) _) (ownFrom_below (Nat.le_refl _) (by simp)))
    ⟨⟨_, bO, World.ownsRow_nil _ _ _ _, Fits.nil p⟩, hB0⟩
    (fun x => { tmps := #[.func (.func 82) #[] #[.pointer (some ⟨Bs, 0, none⟩)], .func (.func 79) #[] #[], undef, .pointer (some ⟨w.heap.size, 0, none⟩), .slice none 0 0, .pointer (some ⟨w1.heap.size, 0, none⟩), .int .i64 (x : Int), .func (.func 82) #[] #[.pointer (some ⟨Bs, 0, none⟩)], .int .i64 (x : Int), undef, undef, undef, undef, undef, undef, undef, undef, undef, undef, undef], defers := [] }) ?assign ?body ?done ?stop
  case assign =>
    intro l x W K hK
    gi_wp2
    exact hK
  case body =>
    rintro l pre x W ⟨⟨v, hv, hrow, hfits⟩, hB⟩ hlt
    have hc := hv.cell
    have hcf : W.cell? ⟨w.heap.size, 0, none⟩ = some (.func (.func 79) #[] #[]) := (hB.cell (p := ⟨w.heap.size, 0, none⟩) hfl).trans hfit0
    obtain ⟨va, vcap, rfl⟩ := ownsRow_slice hrow
    have cp := fun W => hp pre.length x W
    cases hb : p pre.length x
    · simp only [hb] at cp
      have HB := hide hb
      clear hb
      gi_wp2_with (gi_at_call 79; refine (CallsIn.inRound l (cp _)).mono ?_; rintro e w5 ⟨rfl, hx⟩; obtain rfl := hx.symm; clear hx)
      exact ⟨KeepsFrom.refl _ _, ⟨_, hv, by simpa using hrow, rfl, pre, x, rfl, hfits, HB.out⟩, hB⟩
    · simp only [hb] at cp
      have HB := hide hb
      clear hb
      gi_wp2_with (first | (gi_at_call 79; refine (CallsIn.inRound l (cp _)).mono ?_; rintro e w5 ⟨rfl, hx⟩; obtain rfl := hx.symm; clear hx) | (gi_at_builtin; refine wpListIn_append_own _ rfl _ _ 36 rfl w1.heap.size 3 i0 (.int .i64 0) 1 8 Tryd.underlying36 hi hz0 hz1 hz2 rfl (by decide) _ _ _ rfl (hrow.alloc _) ⟨W.heap.size, 0, none⟩ 1 1 [.int .i64 (x : Int)] rfl rfl (cell_one_new _ _ _) (by simp [Value.oneCell']) (by unfold maxLen; omega) (by omega) (by have := hB.size; simp; omega) ?_; intro v' w2 hown' hgrow _; obtain ⟨g', cap', rfl⟩ := ownsRow_succ hown'; obtain ⟨hv1, hv2, hr2, hk2, hb2⟩ := hv.appended (by decide) hrow hB.size (Nat.le_refl _) hown' hgrow; have hc1 := hv1.cell; have hf1 := hv1.frozen))
      exact ⟨hk2.from _, hb2, ⟨_, hv2, by rw [vals_snoc]; simpa using hr2, hfits.snoc HB.out⟩, hB.trans hb2⟩
  case done =>
    rintro D ys W hD rfl ⟨⟨v, hv, hrow, hfits⟩, hB⟩ hK
    have hc := hv.cell
    gi_wp2
    refine ⟨by simp, .inl ⟨_, _, rfl, run_takeDeferred hK, ?_⟩⟩
    exact ⟨_, results_tmp rfl _ _ _, v, setN m, rfl, ⟨hfits, .inl rfl⟩, ownsRow_low (Nat.le_of_lt hfl) (ownsRow_putObj hrow _ hK rfl), hBw.trans ((hB.trans (belowK_b (w := w1) (Nat.le_refl _) W D _ _ (by simp at hD; omega) hK rfl rfl)).mono (Nat.le_of_lt hfl))⟩
  case stop =>
    rintro D c pre W hD hpre ⟨⟨v, hv, hrow, rfl, l, x, rfl, hfits, hno⟩, hB⟩ hK
    have hc := hv.cell
    rw [List.dropLast_concat] at hrow
    gi_wp2
    refine ⟨by simp, .inl ⟨_, _, rfl, run_takeDeferred hK, ?_⟩⟩
    exact ⟨_, results_tmp rfl _ _ _, v, l, rfl, ⟨hfits, .inr ⟨x, hpre, hno⟩⟩, ownsRow_low (Nat.le_of_lt hfl) (ownsRow_putObj hrow _ hK rfl), hBw.trans ((hB.trans (belowK_b (w := w1) (Nat.le_refl _) W D _ _ (by simp at hD; omega) hK rfl rfl)).mono (Nat.le_of_lt hfl))⟩
end Go.Proofs.YtbfcbjjhdadicaaDoor.Wn
namespace Go.Proofs.YtbfcbjjhdadicaaDoor.Wn
open Go.RowKit Go.Shelf
attribute [local go_sem] Oper.semAt_some
theorem fits_range {l : List Nat} (h : Fits (fun k x => decide (x = k)) l) : l = List.range l.length := by
  apply List.ext_getElem (by simp)
  intro k h1 h2
  have := of_decide_eq_true (h k h1)
  rw [List.getElem_range]; exact this
theorem longest_ones {m : Nat} {l : List Nat} (h : Longest (fun k x => decide (x = k)) (setN m) l) : onesN m = l.length := by
  have hl := fits_range h.1
  rcases h.2 with e | ⟨x, hp, hx⟩
  · exact ones_done (by rw [← e]; exact hl)
  · refine ones_stop (x := x) (by rw [← hl]; exact hp) (of_decide_eq_false hx)
theorem longest_many {m : Nat} {l : List Nat} (h : Longest (fun _ _ => true) (setN m) l) : l = setN m := by
  rcases h.2 with e | ⟨x, hp, hx⟩
  · exact e
  · cases hx
set_option maxHeartbeats 400000 in
theorem all_iter_in (F : Fence) (n : Nat) (hf : F.fn 78) (hro : F.round = none) (m : Nat) (w : World) :
    CallsIn F n Tryd.prog 78 #[.int .u64 (m : Int)] w fun e w' => e = .returned (.func (.func 82) #[] #[.pointer (some ⟨w.heap.size, 0, none⟩)]) ∧ w' = w.alloc (.cells #[.int .u64 (m : Int)] 67) := by
  refine callsIn_of_wp Tryd.func78 rfl hf ?_ hro
  simp only [Tryd.ntmps78, List.size_toArray, List.length_cons, List.length_nil, Nat.reduceAdd, Nat.reduceSub, Array.replicate_succ, Array.replicate_zero, List.push_toArray, List.append_toArray, List.nil_append, List.cons_append]
  gi_wp2
  go_ret
  exact ⟨rfl, rfl⟩
theorem all_iter_any (m : Nat) (w : World) :
    Calls Tryd.prog 78 #[.int .u64 (m : Int)] w fun e w' => e = .returned (.func (.func 82) #[] #[.pointer (some ⟨w.heap.size, 0, none⟩)]) ∧ w' = w.alloc (.cells #[.int .u64 (m : Int)] 67) :=
  (callsIn_wide (n := 8)).1 (all_iter_in _ 8 trivial rfl m w)
theorem ones1_in (F : Fence) (n : Nat) (hf : F.fn 79) (hro : F.round = none) (k x : Nat) (w : World) :
    CallsIn F n Tryd.prog 79 #[.int .i64 (k : Int), .int .i64 (x : Int)] w fun e w' => e = .returned (.bool (decide (x = k))) ∧ w' = w := by
  refine callsIn_of_wp Tryd.func79 rfl hf ?_ hro
  simp only [Tryd.ntmps79, List.size_toArray, List.length_cons, List.length_nil, Nat.reduceAdd, Nat.reduceSub, Array.replicate_succ, Array.replicate_zero, List.push_toArray, List.append_toArray, List.nil_append, List.cons_append]
  gi_wp2
  go_ret
  exact ⟨ret_bool (by rw [Bool.eq_iff_iff]; simp; omega), rfl⟩
theorem boxU (m : Nat) (w : World) : (w.alloc (.cells #[.int .u64 (m : Int)] 67)).cell? ⟨w.heap.size, 0, none⟩ = some (.int .u64 (m : Int)) := (Boxed.new w 67 (.int .u64 (m : Int))).cell
theorem asLongO_any (Bs : Nat) (m : Nat) (hm : m < 2 ^ 64) (w : World) (hBs : Bs < w.heap.size) (hcB : w.cell? ⟨Bs, 0, none⟩ = some (.int .u64 (m : Int))) :
    Calls Tryd.prog 77 #[.func (.func 82) #[] #[.pointer (some ⟨Bs, 0, none⟩)], .func (.func 79) #[] #[]] w fun e W' => ∃ v l, e = .returned v ∧ Longest (fun k x => decide (x = k)) (setN m) l ∧ W'.ownsRow w.heap.size 3 1 v l.length (vals l) ∧ Below w.heap.size w W' :=
  (callsIn_wide (n := 8)).1 (asLongO_in _ 8 trivial trivial trivial trivial rfl (by decide) trivial _ (fun k x W => ones1_in _ _ trivial rfl k x W) Bs m hm w hBs hcB)
set_option maxHeartbeats 400000 in
theorem ones_any (m : Nat) (hm : m < 2 ^ 64) (w : World) :
    Calls Tryd.prog 70 #[.int .u64 (m : Int)] w fun e w' => e = .returned (.int .i64 (onesN m : Int)) ∧ Below w.heap.size w w' := by
  have c := all_iter_any m w
  have c2 := asLongO_any w.heap.size m hm (w.alloc (.cells #[.int .u64 (m : Int)] 67)) (by simp) (boxU m w)
  have hb0 : Below w.heap.size w (w.alloc (.cells #[.int .u64 (m : Int)] 67)) := (Below.refl _ _).alloc (Nat.le_refl _) _
  obtain ⟨w1, hw1⟩ : ∃ w1, w.alloc (.cells #[.int .u64 (m : Int)] 67) = w1 := ⟨_, rfl⟩
  rw [hw1] at c c2 hb0
  clear hw1
  go_enter Tryd.func70, Tryd.ntmps70
  go_wp2_with (first | (go_at_call 78; refine c.mono ?_; rintro e w3 ⟨rfl, hx⟩; obtain rfl := hx.symm; clear hx) | (go_at_call 77; refine c2.mono ?_; rintro e w2 ⟨v, l, rfl, hl, hrow, hb⟩; obtain ⟨va, vcap, rfl⟩ := ownsRow_slice hrow; have HL := hide (longest_ones hl); clear hl))
  go_ret
  exact ⟨ret_int (by rw [HL.out]), hb0.trans (hb.mono hb0.size)⟩
end Go.Proofs.YtbfcbjjhdadicaaDoor.Wn
namespace Go.Proofs.YtbfcbjjhdadicaaDoor.Wn
open Go.RowKit
set_option maxRecDepth 100000 in
theorem own_cell {w : World} {base : Nat} {e : TypeId} {g n cap : Nat} {ts : List Int} {p : Nat} {x : Int} (h : w.ownsRow base e 1 (.slice (some ⟨g, 0, none⟩) n cap) n (ts.map (Value.int .i64))) (hp : ts[p]? = some x) : w.cell? ⟨g, p, none⟩ = some (.int .i64 x) := by
  have := h.cells (g := g) rfl p (.int .i64 x) (by rw [List.getElem?_map, hp]; rfl)
  by_cases h0 : p = 0
  · rw [h0] at this ⊢; simpa [Addr.add] using this
  · simpa [Addr.add, h0] using this
set_option maxRecDepth 100000 in
theorem RowI.cellsAt {w : World} {x : Addr} {zs : List Int} (h : RowI w (some x) zs) : ∀ j u, (zs.map (Value.int .i64))[j]? = some u → w.cell? (x.add j) = some u := by
  intro j u hu
  obtain ⟨h1, rfl | ⟨b, off, hx, hb, hc⟩⟩ := h
  · simp at hu
  · simp only [Option.some.injEq] at hx
    subst hx
    rw [List.getElem?_map] at hu
    cases hz : zs[j]? with
    | none => simp [hz] at hu
    | some z =>
      simp [hz] at hu
      subst hu
      have hj : j < zs.length := (List.getElem?_eq_some_iff.1 hz).1
      have := hc j hj
      rw [hz] at this
      by_cases h0 : j = 0
      · subst h0; simpa [Addr.add] using this
      · simpa [Addr.add, h0] using this
set_option maxRecDepth 100000 in
theorem RowI.none_nil {w : World} {zs : List Int} (h : RowI w none zs) : zs = [] := by
  obtain ⟨h1, h | ⟨b, off, hx, hb, hc⟩⟩ := h
  · exact h
  · cases hx
set_option maxRecDepth 100000 in
theorem RowI.src {w : World} {a : Option Addr} {zs : List Int} (h : RowI w a zs) (cap : Nat) : Src Tryd.prog 1 36 (.slice a zs.length cap) zs.length (zs.map (Value.int .i64)) w := by
  cases a with
  | none => obtain rfl := h.none_nil; exact Src.ofNil w Tryd.underlying36 cap
  | some x =>
    refine Src.ofSlice w Tryd.underlying36 x zs.length cap _ (by simp) h.cellsAt (fun u hu => ?_)
    obtain ⟨z, _, rfl⟩ := List.mem_map.1 hu
    rfl
set_option maxRecDepth 100000 in
theorem own_rowI {w : World} {base : Nat} {v : Value} {zs : List Int} (h : w.ownsRow base 3 1 v zs.length (zs.map (Value.int .i64))) (hm : zs.length ≤ maxLen) :
    ∃ a cap, v = .slice a zs.length cap ∧ RowI w a zs := by
  rcases h.2 with ⟨rfl, h0⟩ | ⟨g, cap, cur, rfl, hb, hg, hn, hcm, hcs, ht⟩
  · have : zs = [] := List.eq_nil_of_length_eq_zero h0
    subst this
    exact ⟨none, 0, rfl, hm, Or.inl rfl⟩
  · refine ⟨_, cap, rfl, hm, Or.inr ⟨g, 0, rfl, (Array.getElem?_eq_some_iff.1 hg).1, fun j hj => ?_⟩⟩
    rw [Nat.zero_add, List.getElem?_eq_getElem hj]
    exact own_cell h (List.getElem?_eq_getElem hj)
set_option maxRecDepth 100000 in
theorem vals_ints (l : List Nat) : vals l = (ints l).map (Value.int .i64) := by simp [vals, ints]
set_option maxRecDepth 100000 in
theorem ints_length (l : List Nat) : (ints l).length = l.length := by simp [ints]
set_option maxRecDepth 100000 in
theorem own_set {w : World} {base : Nat} {v : Value} {l : List Nat} (h : w.ownsRow base 3 1 v l.length (vals l)) (hl : l.length ≤ 64) :
    ∃ a cap, v = .slice a l.length cap ∧ RowI w a (ints l) := by
  rw [vals_ints, ← ints_length l] at h
  have := own_rowI h (by rw [ints_length]; unfold maxLen; omega)
  rwa [ints_length] at this
set_option maxHeartbeats 1000000 in
set_option maxRecDepth 100000 in
theorem refList_any (m : Nat) (hm : m < 2 ^ 64) (w : World) :
    Calls Tryd.prog 71 #[.int .u64 (m : Int)] w fun e w' => ∃ v, e = .returned v ∧ w'.ownsRow w.heap.size 3 1 v (setN m).length (vals (setN m)) ∧ Below w.heap.size w w' := by
  obtain ⟨i0, hi, hz0, hz1, hz2⟩ := info_parts info3
  go_enter Tryd.func71, Tryd.ntmps71
  go_wp2
  go_loopw [3, 4] (fun v kv wr => ∃ k : Nat, k ≤ 64 ∧ kv = .int .i64 (k : Int) ∧ wr.ownsRow w.heap.size 3 1 v (setUp m k).length (vals (setUp m k)) ∧ Below w.heap.size w wr) (fun _ kv _ => 64 - (intOf kv).toNat)
  case atStart => exact ⟨0, by omega, rfl, World.ownsRow_nil _ _ _ _, Below.refl _ _⟩
  case round =>
    obtain ⟨k, hk, rfl, hrow, hB⟩ := hrel
    by_cases hlt : k < 64
    · have ch := refHas_any m hm (k : Int)
      rw [hasN_cast _ _ hlt] at ch
      cases hb : m.testBit k
      · rw [hb] at ch
        have HU := hide (setUp_no hb)
        clear hb
        obtain ⟨va, vcap, rfl⟩ := ownsRow_slice hrow
        go_wp2_with (go_at_call 60; refine (ch _).mono ?_; rintro e w1 ⟨rfl, hx⟩; obtain rfl := hx.symm; clear hx)
        go_roundw
        case rel => exact ⟨k + 1, by omega, by go_num, by rw [HU.out]; exact hrow, hB⟩
        case measure => simp [intOf]; omega
      · rw [hb] at ch
        have HU := hide (setUp_yes hb)
        clear hb
        have hlen := setUp_len m k
        generalize setUp m k = l at *
        obtain ⟨va, vcap, rfl⟩ := ownsRow_slice hrow
        go_wp2_with (first | (go_at_call 60; refine (ch _).mono ?_; rintro e w1 ⟨rfl, hx⟩; obtain rfl := hx.symm; clear hx) | (at_builtin; refine wpList_append_own_src _ rfl _ _ 36 36 rfl w.heap.size 3 i0 (.int .i64 0) 1 8 Tryd.underlying36 hi hz0 hz1 hz2 rfl _ l.length (vals l) rfl (hrow.alloc _) (.slice (some ⟨wr.heap.size, 0, none⟩) 1 1) 1 [.int .i64 (k : Int)] rfl (Src.ofSlice _ Tryd.underlying36 ⟨wr.heap.size, 0, none⟩ 1 1 _ (by simp) (cell_one_new _ _ _) (by simp [Value.oneCell'])) ?c1 ?c2 ?c3 ?_))
        case c1 => unfold maxLen; omega
        case c2 => omega
        case c3 => have := hB.size; simp; omega
        intro v2 w2 hown2 hgr2
        have hB1 : Below w.heap.size w (wr.alloc (.cells #[.int .i64 (k : Int)] 3)) := hB.alloc hB.size _
        have hB2 : Below w.heap.size w w2 := hB1.grown hgr2 (by have := hB.size; simp; omega) (fun j hj => ((hrow.alloc (.cells #[.int .i64 (k : Int)] 3)).lt j hj).1)
        obtain ⟨va, vcap, rfl⟩ := ownsRow_slice hown2
        go_wp2_with fail
        go_roundw
        case rel => exact ⟨k + 1, by omega, by go_num, by rw [HU.out, vals_snoc]; simpa using hown2, hB2⟩
        case measure => simp [intOf]; omega
    · obtain rfl : k = 64 := by omega
      obtain ⟨va, vcap, rfl⟩ := ownsRow_slice hrow
      go_wp2_with fail
      go_ret
      exact ⟨_, rfl, hrow, hB⟩
set_option maxRecDepth 100000 in
theorem ofN_take (l : List Int) (k : Nat) (h : k < l.length) : ofN 0 (l.take (k + 1)) = withN (ofN 0 (l.take k)) l[k] := by
  rw [List.take_succ_eq_append_getElem h, ofN_append]; rfl
set_option maxRecDepth 100000 in
theorem rowI_cell {w wr : World} {a : Option Addr} {zs : List Int} (h : RowI w a zs) (hB : Below w.heap.size w wr) {k : Nat} (hk : k < zs.length) : ∃ b off, a = some ⟨b, off, none⟩ ∧ wr.cell? ⟨b, off + k, none⟩ = some (.int .i64 zs[k]) := by
  rcases h.2 with rfl | ⟨b, off, rfl, hb, hc⟩
  · simp at hk
  · refine ⟨b, off, rfl, ?_⟩
    rw [hB.cell (p := ⟨b, off + k, none⟩) hb, hc k hk, List.getElem?_eq_getElem hk]; rfl
set_option maxRecDepth 100000 in
theorem down_take (l : List Int) (n : Int) (k : Nat) (h : k < l.length) : ofN 0 ((l.map (fun x => x - n)).take (k + 1)) = withN (ofN 0 ((l.map (fun x => x - n)).take k)) (l[k] - n) := by
  rw [ofN_take _ k (by simpa using h)]; simp
end Go.Proofs.YtbfcbjjhdadicaaDoor.Wn
namespace Go.Proofs.YtbfcbjjhdadicaaDoor.Wn
def goodW (B : Int) (m : Nat) : Bool := decide (1 ≤ B ∧ B ≤ 1099511627777) && !m.testBit 0 && decide (downN m (1099511627777 - B) = 0)
def inW (B : Int) (m : Nat) (n : Int) : Bool := decide (n < B) || hasN m (n - B)
def doneW (B : Int) (m : Nat) (n : Int) : Bool := goodW B m && decide (1 ≤ n) && inW B m n
def countW (B : Int) (m : Nat) : Int := if goodW B m then B - 1 + (setN m).length else 0
def askW (B : Int) (m : Nat) (s n : Int) : Int := if goodW B m = true ∧ 1 ≤ s ∧ s ≤ 64 ∧ 1 ≤ n ∧ n ≤ 1099511627776 then (if doneW B m n then 90 else if s ≤ n - B then 91 else 0) else 2
def setB (B : Int) (m : Nat) : Int := B + (onesN m : Int)
def setM (m : Nat) : Nat := downN m (onesN m : Int)
theorem down_shift (m : Nat) (n : Int) (h : 0 ≤ n) : downN m n = m >>> n.toNat := by
  unfold downN; split
  · rw [show n.toNat = 0 by omega]; rfl
  · rfl
theorem down_zero {m : Nat} (n : Int) (h : 0 ≤ n) : downN m n = 0 ↔ ∀ j, m.testBit j = true → (j : Int) < n := by
  rw [down_shift m n h, Nat.shiftRight_eq_div_pow]
  constructor
  · intro e j hj
    have hlt : m < 2 ^ n.toNat := by
      rcases Nat.div_eq_zero_iff.1 e with h' | h'
      · exact absurd h' (Nat.ne_of_gt (Nat.two_pow_pos _))
      · exact h'
    rcases Nat.lt_or_ge j n.toNat with h' | h'
    · omega
    · rw [Nat.testBit_lt_two_pow (Nat.lt_of_lt_of_le hlt (Nat.pow_le_pow_right (by omega) h'))] at hj; cases hj
  · intro H
    apply Nat.div_eq_of_lt
    apply Nat.lt_pow_two_of_testBit
    intro i hi
    cases hb : m.testBit i
    · rfl
    · have := H i hb; omega
theorem good_iff {B : Int} {m : Nat} : goodW B m = true ↔ (1 ≤ B ∧ B ≤ 1099511627777) ∧ m.testBit 0 = false ∧ ∀ j, m.testBit j = true → B + (j : Int) ≤ 1099511627776 := by
  unfold goodW
  rw [Bool.and_eq_true, Bool.and_eq_true, decide_eq_true_eq, decide_eq_true_eq, Bool.not_eq_true']
  constructor
  · rintro ⟨⟨h1, h2⟩, h3⟩
    exact ⟨h1, h2, fun j hj => by have := (down_zero _ (by omega)).1 h3 j hj; omega⟩
  · rintro ⟨h1, h2, h3⟩
    exact ⟨⟨h1, h2⟩, (down_zero _ (by omega)).2 fun j hj => by have := h3 j hj; omega⟩
theorem onesUp_ge (m : Nat) : ∀ f n, n ≤ onesUp m f n ∧ onesUp m f n ≤ n + f ∧ (∀ j, n ≤ j → j < onesUp m f n → m.testBit j = true) ∧ (onesUp m f n < n + f → m.testBit (onesUp m f n) = false) := by
  intro f
  induction f with
  | zero => intro n; unfold onesUp; exact ⟨Nat.le_refl _, Nat.le_refl _, fun j a b => absurd b (by omega), fun h => absurd h (by omega)⟩
  | succ f ih =>
    intro n
    unfold onesUp
    cases hb : m.testBit n
    · simp only [Bool.false_eq_true, if_false]
      exact ⟨Nat.le_refl _, by omega, fun j a b => absurd b (by omega), fun _ => hb⟩
    · simp only [if_true]
      obtain ⟨h1, h2, h3, h4⟩ := ih (n + 1)
      refine ⟨by omega, by omega, fun j a b => ?_, fun h => h4 (by omega)⟩
      rcases Nat.lt_or_eq_of_le a with h | rfl
      · exact h3 j h b
      · exact hb
theorem ones_le (m : Nat) : onesN m ≤ 64 := by have := (onesUp_ge m 64 0).2.1; unfold onesN; omega
theorem ones_set (m : Nat) {j : Nat} (h : j < onesN m) : m.testBit j = true := (onesUp_ge m 64 0).2.2.1 j (Nat.zero_le _) h
theorem ones_end (m : Nat) (h : onesN m < 64) : m.testBit (onesN m) = false := (onesUp_ge m 64 0).2.2.2 (by unfold onesN at h; omega)
theorem ones_zero (m : Nat) : onesN m = 0 ↔ m.testBit 0 = false := by
  constructor
  · intro h; have := ones_end m (by omega); rwa [h] at this
  · intro h
    rcases Nat.eq_zero_or_pos (onesN m) with h' | h'
    · exact h'
    · rw [ones_set m h'] at h; cases h
theorem no_high {m : Nat} (h : m < 2 ^ 64) {j : Nat} (hj : 64 ≤ j) : m.testBit j = false :=
  Nat.testBit_lt_two_pow (Nat.lt_of_lt_of_le h (Nat.pow_le_pow_right (by omega) hj))
theorem setM_bit (m j : Nat) : (setM m).testBit j = m.testBit (onesN m + j) := by
  unfold setM; rw [down_shift _ _ (by omega), Nat.testBit_shiftRight]; simp
theorem setM_lt {m : Nat} (h : m < 2 ^ 64) : setM m < 2 ^ 64 := downN_lt h _
theorem setM_even {m : Nat} (h : m < 2 ^ 64) : (setM m).testBit 0 = false := by
  rw [setM_bit, Nat.add_zero]
  rcases Nat.lt_or_ge (onesN m) 64 with h' | h'
  · exact ones_end m h'
  · exact no_high h h'
theorem inW_set {m : Nat} (h : m < 2 ^ 64) (B n : Int) : inW (setB B m) (setM m) n = inW B m n := by
  have hL := ones_le m
  unfold inW setB
  by_cases h1 : n < B
  · rw [decide_eq_true (by omega : n < B + (onesN m : Int)), decide_eq_true h1]; simp
  · obtain ⟨k, hk⟩ : ∃ k : Nat, n - B = (k : Int) := ⟨(n - B).toNat, by omega⟩
    rw [decide_eq_false h1, hk, Bool.false_or]
    by_cases h2 : n < B + (onesN m : Int)
    · rw [decide_eq_true h2, Bool.true_or, hasN_cast _ _ (by omega), ones_set m (by omega)]
    · rw [decide_eq_false h2, Bool.false_or]
      obtain ⟨d, rfl⟩ : ∃ d, k = onesN m + d := ⟨k - onesN m, by omega⟩
      rw [show n - (B + (onesN m : Int)) = (d : Int) by omega]
      by_cases h3 : d < 64
      · rw [hasN_cast _ _ h3, setM_bit]
        by_cases h4 : onesN m + d < 64
        · rw [hasN_cast _ _ h4]
        · rw [hasN_out _ _ (by omega), no_high h (by omega)]
      · rw [hasN_out _ _ (by omega), hasN_out _ _ (by omega)]
theorem inW_with (B : Int) (m : Nat) (k n : Int) (h0 : B ≤ k) (h1 : k - B < 64) : inW B (withN m (k - B)) n = (inW B m n || decide (n = k)) := by
  unfold inW
  rw [has_with, Bool.or_assoc]
  congr 2
  apply decide_eq_decide.2
  omega
theorem setUp_shift (m L : Nat) : ∀ k, (setUp m (L + k)).length = (setUp m L).length + (setUp (m >>> L) k).length := by
  intro k
  induction k with
  | zero => simp [setUp]
  | succ k ih =>
    rw [← Nat.add_assoc, setUp_succ, setUp_succ, List.length_append, List.length_append, ih, Nat.testBit_shiftRight]
    cases m.testBit (L + k) <;> simp <;> omega
theorem setUp_all {m : Nat} : ∀ L, (∀ j, j < L → m.testBit j = true) → (setUp m L).length = L := by
  intro L
  induction L with
  | zero => intro _; rfl
  | succ L ih => intro h; rw [setUp_yes (h L (by omega)), List.length_append, ih fun j hj => h j (by omega)]; rfl
theorem setUp_none {m : Nat} {k : Nat} : ∀ d, (∀ j, k ≤ j → m.testBit j = false) → (setUp m (k + d)).length = (setUp m k).length := by
  intro d
  induction d with
  | zero => intro _; rfl
  | succ d ih => intro h; rw [← Nat.add_assoc, setUp_no (h _ (by omega)), ih h]
theorem many_set {m : Nat} (h : m < 2 ^ 64) : (setN m).length = onesN m + (setN (setM m)).length := by
  have hL := ones_le m
  have e1 := setUp_shift m (onesN m) (64 - onesN m)
  rw [show onesN m + (64 - onesN m) = 64 by omega, setUp_all _ (fun j hj => ones_set m hj)] at e1
  have e2 := setUp_none (m := setM m) (k := 64 - onesN m) (onesN m) (fun j hj => by rw [setM_bit]; exact no_high h (by omega))
  rw [show 64 - onesN m + onesN m = 64 by omega] at e2
  unfold setN
  rw [e1, e2]
  unfold setM; rw [down_shift _ _ (by omega)]; simp
theorem ask_ok {B : Int} {m : Nat} {s n : Int} (h : askW B m s n = 0) : goodW B m = true ∧ 1 ≤ n ∧ n ≤ 1099511627776 ∧ inW B m n = false ∧ B ≤ n ∧ n - B < s ∧ s ≤ 64 := by
  unfold askW at h
  split at h
  · rename_i hc
    obtain ⟨h1, h2, h3, h4, h5⟩ := hc
    split at h
    · cases h
    · rename_i hd
      have hi : inW B m n = false := by
        cases hb : inW B m n
        · rfl
        · exfalso; apply hd; unfold doneW; rw [h1, hb, decide_eq_true h4]; rfl
      split at h
      · cases h
      · rename_i hs
        refine ⟨h1, h4, h5, hi, ?_, by omega, h3⟩
        unfold inW at hi
        rw [Bool.or_eq_false_iff] at hi
        have := of_decide_eq_false hi.1
        omega
  · cases h
def mkM (B : Int) (m : Nat) (n : Int) : Nat := withN m (n - B)
theorem mark_good {B : Int} {m : Nat} {s n : Int} (hm : m < 2 ^ 64) (h : askW B m s n = 0) : goodW (setB B (mkM B m n)) (setM (mkM B m n)) = true := by
  obtain ⟨hg, h1, h2, h3, h4, h5, h6⟩ := ask_ok h
  obtain ⟨g1, g2, g3⟩ := good_iff.1 hg
  have hx := withN_lt hm (n - B)
  have hall : ∀ j, (mkM B m n).testBit j = true → B + (j : Int) ≤ 1099511627776 := by
    intro j hj
    unfold mkM at hj
    rw [testBit_withN, Bool.or_eq_true] at hj
    rcases hj with hj | hj
    · exact g3 j hj
    · have := of_decide_eq_true hj; omega
  refine good_iff.2 ⟨?_, setM_even hx, ?_⟩
  · unfold setB
    have hL := ones_le (mkM B m n)
    refine ⟨by omega, ?_⟩
    rcases Nat.eq_zero_or_pos (onesN (mkM B m n)) with h' | h'
    · omega
    · have := hall (onesN (mkM B m n) - 1) (ones_set _ (by omega)); omega
  · intro j hj
    rw [setM_bit] at hj
    have := hall _ hj
    unfold setB; omega
theorem mark_in {B : Int} {m : Nat} {s n : Int} (hm : m < 2 ^ 64) (h : askW B m s n = 0) (x : Int) : inW (setB B (mkM B m n)) (setM (mkM B m n)) x = (inW B m x || decide (x = n)) := by
  obtain ⟨hg, h1, h2, h3, h4, h5, h6⟩ := ask_ok h
  unfold mkM
  rw [inW_set (withN_lt hm _)]
  exact inW_with B m n x h4 (by omega)
theorem mark_count {B : Int} {m : Nat} {s n : Int} (hm : m < 2 ^ 64) (h : askW B m s n = 0) : countW (setB B (mkM B m n)) (setM (mkM B m n)) = countW B m + 1 := by
  have hg' := mark_good hm h
  obtain ⟨hg, h1, h2, h3, h4, h5, h6⟩ := ask_ok h
  unfold countW
  rw [if_pos hg', if_pos hg]
  have hx := withN_lt hm (n - B)
  have e := many_set hx
  have e2 := many_with m (n - B)
  have hn : hasN m (n - B) = false := by
    unfold inW at h3; rw [Bool.or_eq_false_iff] at h3; exact h3.2
  rw [hn, decide_eq_true (by omega : 0 ≤ n - B ∧ n - B < 64)] at e2
  have e3 := of_decide_eq_true e2
  unfold setB mkM
  omega
theorem done_in {B : Int} {m : Nat} (h : goodW B m = true) (n : Int) : doneW B m n = (decide (1 ≤ n) && inW B m n) := by unfold doneW; rw [h, Bool.true_and]
theorem window_ext {B B' : Int} {m m' : Nat} (hm : m < 2 ^ 64) (hm' : m' < 2 ^ 64) (g : goodW B m = true) (g' : goodW B' m' = true) (h : ∀ x, 1 ≤ x → inW B m x = inW B' m' x) : B = B' ∧ m = m' := by
  obtain ⟨g1, g2, g3⟩ := good_iff.1 g
  obtain ⟨k1, k2, k3⟩ := good_iff.1 g'
  have a1 : inW B m B = false := by
    unfold inW; rw [decide_eq_false (by omega), show B - B = ((0 : Nat) : Int) by omega, hasN_cast _ _ (by omega), g2]; rfl
  have a2 : inW B' m' B' = false := by
    unfold inW; rw [decide_eq_false (by omega), show B' - B' = ((0 : Nat) : Int) by omega, hasN_cast _ _ (by omega), k2]; rfl
  have e : B = B' := by
    rcases Int.lt_trichotomy B B' with hlt | he | hlt
    · have := h B g1.1
      rw [a1] at this
      unfold inW at this; rw [decide_eq_true hlt] at this; cases this
    · exact he
    · have := h B' k1.1
      rw [a2] at this
      unfold inW at this; rw [decide_eq_true hlt] at this; cases this
  refine ⟨e, eq_of_bits hm hm' fun j hj => ?_⟩
  have := h (B + j) (by omega)
  unfold inW at this
  rw [← e, decide_eq_false (by omega), show B + (j : Int) - B = (j : Int) by omega, hasN_cast _ _ hj, hasN_cast _ _ hj] at this
  simpa using this
end Go.Proofs.YtbfcbjjhdadicaaDoor.Wn
namespace Go.Proofs.YtbfcbjjhdadicaaDoor.Wn
open Go Go.RowKit
section
variable {P : Program} {ops : Array Oper} {Q : Exit → Act → World → Prop}
def HeldS (P : Program) (ops : Array Oper) (Q : Exit → Act → World → Prop) (S : World → Prop) (fuel : Nat) (listed : Array Bool) (a : Act) (w : World) : Prop :=
  wpAnyH P .any ops (NoPanic Q) S fuel listed a w
theorem hs_begin {id : Nat} {S : World → Prop} {a : Act} {w : World} (n : Nat) (hn : ops.size = n) (hm : P.follows .mixedOrders = true) (h : HeldS P ops Q S n (Array.replicate n false) a w.drew) : (Code.region id ops true).wp P Q a w := by
  subst hn
  exact wp_region_noPanic (wp_region_held hm h)
theorem hs_take {i : Nat} {S : World → Prop} {oi : Oper} {d : Option Nat} {v : Value} {fuel : Nat} {listed : Array Bool} {a : Act} {w : World} (hi : ops[i]? = some oi)
    (hs : Region.noSelect ops = true) (hf : Region.free .any ops listed i = true) (hr : (Region.ready .any ops listed).contains i = true)
    (hw : Region.wanted oi (yielded ops a.tmps) = true) (hy : ∀ w', S w' → (execOp a.eval oi).run P w' = .ok (.value v) w') (hS : S w) (hdst : oi.dst = d)
    (h : HeldS P ops Q S fuel (listed.setIfInBounds i true) (a.put d v) w) : HeldS P ops Q S (fuel + 1) listed a w := by
  subst hdst
  exact wpAnyH_take hi hs hf hr (fun _ _ _ h => h) (Or.inl ⟨hw, hy⟩) hS h
theorem hs_skip {i : Nat} {S : World → Prop} {oi : Oper} {d : Option Nat} {fuel : Nat} {listed : Array Bool} {a : Act} {w : World} (hi : ops[i]? = some oi)
    (hs : Region.noSelect ops = true) (hf : Region.free .any ops listed i = true) (hr : (Region.ready .any ops listed).contains i = true)
    (hw : Region.wanted oi (yielded ops a.tmps) = false) (hS : S w) (hdst : oi.dst = d)
    (h : HeldS P ops Q S fuel (listed.setIfInBounds i true) (a.put d undef) w) : HeldS P ops Q S (fuel + 1) listed a w := by
  subst hdst
  exact wpAnyH_take hi hs hf hr (fun _ _ _ h => h) (Or.inr ⟨hw, rfl⟩) hS h
theorem hs_call {i : Nat} {S : World → Prop} {oi : Oper} {d : Option Nat} {f : FuncId} {args : Array Value} {fuel : Nat} {listed : Array Bool} {a : Act} {w : World} (hi : ops[i]? = some oi)
    (hr : Region.ready .any ops listed = [i]) (hw : Region.wanted oi (yielded ops a.tmps) = true) (hy : (execOp a.eval oi).run P w = .ok (.enter f args) w) (hdst : oi.dst = d)
    (h : Calls P f args w fun e w' => ∃ v, e = .returned v ∧ S w' ∧ HeldS P ops Q S fuel (listed.setIfInBounds i true) (a.put d v) w') : HeldS P ops Q S (fuel + 1) listed a w := by
  subst hdst
  refine wpAnyH_all hr (by simp) ?_
  intro j hj
  obtain rfl : j = i := by simpa using hj
  unfold wpOp
  simp only [hi, hw, if_true]
  left
  unfold Oper.wp
  rw [hy]
  refine h.mono ?_
  rintro e w' ⟨v, rfl, hb, hk⟩
  exact ⟨hb, hk⟩
/-- an operation that comes up alone and makes memory of its own -/
theorem hs_run {i : Nat} {S : World → Prop} {oi : Oper} {d : Option Nat} {v : Value} {fuel : Nat} {listed : Array Bool} {a : Act} {w w' : World} (hi : ops[i]? = some oi)
    (hr : Region.ready .any ops listed = [i]) (hw : Region.wanted oi (yielded ops a.tmps) = true) (hy : (execOp a.eval oi).run P w = .ok (.value v) w') (hdst : oi.dst = d)
    (hS : S w') (h : HeldS P ops Q S fuel (listed.setIfInBounds i true) (a.put d v) w') : HeldS P ops Q S (fuel + 1) listed a w := by
  subst hdst
  refine wpAnyH_all hr (by simp) ?_
  intro j hj
  obtain rfl : j = i := by simpa using hj
  unfold wpOp
  simp only [hi, hw, if_true]
  left
  unfold Oper.wp
  rw [hy]
  exact ⟨hS, h⟩
/-- a store that comes up alone -/
theorem hs_store {i : Nat} {S : World → Prop} {oi : Oper} {fuel : Nat} {listed : Array Bool} {a : Act} {w w' : World} (hi : ops[i]? = some oi)
    (hr : Region.ready .any ops listed = [i]) (hw : Region.wanted oi (yielded ops a.tmps) = true) (hy : (execOp a.eval oi).run P w = .ok .skip w') (hdst : oi.dst = none)
    (hS : S w') (h : HeldS P ops Q S fuel (listed.setIfInBounds i true) a w') : HeldS P ops Q S (fuel + 1) listed a w := by
  refine wpAnyH_all hr (by simp) ?_
  intro j hj
  obtain rfl : j = i := by simpa using hj
  unfold wpOp
  simp only [hi, hw, if_true]
  left
  unfold Oper.wp
  rw [hy]
  refine ⟨hS, ?_⟩
  rw [hdst]
  exact h
theorem hs_done {S : World → Prop} {fuel : Nat} {listed : Array Bool} {a : Act} {w : World} (hr : Region.ready .any ops listed = []) (h : Q .normal a w) : HeldS P ops Q S fuel listed a w :=
  wpAnyH_done hr (NoPanic.normal h) fuel
end
end Go.Proofs.YtbfcbjjhdadicaaDoor.Wn
namespace Go.Proofs.YtbfcbjjhdadicaaDoor.Wn
open Go.RowKit
set_option maxRecDepth 100000 in
theorem range_below {w w' : World} {b o n : Nat} {cs : List Value} (h : w.rangeAt b o cs) (hb : Below n w w') (hn : b < n) : w'.rangeAt b o cs :=
  fun j u hu => (hb.cell (p := ⟨b, o + j, none⟩) hn).trans (h j u hu)
set_option maxRecDepth 100000 in
theorem there_below {w w' : World} {b o n m : Nat} (h : w.there b o m) (hb : Below n w w') (hn : b < n) : w'.there b o m :=
  fun j hj => ⟨by rw [hb.cell (p := ⟨b, o + j, none⟩) hn]; exact (h j hj).1, by rw [hb.frozen (p := ⟨b, o + j, none⟩) hn]; exact (h j hj).2⟩
set_option maxRecDepth 100000 in
theorem range_new (w : World) (arr : Array Value) (t : TypeId) : (w.alloc (.cells arr t)).rangeAt w.heap.size 0 arr.toList := fun j v hv => by
  rw [World.cell?_alloc_at _ _ _ _ rfl, Nat.zero_add]
  simpa using hv
set_option maxRecDepth 100000 in
theorem there_new (w : World) (arr : Array Value) (t : TypeId) : (w.alloc (.cells arr t)).there w.heap.size 0 arr.size := fun j hj => by
  refine ⟨?_, World.frozen?_alloc_at _ _ _ _ rfl⟩
  rw [World.cell?_alloc_at _ _ _ _ rfl, Nat.zero_add]
  simp [hj]
set_option maxRecDepth 100000 in
theorem below_sets {B b : Nat} {a : World} (hb : B ≤ b) : ∀ (vs : List Value) (o : Nat) (w : World), Below B a w → Below B a (w.setCells b o vs)
  | [], _, _, h => h
  | v :: r, o, _, h => below_sets hb r (o + 1) _ (h.setCell (p := ⟨b, o, none⟩) hb v)
set_option maxRecDepth 100000 in
theorem size_sets (b : Nat) : ∀ (vs : List Value) (o : Nat) (w : World), (w.setCells b o vs).heap.size = w.heap.size
  | [], _, _ => rfl
  | v :: r, o, _ => by rw [World.setCells, size_sets b r]; simp
set_option maxRecDepth 100000 in
theorem exec_load {P : Program} {o : Oper} {a : Act} {w : World} {ty : TypeId} {x : Operand} {b off : Nat} {v : Value} (ho : o.op = .load ty x) (hx : a.eval x = .pointer (some ⟨b, off, none⟩)) (hr : (loadVar ty ⟨b, off, none⟩).run P w = .ok v w) : (execOp a.eval o).run P w = .ok (.value v) w := by
  unfold execOp
  simp only [ho, hx, Instr.loadAt, Instr.sureAddr, Sem.run_bind, Sem.run_pure, Result.andThen_ok, hr]
set_option maxRecDepth 100000 in
theorem exec_store {P : Program} {o : Oper} {a : Act} {w w' : World} {ty : TypeId} {x y : Operand} {b off : Nat} {v : Value} (ho : o.op = .store ty x y) (hx : a.eval x = .pointer (some ⟨b, off, none⟩)) (hy : a.eval y = v) (hr : (storeVar ty ⟨b, off, none⟩ v).run P w = .ok () w') : (execOp a.eval o).run P w = .ok .skip w' := by
  unfold execOp
  simp only [ho, hx, hy, Instr.storeAt, Instr.sureAddr, Sem.run_bind, Sem.run_pure, Result.andThen_ok, hr]
abbrev winC (B m : Int) : List Value := [.int .i64 B, .int .u64 m]
abbrev winV (B m : Int) : Value := .agg #[.int .i64 B, .int .u64 m]
set_option maxRecDepth 100000 in
theorem infoW : (Tryd.prog.info? 69).map (·.size) = some 2 := by kernel_rfl
set_option maxRecDepth 100000 in
theorem win_load {w : World} {b : Nat} {B m : Int} (h : w.rangeAt b 0 (winC B m)) : (loadVar 69 ⟨b, 0, none⟩).run Tryd.prog w = .ok (winV B m) w :=
  run_loadVar_mid (P := Tryd.prog) w b 0 69 (winC B m) _ h Tryd.underlying69 rfl infoW
set_option maxRecDepth 100000 in
theorem win_store {w : World} {b : Nat} {B m : Int} (hT : w.there b 0 2) : (storeVar 69 ⟨b, 0, none⟩ (winV B m)).run Tryd.prog w = .ok () (w.setCells b 0 (winC B m)) :=
  run_storeVar_mid (P := Tryd.prog) w b 0 69 #[.int .i64 B, .int .u64 m] hT infoW (by simp [Value.oneCell'])
set_option maxRecDepth 100000 in
theorem win_set {w : World} {b : Nat} {B m : Int} (hT : w.there b 0 2) : (w.setCells b 0 (winC B m)).rangeAt b 0 (winC B m) :=
  World.rangeAt_setCells_same w b 0 (winC B m) (by simpa using hT)
set_option maxRecDepth 100000 in
theorem win_apart {w : World} {b c : Nat} {B m B' m' : Int} (h : w.rangeAt c 0 (winC B m)) (hne : c ≠ b) : (w.setCells b 0 (winC B' m')).rangeAt c 0 (winC B m) :=
  World.rangeAt_setCells_apart h b 0 _ (Or.inl hne)
set_option maxRecDepth 100000 in
/-- a boxed window, and new memory for the answer behind it -/
theorem two_box {w w1 : World} {B m : Int} (hb : Below ((w.alloc (.cells #[.int .i64 B, .int .u64 m] 69)).alloc (.cells #[.int .i64 0, .int .u64 0] 69)).heap.size ((w.alloc (.cells #[.int .i64 B, .int .u64 m] 69)).alloc (.cells #[.int .i64 0, .int .u64 0] 69)) w1) :
    w1.rangeAt w.heap.size 0 (winC B m) ∧ w1.there (w.heap.size + 1) 0 2 ∧ Below w.heap.size w w1 ∧ w.heap.size + 2 ≤ w1.heap.size := by
  have hs : (w.alloc (.cells #[.int .i64 B, .int .u64 m] 69)).heap.size = w.heap.size + 1 := World.size_alloc _ _
  have r1 := range_new w #[.int .i64 B, .int .u64 m] 69
  have b1 : Below w.heap.size w (w.alloc (.cells #[.int .i64 B, .int .u64 m] 69)) := (Below.refl _ _).alloc (Nat.le_refl _) _
  generalize w.alloc (.cells #[.int .i64 B, .int .u64 m] 69) = wa at *
  have hs2 : (wa.alloc (.cells #[.int .i64 0, .int .u64 0] 69)).heap.size = w.heap.size + 2 := by rw [World.size_alloc, hs]
  have t2 := there_new wa #[.int .i64 0, .int .u64 0] 69
  have b2 : Below wa.heap.size wa (wa.alloc (.cells #[.int .i64 0, .int .u64 0] 69)) := (Below.refl _ _).alloc (Nat.le_refl _) _
  have r2 := range_below r1 b2 (by omega)
  generalize wa.alloc (.cells #[.int .i64 0, .int .u64 0] 69) = wb at *
  rw [hs] at t2
  refine ⟨range_below r2 hb (by omega), there_below t2 hb (by omega), (b1.trans (b2.mono (by omega))).trans (hb.mono (by omega)), ?_⟩
  have := hb.size
  omega
set_option maxRecDepth 100000 in
theorem two_box_there {w w1 : World} {B m : Int} (hb : Below ((w.alloc (.cells #[.int .i64 B, .int .u64 m] 69)).alloc (.cells #[.int .i64 0, .int .u64 0] 69)).heap.size ((w.alloc (.cells #[.int .i64 B, .int .u64 m] 69)).alloc (.cells #[.int .i64 0, .int .u64 0] 69)) w1) :
    w1.there w.heap.size 0 2 := by
  have hs : (w.alloc (.cells #[.int .i64 B, .int .u64 m] 69)).heap.size = w.heap.size + 1 := World.size_alloc _ _
  have t1 := there_new w #[.int .i64 B, .int .u64 m] 69
  generalize w.alloc (.cells #[.int .i64 B, .int .u64 m] 69) = wa at *
  have hs2 : (wa.alloc (.cells #[.int .i64 0, .int .u64 0] 69)).heap.size = w.heap.size + 2 := by rw [World.size_alloc, hs]
  have b2 : Below wa.heap.size wa (wa.alloc (.cells #[.int .i64 0, .int .u64 0] 69)) := (Below.refl _ _).alloc (Nat.le_refl _) _
  exact there_below (there_below t1 b2 (by omega)) hb (by omega)
set_option maxRecDepth 100000 in
/-- a boxed window -/
theorem one_box {w w1 : World} {B m : Int} (hb : Below (w.alloc (.cells #[.int .i64 B, .int .u64 m] 69)).heap.size (w.alloc (.cells #[.int .i64 B, .int .u64 m] 69)) w1) :
    w1.rangeAt w.heap.size 0 (winC B m) ∧ Below w.heap.size w w1 ∧ w.heap.size < w1.heap.size := by
  have hs : (w.alloc (.cells #[.int .i64 B, .int .u64 m] 69)).heap.size = w.heap.size + 1 := World.size_alloc _ _
  have r1 := range_new w #[.int .i64 B, .int .u64 m] 69
  have b1 : Below w.heap.size w (w.alloc (.cells #[.int .i64 B, .int .u64 m] 69)) := (Below.refl _ _).alloc (Nat.le_refl _) _
  generalize w.alloc (.cells #[.int .i64 B, .int .u64 m] 69) = wa at *
  refine ⟨range_below r1 hb (by omega), b1.trans (hb.mono (by omega)), ?_⟩
  have := hb.size
  omega
end Go.Proofs.YtbfcbjjhdadicaaDoor.Wn
namespace Go.Proofs.YtbfcbjjhdadicaaDoor.Wn
open Go.RowKit
set_option maxRecDepth 100000 in
theorem wrap_id (x : Int) (h0 : -9223372036854775808 ≤ x) (h1 : x ≤ 9223372036854775807) : IntKind.i64.wrap x = x := by
  rw [IntKind.wrap_i64]; omega
set_option maxRecDepth 100000 in
theorem natz (d : Nat) : (((d : Nat) : Int) == 0) = decide (d = 0) := by
  by_cases h : d = 0
  · subst h; rfl
  · have : ¬ ((d : Int) = 0) := by omega
    simp [h]
set_option maxHeartbeats 1000000 in
set_option maxRecDepth 100000 in
theorem settled_any (B : Int) (m : Nat) (hm : m < 2 ^ 64) (h0 : 0 ≤ B) (h1 : B ≤ 1099511627777) (w : World) : Calls Tryd.prog 55 #[winV B (m : Int)] w fun e w' => e = .returned (winV (setB B m) (setM m : Int)) ∧ Below w.heap.size w w' := by
  have c1 := ones_any m hm
  have c2 := down_any m hm (onesN m : Int)
  have hL := ones_le m
  have HB : Hid (B + (onesN m : Int) = setB B m) := rfl
  have HM : Hid (downN m (onesN m : Int) = setM m) := rfl
  rw [HM.out] at c2
  generalize setM m = m2 at *
  generalize onesN m = L at *
  clear hm HM
  go_enter Tryd.func55, Tryd.ntmps55
  go_wp2_with fail
  refine (c1 _).mono ?_
  rintro e w1 ⟨rfl, hb⟩
  clear c1
  obtain ⟨hA, hT, hB1, hz⟩ := two_box hb
  clear hb
  go_wp2_with fail
  obtain ⟨w8, hw8⟩ : ∃ w8, w1.drew = w8 := ⟨_, rfl⟩
  refine hs_begin (S := (fun W => W.rangeAt w.heap.size 0 (winC B (m : Int)))) 10 rfl (by kernel_rfl) ?_
  have hS : (w8).rangeAt w.heap.size 0 (winC B (m : Int)) := by rw [← hw8]; exact hA
  have hT8 : (w8).there (w.heap.size + 1) 0 2 := by rw [← hw8]; exact hT
  have hB8 : Below w.heap.size w w8 := by rw [← hw8]; exact (Below.drew hB1)
  rw [hw8]
  clear hA hT hB1
  refine hs_take (i := 0) (d := some 7) (v := ?_) rfl (by kernel_rfl) (by kernel_rfl) (by kernel_rfl) (by rfl) ?_ hS rfl ?_
  rotate_left
  · intro w' hw
    go_simp
    try with_reducible rfl
  simp only [Act.put, List.setIfInBounds_toArray, List.set_cons_zero, List.set_cons_succ]
  refine hs_take (i := 1) (d := some 8) (v := ?_) rfl (by kernel_rfl) (by kernel_rfl) (by kernel_rfl) (by rfl) ?_ hS rfl ?_
  rotate_left
  · intro w' hw
    have q0 : w'.cell? ⟨w.heap.size, 0, none⟩ = some (.int .i64 B) := hw 0 _ rfl; have q1 : w'.cell? ⟨w.heap.size, 1, none⟩ = some (.int .u64 (m : Int)) := hw 1 _ rfl
    go_simp
    try with_reducible rfl
  simp only [Act.put, List.setIfInBounds_toArray, List.set_cons_zero, List.set_cons_succ]
  refine hs_take (i := 2) (d := some 9) (v := ?_) rfl (by kernel_rfl) (by kernel_rfl) (by kernel_rfl) (by rfl) ?_ hS rfl ?_
  rotate_left
  · intro w' hw
    go_simp
    try with_reducible rfl
  simp only [Act.put, List.setIfInBounds_toArray, List.set_cons_zero, List.set_cons_succ]
  refine hs_take (i := 3) (d := some 10) (v := .int .i64 (B + (L : Int))) rfl (by kernel_rfl) (by kernel_rfl) (by kernel_rfl) (by rfl) (fun w' hw => by go_simp; exact wrap_id _ (by omega) (by omega)) hS rfl ?_
  simp only [Act.put, List.setIfInBounds_toArray, List.set_cons_zero, List.set_cons_succ]
  refine hs_take (i := 4) (d := some 11) (v := ?_) rfl (by kernel_rfl) (by kernel_rfl) (by kernel_rfl) (by rfl) ?_ hS rfl ?_
  rotate_left
  · intro w' hw
    go_simp
    try with_reducible rfl
  simp only [Act.put, List.setIfInBounds_toArray, List.set_cons_zero, List.set_cons_succ]
  refine hs_take (i := 5) (d := some 12) (v := ?_) rfl (by kernel_rfl) (by kernel_rfl) (by kernel_rfl) (by rfl) ?_ hS rfl ?_
  rotate_left
  · intro w' hw
    have q0 : w'.cell? ⟨w.heap.size, 0, none⟩ = some (.int .i64 B) := hw 0 _ rfl; have q1 : w'.cell? ⟨w.heap.size, 1, none⟩ = some (.int .u64 (m : Int)) := hw 1 _ rfl
    go_simp
    try with_reducible rfl
  simp only [Act.put, List.setIfInBounds_toArray, List.set_cons_zero, List.set_cons_succ]
  refine hs_take (i := 6) (d := some 13) (v := ?_) rfl (by kernel_rfl) (by kernel_rfl) (by kernel_rfl) (by rfl) ?_ hS rfl ?_
  rotate_left
  · intro w' hw
    go_simp
    try with_reducible rfl
  simp only [Act.put, List.setIfInBounds_toArray, List.set_cons_zero, List.set_cons_succ]
  refine hs_call (i := 7) (d := some 14) rfl (by kernel_rfl) (by rfl) (by go_simp; first | done | exact ⟨rfl, rfl⟩ | with_reducible rfl) rfl ?_
  refine (c2 w8).mono ?_
  rintro e' w9 ⟨rfl, hx⟩
  have hS : (fun W => W.rangeAt w.heap.size 0 (winC B (m : Int))) w9 := by rw [hx]; exact hS
  refine ⟨_, rfl, hS, ?_⟩
  simp only [Act.put, List.setIfInBounds_toArray, List.set_cons_zero, List.set_cons_succ]
  obtain rfl := hx.symm
  refine hs_take (i := 8) (d := some 15) (v := ?_) rfl (by kernel_rfl) (by kernel_rfl) (by kernel_rfl) (by rfl) ?_ hS rfl ?_
  rotate_left
  · intro w' hw
    go_simp
    try with_reducible rfl
  simp only [Act.put, List.setIfInBounds_toArray, List.set_cons_zero, List.set_cons_succ]
  have hk : (w8.setCells (w.heap.size + 1) 0 (winC (B + (L : Int)) (m2 : Int))).rangeAt w.heap.size 0 (winC B (m : Int)) := win_apart hS (by omega)
  refine hs_store (i := 9) (w' := w8.setCells (w.heap.size + 1) 0 (winC (B + (L : Int)) (m2 : Int))) rfl (by kernel_rfl) (by rfl) (exec_store rfl rfl rfl (win_store hT8)) rfl hk ?_
  refine hs_done (by kernel_rfl) ?_
  have hrs := win_load (win_set (B := B + (L : Int)) (m := (m2 : Int)) hT8)
  go_wp2_with fail
  exact bodyPost_ret (v := winV (B + (L : Int)) (m2 : Int)) (by simp [results, Tryd.results55, asAddr, hrs]) rfl ⟨by rw [HB.out], below_sets (by omega) _ 0 _ hB8⟩
set_option maxHeartbeats 1000000 in
set_option maxRecDepth 100000 in
theorem good_any (B : Int) (m : Nat) (hm : m < 2 ^ 64) (w : World) : Calls Tryd.prog 44 #[winV B (m : Int)] w fun e w' => e = .returned (.bool (goodW B m)) ∧ Below w.heap.size w w' := by
  have hBx : Below w.heap.size w (w.alloc (.cells #[.int .i64 B, .int .u64 (m : Int)] 69)) := (Below.refl _ _).alloc (Nat.le_refl _) _
  by_cases h0 : B < 1
  · have HG : Hid (goodW B m = false) := by show _ = _; unfold goodW; rw [decide_eq_false (by omega)]; rfl
    rw [HG.out]
    clear hm HG
    go_enter Tryd.func44, Tryd.ntmps44
    go_wp2_with fail
    go_ret
    exact ⟨rfl, hBx⟩
  · by_cases h1 : 1099511627777 < B
    · have HG : Hid (goodW B m = false) := by show _ = _; unfold goodW; rw [decide_eq_false (by omega)]; rfl
      rw [HG.out]
      clear hm HG
      go_enter Tryd.func44, Tryd.ntmps44
      go_wp2_with fail
      go_ret
      exact ⟨rfl, hBx⟩
    · have c1 := settled_any B m hm (by omega) (by omega)
      have c2 := down_any m hm (1099511627777 - B)
      have HG : Hid (goodW B m = (!m.testBit 0 && decide (downN m (1099511627777 - B) = 0))) := by show _ = _; unfold goodW; rw [decide_eq_true (by omega)]; rfl
      rw [HG.out]
      obtain ⟨hA, _, hz⟩ := one_box (Below.refl (w.alloc (.cells #[.int .i64 B, .int .u64 (m : Int)] 69)).heap.size _)
      cases hb : m.testBit 0
      · have e0 : onesN m = 0 := (ones_zero m).2 hb
        have e1 : setB B m = B := by unfold setB; rw [e0]; simp
        have e2 : setM m = m := by unfold setM; rw [e0]; rfl
        rw [e1, e2] at c1
        generalize downN m (1099511627777 - B) = d at *
        clear e0 e1 e2 hb hm HG
        go_enter Tryd.func44, Tryd.ntmps44
        go_wp2_with fail
        obtain ⟨w1, hw1⟩ : ∃ w1, w.alloc (.cells #[.int .i64 B, .int .u64 (m : Int)] 69) = w1 := ⟨_, rfl⟩
        rw [hw1] at hA hz hBx ⊢
        clear hw1
        obtain ⟨w8, hw8⟩ : ∃ w8, w1.drew = w8 := ⟨_, rfl⟩
        refine hs_begin (S := (fun W => W.rangeAt w.heap.size 0 (winC B (m : Int)))) 14 rfl (by kernel_rfl) ?_
        have hS : (w8).rangeAt w.heap.size 0 (winC B (m : Int)) := by rw [← hw8]; exact hA
        have hB8 : Below w.heap.size w w8 := by rw [← hw8]; exact (Below.drew hBx)
        have hz8 : w.heap.size < w8.heap.size := by rw [← hw8]; exact hz
        rw [hw8]
        clear hA hBx hz
        refine hs_take (i := 0) (d := some 11) (v := winV B (m : Int)) rfl (by kernel_rfl) (by kernel_rfl) (by kernel_rfl) (by rfl) (fun w' hw => exec_load rfl rfl (win_load hw)) hS rfl ?_
        simp only [Act.put, List.setIfInBounds_toArray, List.set_cons_zero, List.set_cons_succ]
        refine hs_take (i := 2) (d := some 13) (v := winV B (m : Int)) rfl (by kernel_rfl) (by kernel_rfl) (by kernel_rfl) (by rfl) (fun w' hw => exec_load rfl rfl (win_load hw)) hS rfl ?_
        simp only [Act.put, List.setIfInBounds_toArray, List.set_cons_zero, List.set_cons_succ]
        refine hs_call (i := 1) (d := some 12) rfl (by kernel_rfl) (by rfl) (by go_simp; first | done | exact ⟨rfl, rfl⟩ | with_reducible rfl) rfl ?_
        refine (c1 w8).mono ?_
        rintro e' w9 ⟨rfl, hw9⟩
        have hS : (fun W => W.rangeAt w.heap.size 0 (winC B (m : Int))) w9 := range_below hS hw9 hz8
        refine ⟨_, rfl, hS, ?_⟩
        simp only [Act.put, List.setIfInBounds_toArray, List.set_cons_zero, List.set_cons_succ]
        have hB9 := hB8.trans (hw9.mono hB8.size)
        clear c1
        refine hs_take (i := 3) (d := some 14) (v := .bool true) rfl (by kernel_rfl) (by kernel_rfl) (by kernel_rfl) (by rfl) (fun w' hw => by go_simp) hS rfl ?_
        simp only [Act.put, List.setIfInBounds_toArray, List.set_cons_zero, List.set_cons_succ]
        refine hs_take (i := 4) (d := some 15) (v := ?_) rfl (by kernel_rfl) (by kernel_rfl) (by kernel_rfl) (by rfl) ?_ hS rfl ?_
        rotate_left
        · intro w' hw
          go_simp
          try with_reducible rfl
        simp only [Act.put, List.setIfInBounds_toArray, List.set_cons_zero, List.set_cons_succ]
        refine hs_take (i := 5) (d := some 16) (v := ?_) rfl (by kernel_rfl) (by kernel_rfl) (by kernel_rfl) (by rfl) ?_ hS rfl ?_
        rotate_left
        · intro w' hw
          go_simp
          try with_reducible rfl
        simp only [Act.put, List.setIfInBounds_toArray, List.set_cons_zero, List.set_cons_succ]
        refine hs_take (i := 6) (d := some 17) (v := ?_) rfl (by kernel_rfl) (by kernel_rfl) (by kernel_rfl) (by rfl) ?_ hS rfl ?_
        rotate_left
        · intro w' hw
          have q0 : w'.cell? ⟨w.heap.size, 0, none⟩ = some (.int .i64 B) := hw 0 _ rfl; have q1 : w'.cell? ⟨w.heap.size, 1, none⟩ = some (.int .u64 (m : Int)) := hw 1 _ rfl
          go_simp
          try with_reducible rfl
        simp only [Act.put, List.setIfInBounds_toArray, List.set_cons_zero, List.set_cons_succ]
        refine hs_take (i := 7) (d := some 18) (v := ?_) rfl (by kernel_rfl) (by kernel_rfl) (by kernel_rfl) (by rfl) ?_ hS rfl ?_
        rotate_left
        · intro w' hw
          go_simp
          try with_reducible rfl
        simp only [Act.put, List.setIfInBounds_toArray, List.set_cons_zero, List.set_cons_succ]
        refine hs_take (i := 8) (d := some 19) (v := ?_) rfl (by kernel_rfl) (by kernel_rfl) (by kernel_rfl) (by rfl) ?_ hS rfl ?_
        rotate_left
        · intro w' hw
          have q0 : w'.cell? ⟨w.heap.size, 0, none⟩ = some (.int .i64 B) := hw 0 _ rfl; have q1 : w'.cell? ⟨w.heap.size, 1, none⟩ = some (.int .u64 (m : Int)) := hw 1 _ rfl
          go_simp
          try with_reducible rfl
        simp only [Act.put, List.setIfInBounds_toArray, List.set_cons_zero, List.set_cons_succ]
        refine hs_take (i := 9) (d := some 20) (v := .int .i64 (1099511627777 - B)) rfl (by kernel_rfl) (by kernel_rfl) (by kernel_rfl) (by rfl) (fun w' hw => by go_simp; exact wrap_id _ (by omega) (by omega)) hS rfl ?_
        simp only [Act.put, List.setIfInBounds_toArray, List.set_cons_zero, List.set_cons_succ]
        refine hs_call (i := 10) (d := some 21) rfl (by kernel_rfl) (by rfl) (by go_simp; first | done | exact ⟨rfl, rfl⟩ | with_reducible rfl) rfl ?_
        refine (c2 w9).mono ?_
        rintro e' w10 ⟨rfl, hx⟩
        have hS : (fun W => W.rangeAt w.heap.size 0 (winC B (m : Int))) w10 := by rw [hx]; exact hS
        refine ⟨_, rfl, hS, ?_⟩
        simp only [Act.put, List.setIfInBounds_toArray, List.set_cons_zero, List.set_cons_succ]
        obtain rfl := hx.symm
        refine hs_take (i := 11) (d := some 22) (v := ?_) rfl (by kernel_rfl) (by kernel_rfl) (by kernel_rfl) (by rfl) ?_ hS rfl ?_
        rotate_left
        · intro w' hw
          go_simp
          try with_reducible rfl
        simp only [Act.put, List.setIfInBounds_toArray, List.set_cons_zero, List.set_cons_succ]
        refine hs_take (i := 12) (d := some 23) (v := ?_) rfl (by kernel_rfl) (by kernel_rfl) (by kernel_rfl) (by rfl) ?_ hS rfl ?_
        rotate_left
        · intro w' hw
          go_simp
          try with_reducible rfl
        simp only [Act.put, List.setIfInBounds_toArray, List.set_cons_zero, List.set_cons_succ]
        refine hs_take (i := 13) (d := some 2) (v := ?_) rfl (by kernel_rfl) (by kernel_rfl) (by kernel_rfl) (by rfl) ?_ hS rfl ?_
        rotate_left
        · intro w' hw
          go_simp
          try with_reducible rfl
        simp only [Act.put, List.setIfInBounds_toArray, List.set_cons_zero, List.set_cons_succ]
        refine hs_done (by kernel_rfl) ?_
        go_wp2_with fail
        go_ret
        exact ⟨ret_bool (natz _), hB9⟩
      · have hne : setB B m ≠ B := by
          have : onesN m ≠ 0 := fun e => by rw [(ones_zero m).1 e] at hb; cases hb
          unfold setB; omega
        generalize setB B m = B2 at *
        generalize setM m = m2 at *
        clear c2 hm HG hb
        go_enter Tryd.func44, Tryd.ntmps44
        go_wp2_with fail
        obtain ⟨w1, hw1⟩ : ∃ w1, w.alloc (.cells #[.int .i64 B, .int .u64 (m : Int)] 69) = w1 := ⟨_, rfl⟩
        rw [hw1] at hA hz hBx ⊢
        clear hw1
        obtain ⟨w8, hw8⟩ : ∃ w8, w1.drew = w8 := ⟨_, rfl⟩
        refine hs_begin (S := (fun W => W.rangeAt w.heap.size 0 (winC B (m : Int)))) 14 rfl (by kernel_rfl) ?_
        have hS : (w8).rangeAt w.heap.size 0 (winC B (m : Int)) := by rw [← hw8]; exact hA
        have hB8 : Below w.heap.size w w8 := by rw [← hw8]; exact (Below.drew hBx)
        have hz8 : w.heap.size < w8.heap.size := by rw [← hw8]; exact hz
        rw [hw8]
        clear hA hBx hz
        refine hs_take (i := 0) (d := some 11) (v := winV B (m : Int)) rfl (by kernel_rfl) (by kernel_rfl) (by kernel_rfl) (by rfl) (fun w' hw => exec_load rfl rfl (win_load hw)) hS rfl ?_
        simp only [Act.put, List.setIfInBounds_toArray, List.set_cons_zero, List.set_cons_succ]
        refine hs_take (i := 2) (d := some 13) (v := winV B (m : Int)) rfl (by kernel_rfl) (by kernel_rfl) (by kernel_rfl) (by rfl) (fun w' hw => exec_load rfl rfl (win_load hw)) hS rfl ?_
        simp only [Act.put, List.setIfInBounds_toArray, List.set_cons_zero, List.set_cons_succ]
        refine hs_call (i := 1) (d := some 12) rfl (by kernel_rfl) (by rfl) (by go_simp; first | done | exact ⟨rfl, rfl⟩ | with_reducible rfl) rfl ?_
        refine (c1 w8).mono ?_
        rintro e' w9 ⟨rfl, hw9⟩
        have hS : (fun W => W.rangeAt w.heap.size 0 (winC B (m : Int))) w9 := range_below hS hw9 hz8
        refine ⟨_, rfl, hS, ?_⟩
        simp only [Act.put, List.setIfInBounds_toArray, List.set_cons_zero, List.set_cons_succ]
        have hB9 := hB8.trans (hw9.mono hB8.size)
        clear c1
        refine hs_take (i := 3) (d := some 14) (v := .bool false) rfl (by kernel_rfl) (by kernel_rfl) (by kernel_rfl) (by rfl) (fun w' hw => by go_simp; first | done | omega | simp [hne]) hS rfl ?_
        simp only [Act.put, List.setIfInBounds_toArray, List.set_cons_zero, List.set_cons_succ]
        refine hs_take (i := 4) (d := some 15) (v := ?_) rfl (by kernel_rfl) (by kernel_rfl) (by kernel_rfl) (by rfl) ?_ hS rfl ?_
        rotate_left
        · intro w' hw
          go_simp
          try with_reducible rfl
        simp only [Act.put, List.setIfInBounds_toArray, List.set_cons_zero, List.set_cons_succ]
        refine hs_skip (i := 5) (d := some 16) rfl (by kernel_rfl) (by kernel_rfl) (by kernel_rfl) (by rfl) hS rfl ?_
        simp only [Act.put, List.setIfInBounds_toArray, List.set_cons_zero, List.set_cons_succ]
        refine hs_skip (i := 6) (d := some 17) rfl (by kernel_rfl) (by kernel_rfl) (by kernel_rfl) (by rfl) hS rfl ?_
        simp only [Act.put, List.setIfInBounds_toArray, List.set_cons_zero, List.set_cons_succ]
        refine hs_skip (i := 7) (d := some 18) rfl (by kernel_rfl) (by kernel_rfl) (by kernel_rfl) (by rfl) hS rfl ?_
        simp only [Act.put, List.setIfInBounds_toArray, List.set_cons_zero, List.set_cons_succ]
        refine hs_skip (i := 8) (d := some 19) rfl (by kernel_rfl) (by kernel_rfl) (by kernel_rfl) (by rfl) hS rfl ?_
        simp only [Act.put, List.setIfInBounds_toArray, List.set_cons_zero, List.set_cons_succ]
        refine hs_skip (i := 9) (d := some 20) rfl (by kernel_rfl) (by kernel_rfl) (by kernel_rfl) (by rfl) hS rfl ?_
        simp only [Act.put, List.setIfInBounds_toArray, List.set_cons_zero, List.set_cons_succ]
        refine hs_skip (i := 10) (d := some 21) rfl (by kernel_rfl) (by kernel_rfl) (by kernel_rfl) (by rfl) hS rfl ?_
        simp only [Act.put, List.setIfInBounds_toArray, List.set_cons_zero, List.set_cons_succ]
        refine hs_skip (i := 11) (d := some 22) rfl (by kernel_rfl) (by kernel_rfl) (by kernel_rfl) (by rfl) hS rfl ?_
        simp only [Act.put, List.setIfInBounds_toArray, List.set_cons_zero, List.set_cons_succ]
        refine hs_take (i := 12) (d := some 23) (v := ?_) rfl (by kernel_rfl) (by kernel_rfl) (by kernel_rfl) (by rfl) ?_ hS rfl ?_
        rotate_left
        · intro w' hw
          go_simp
          try with_reducible rfl
        simp only [Act.put, List.setIfInBounds_toArray, List.set_cons_zero, List.set_cons_succ]
        refine hs_take (i := 13) (d := some 2) (v := ?_) rfl (by kernel_rfl) (by kernel_rfl) (by kernel_rfl) (by rfl) ?_ hS rfl ?_
        rotate_left
        · intro w' hw
          go_simp
          try with_reducible rfl
        simp only [Act.put, List.setIfInBounds_toArray, List.set_cons_zero, List.set_cons_succ]
        refine hs_done (by kernel_rfl) ?_
        go_wp2_with fail
        go_ret
        exact ⟨rfl, hB9⟩
end Go.Proofs.YtbfcbjjhdadicaaDoor.Wn
namespace Go.Proofs.YtbfcbjjhdadicaaDoor.Wn
open Go.RowKit
set_option maxRecDepth 100000 in
theorem good_B {B : Int} {m : Nat} (h : goodW B m = true) : 1 ≤ B ∧ B ≤ 1099511627777 := (good_iff.1 h).1
def markB (B : Int) (m : Nat) (n : Int) : Int := if askW B m 64 n = 0 then setB B (mkM B m n) else 0
def markM (B : Int) (m : Nat) (n : Int) : Nat := if askW B m 64 n = 0 then setM (mkM B m n) else 0
set_option maxRecDepth 100000 in
theorem markM_lt {B : Int} {m : Nat} (hm : m < 2 ^ 64) (n : Int) : markM B m n < 2 ^ 64 := by
  unfold markM
  split
  · exact setM_lt (withN_lt hm _)
  · decide
set_option maxHeartbeats 1000000 in
set_option maxRecDepth 100000 in
theorem done_any (B : Int) (m : Nat) (hm : m < 2 ^ 64) (n : Int) (hn : n ≤ 9223372036854775807) (w : World) : Calls Tryd.prog 24 #[winV B (m : Int), .int .i64 n] w fun e w' => e = .returned (.bool (doneW B m n)) ∧ Below w.heap.size w w' := by
  have c1 := good_any B m hm
  cases hg : goodW B m
  · rw [hg] at c1
    have HD : Hid (doneW B m n = false) := by show _ = _; unfold doneW; rw [hg]; rfl
    rw [HD.out]
    clear hm HD hg
    go_enter Tryd.func24, Tryd.ntmps24
    go_wp2_with fail
    refine (c1 _).mono ?_
    rintro e w1 ⟨rfl, hb⟩
    clear c1
    obtain ⟨hA, hB1, hz⟩ := one_box hb
    clear hb
    go_wp2_with fail
    go_ret
    exact ⟨rfl, hB1⟩
  · rw [hg] at c1
    have hb12 := good_B hg
    have HD : Hid (doneW B m n = (decide (1 ≤ n) && (decide (n < B) || hasN m (n - B)))) := by show _ = _; unfold doneW inW; rw [hg]; rfl
    rw [HD.out]
    have c2 := has_any m hm (n - B)
    generalize hasN m (n - B) = r at *
    clear hm HD hg
    by_cases h1 : n < 1
    · rw [decide_eq_false (by omega : ¬ 1 ≤ n), Bool.false_and]
      go_enter Tryd.func24, Tryd.ntmps24
      go_wp2_with fail
      refine (c1 _).mono ?_
      rintro e w1 ⟨rfl, hb⟩
      clear c1 c2
      obtain ⟨hA, hB1, hz⟩ := one_box hb
      clear hb
      go_wp2_with fail
      go_ret
      exact ⟨rfl, hB1⟩
    · rw [decide_eq_true (by omega : 1 ≤ n), Bool.true_and]
      by_cases h2 : n < B
      · rw [decide_eq_true h2, Bool.true_or]
        go_enter Tryd.func24, Tryd.ntmps24
        go_wp2_with fail
        refine (c1 _).mono ?_
        rintro e w1 ⟨rfl, hb⟩
        clear c1 c2
        obtain ⟨hA, hB1, hz⟩ := one_box hb
        clear hb
        have q0 : w1.cell? ⟨w.heap.size, 0, none⟩ = some (.int .i64 B) := hA 0 _ rfl
        have q1 : w1.cell? ⟨w.heap.size, 1, none⟩ = some (.int .u64 (m : Int)) := hA 1 _ rfl
        go_wp2_with fail
        go_ret
        exact ⟨rfl, hB1⟩
      · rw [decide_eq_false h2, Bool.false_or]
        go_enter Tryd.func24, Tryd.ntmps24
        go_wp2_with fail
        refine (c1 _).mono ?_
        rintro e w1 ⟨rfl, hb⟩
        clear c1
        obtain ⟨hA, hB1, hz⟩ := one_box hb
        clear hb
        have q0 : w1.cell? ⟨w.heap.size, 0, none⟩ = some (.int .i64 B) := hA 0 _ rfl
        have q1 : w1.cell? ⟨w.heap.size, 1, none⟩ = some (.int .u64 (m : Int)) := hA 1 _ rfl
        go_wp2_with (go_at_call 45; refine (c2 _).mono ?_; rintro e w2 ⟨rfl, hx⟩; obtain rfl := hx.symm; clear hx)
        go_ret
        exact ⟨ret_bool (by first | rfl | rw [decide_eq_false (by omega : ¬ n < B), Bool.false_or]), hB1⟩
end Go.Proofs.YtbfcbjjhdadicaaDoor.Wn
