/- Sets of numbers below 64 as natural numbers: bits, lists, counting. Imports nothing of the translation. -/
namespace Go.Proofs.Ytnjlamcpfclgaaa
def hasN (m : Nat) (i : Int) : Bool := decide (0 ≤ i ∧ i < 64) && m.testBit i.toNat
def bitN (i : Int) : Nat := if 0 ≤ i ∧ i < 64 then 2 ^ i.toNat else 0
def withN (m : Nat) (i : Int) : Nat := m ||| bitN i
def downN (m : Nat) (n : Int) : Nat := if n < 1 then m else m >>> n.toNat
def setUp (m k : Nat) : List Nat := (List.range k).filter m.testBit
def setN (m : Nat) : List Nat := setUp m 64
def ofN (m : Nat) (l : List Int) : Nat := l.foldl withN m
def onesUp (m : Nat) : Nat → Nat → Nat
  | 0, n => n
  | f + 1, n => if m.testBit n then onesUp m f (n + 1) else n
def onesN (m : Nat) : Nat := onesUp m 64 0
theorem testBit_bitN (i : Int) (j : Nat) : (bitN i).testBit j = decide ((j : Int) = i ∧ j < 64) := by
  unfold bitN
  split
  · rename_i h
    rw [Nat.testBit_two_pow]
    apply decide_eq_decide.2
    omega
  · rename_i h
    rw [Nat.zero_testBit]
    symm; apply decide_eq_false; omega
theorem testBit_withN (m : Nat) (i : Int) (j : Nat) : (withN m i).testBit j = (m.testBit j || decide ((j : Int) = i ∧ j < 64)) := by
  unfold withN; rw [Nat.testBit_or, testBit_bitN]
theorem bitN_lt (i : Int) : bitN i < 2 ^ 64 := by
  unfold bitN
  split
  · exact Nat.pow_lt_pow_right (by omega) (by omega)
  · decide
theorem withN_lt {m : Nat} (h : m < 2 ^ 64) (i : Int) : withN m i < 2 ^ 64 := Nat.or_lt_two_pow h (bitN_lt i)
theorem ofN_lt {l : List Int} : ∀ {m : Nat}, m < 2 ^ 64 → ofN m l < 2 ^ 64 := by
  induction l with
  | nil => intro m h; exact h
  | cons x l ih => intro m h; exact ih (withN_lt h x)
theorem downN_lt {m : Nat} (h : m < 2 ^ 64) (n : Int) : downN m n < 2 ^ 64 := by
  unfold downN; split
  · exact h
  · rw [Nat.shiftRight_eq_div_pow]; exact Nat.lt_of_le_of_lt (Nat.div_le_self _ _) h
theorem and_bitN (m : Nat) (i : Int) : (m &&& bitN i = 0) ↔ hasN m i = false := by
  unfold bitN hasN
  split
  · rename_i h
    rw [decide_eq_true h, Bool.true_and]
    constructor
    · intro e
      have := congrArg (fun x => Nat.testBit x i.toNat) e
      simpa [Nat.testBit_and, Nat.testBit_two_pow] using this
    · intro e
      apply Nat.eq_of_testBit_eq
      intro j
      rw [Nat.testBit_and, Nat.testBit_two_pow, Nat.zero_testBit]
      by_cases hj : i.toNat = j
      · subst hj; rw [e]; rfl
      · simp [hj]
  · rename_i h
    simp [h]
theorem hasN_cast (m : Nat) (k : Nat) (h : k < 64) : hasN m (k : Int) = m.testBit k := by
  unfold hasN
  have : (0 ≤ (k : Int) ∧ (k : Int) < 64) := by omega
  simp [this]
theorem hasN_out (m : Nat) (i : Int) (h : ¬ (0 ≤ i ∧ i < 64)) : hasN m i = false := by
  unfold hasN; simp [h]
theorem eq_of_bits {a b : Nat} (ha : a < 2 ^ 64) (hb : b < 2 ^ 64) (h : ∀ j, j < 64 → a.testBit j = b.testBit j) : a = b := by
  apply Nat.eq_of_testBit_eq
  intro j
  by_cases hj : j < 64
  · exact h j hj
  · rw [Nat.testBit_lt_two_pow (Nat.lt_of_lt_of_le ha (Nat.pow_le_pow_right (by omega) (by omega))), Nat.testBit_lt_two_pow (Nat.lt_of_lt_of_le hb (Nat.pow_le_pow_right (by omega) (by omega)))]
theorem testBit_ofN (l : List Int) (m j : Nat) : (ofN m l).testBit j = (m.testBit j || decide ((j : Int) ∈ l ∧ j < 64)) := by
  induction l generalizing m with
  | nil => simp [ofN]
  | cons x l ih =>
    show (ofN (withN m x) l).testBit j = _
    rw [ih, testBit_withN, Bool.or_assoc]
    congr 1
    rw [← Bool.decide_or]
    apply decide_eq_decide.2
    rw [List.mem_cons]
    constructor
    · rintro (⟨h, h'⟩ | ⟨h, h'⟩)
      · exact ⟨Or.inl h, h'⟩
      · exact ⟨Or.inr h, h'⟩
    · rintro ⟨h | h, h'⟩
      · exact Or.inl ⟨h, h'⟩
      · exact Or.inr ⟨h, h'⟩
theorem mem_setUp {m k j : Nat} : j ∈ setUp m k ↔ j < k ∧ m.testBit j = true := by simp [setUp]
theorem mem_setN {m j : Nat} : j ∈ setN m ↔ j < 64 ∧ m.testBit j = true := mem_setUp
def ints (l : List Nat) : List Int := l.map Int.ofNat
theorem mem_ints {l : List Nat} {j : Nat} : (j : Int) ∈ ints l ↔ j ∈ l := by
  unfold ints
  rw [List.mem_map]
  constructor
  · rintro ⟨a, h, e⟩
    have : a = j := Int.ofNat.inj e
    exact this ▸ h
  · intro h; exact ⟨j, h, rfl⟩
theorem of_set {m : Nat} (h : m < 2 ^ 64) : ofN 0 (ints (setN m)) = m := by
  refine eq_of_bits (ofN_lt (by decide)) h fun j hj => ?_
  rw [testBit_ofN, Nat.zero_testBit, Bool.false_or]
  cases hb : m.testBit j
  · apply decide_eq_false
    rw [mem_ints, mem_setN, hb]; simp
  · apply decide_eq_true
    rw [mem_ints, mem_setN, hb]; simp [hj]
theorem down_set {m : Nat} (h : m < 2 ^ 64) (n : Int) (h1 : 1 ≤ n) (h2 : n ≤ 63) : ofN 0 ((ints (setN m)).map (fun x => x - n)) = downN m n := by
  refine eq_of_bits (ofN_lt (by decide)) (downN_lt h n) fun j hj => ?_
  rw [testBit_ofN, Nat.zero_testBit, Bool.false_or, downN, if_neg (by omega), Nat.testBit_shiftRight]
  have e : ((j : Int) ∈ (ints (setN m)).map (fun x => x - n)) ↔ (n.toNat + j) ∈ setN m := by
    rw [List.mem_map]
    constructor
    · rintro ⟨x, hx, e⟩
      unfold ints at hx
      rw [List.mem_map] at hx
      obtain ⟨y, hy, rfl⟩ := hx
      have : y = n.toNat + j := by simp at e; omega
      exact this ▸ hy
    · intro hy
      exact ⟨((n.toNat + j : Nat) : Int), mem_ints.2 hy, by omega⟩
  cases hb : m.testBit (n.toNat + j)
  · apply decide_eq_false
    rw [e, mem_setN, hb]; simp
  · apply decide_eq_true
    rw [e, mem_setN, hb]
    refine ⟨⟨?_, rfl⟩, hj⟩
    rcases Nat.lt_or_ge (n.toNat + j) 64 with h' | h'
    · exact h'
    · rw [Nat.testBit_lt_two_pow (Nat.lt_of_lt_of_le h (Nat.pow_le_pow_right (by omega) h'))] at hb; cases hb
theorem down_far {m : Nat} (h : m < 2 ^ 64) (n : Int) (h2 : 63 < n) : downN m n = 0 := by
  unfold downN; rw [if_neg (by omega), Nat.shiftRight_eq_div_pow]
  exact Nat.div_eq_of_lt (Nat.lt_of_lt_of_le h (Nat.pow_le_pow_right (by omega) (by omega)))
theorem add_bit {m k : Nat} (h : m.testBit k = false) : m + 2 ^ k = m ||| 2 ^ k := by
  have hx := Nat.two_pow_add_eq_or_of_lt (i := k) (b := m % 2 ^ k) (Nat.mod_lt _ (Nat.two_pow_pos k)) 1
  have e0 : m.testBit k = decide (m / 2 ^ k % 2 = 1) := Nat.testBit_eq_decide_div_mod_eq
  have e1 : m / 2 ^ k % 2 = 0 := by
    rw [h] at e0
    have := of_decide_eq_false e0.symm
    omega
  apply Nat.eq_of_testBit_eq
  intro j
  rw [Nat.testBit_or, Nat.testBit_two_pow]
  rcases Nat.lt_trichotomy j k with hj | rfl | hj
  · rw [Nat.add_comm, Nat.testBit_two_pow_add_gt hj]; simp; omega
  · rw [Nat.add_comm, Nat.testBit_two_pow_add_eq, h]; simp
  · have : decide (k = j) = false := decide_eq_false (by omega)
    rw [this, Bool.or_false]
    obtain ⟨d, rfl⟩ : ∃ d, j = k + 1 + d := ⟨j - (k + 1), by omega⟩
    rw [show k + 1 + d = d + (k + 1) from by omega]
    rw [← Nat.testBit_div_two_pow, ← Nat.testBit_div_two_pow]
    congr 1
    rw [Nat.pow_succ, ← Nat.div_div_eq_div_mul, ← Nat.div_div_eq_div_mul, Nat.add_div_right _ (Nat.two_pow_pos k)]
    omega
theorem withN_new {m : Nat} {i : Int} (h0 : 0 ≤ i) (h1 : i < 64) (h : hasN m i = false) : withN m i = m + 2 ^ i.toNat := by
  unfold withN bitN; rw [if_pos ⟨h0, h1⟩, add_bit]
  simpa [hasN, h0, h1] using h
theorem withN_old {m : Nat} {i : Int} (h : hasN m i = true) : withN m i = m := by
  apply Nat.eq_of_testBit_eq
  intro j
  rw [testBit_withN]
  by_cases e : (j : Int) = i ∧ j < 64
  · obtain ⟨rfl, h64⟩ := e
    rw [hasN_cast _ _ h64] at h; simp [h]
  · simp [e]
theorem withN_out {m : Nat} {i : Int} (h : ¬ (0 ≤ i ∧ i < 64)) : withN m i = m := by
  unfold withN bitN; rw [if_neg h, Nat.or_zero]
theorem has_half (m k : Nat) : m.testBit k = decide (m / 2 ^ k % 2 = 1) := Nat.testBit_eq_decide_div_mod_eq
theorem setUp_succ (m k : Nat) : setUp m (k + 1) = setUp m k ++ (if m.testBit k then [k] else []) := by
  unfold setUp; rw [List.range_succ, List.filter_append]
  cases h : m.testBit k <;> simp [h]
theorem setUp_no {m k : Nat} (h : m.testBit k = false) : setUp m (k + 1) = setUp m k := by rw [setUp_succ, h]; simp
theorem setUp_yes {m k : Nat} (h : m.testBit k = true) : setUp m (k + 1) = setUp m k ++ [k] := by rw [setUp_succ, h]; simp
theorem setUp_zero (m : Nat) : setUp m 0 = [] := rfl
theorem setUp_len (m k : Nat) : (setUp m k).length ≤ k := by
  unfold setUp; exact Nat.le_trans (List.length_filter_le _ _) (by simp)
theorem setUp_prefix (m : Nat) {j k : Nat} (h : j ≤ k) : setUp m j <+: setUp m k := by
  induction k with
  | zero => obtain rfl : j = 0 := by omega
            exact List.prefix_refl _
  | succ k ih =>
    rcases Nat.lt_or_eq_of_le h with h' | rfl
    · rw [setUp_succ]; exact (ih (by omega)).trans (List.prefix_append _ _)
    · exact List.prefix_refl _
theorem setUp_lt (m k : Nat) : (setUp m k).Pairwise (· < ·) := by
  unfold setUp; exact List.Pairwise.filter _ List.pairwise_lt_range
theorem onesUp_spec (m : Nat) : ∀ f n L, n ≤ L → L ≤ n + f → (∀ j, n ≤ j → j < L → m.testBit j = true) → (L < n + f → m.testBit L = false) → onesUp m f n = L := by
  intro f
  induction f with
  | zero => intro n L h1 h2 _ _; unfold onesUp; omega
  | succ f ih =>
    intro n L h1 h2 h3 h4
    unfold onesUp
    rcases Nat.lt_or_eq_of_le h1 with h | rfl
    · rw [if_pos (h3 n (Nat.le_refl _) h)]
      exact ih (n + 1) L h (by omega) (fun j a b => h3 j (by omega) b) (fun a => h4 (by omega))
    · rw [if_neg (by rw [h4 (by omega)]; decide)]
theorem onesN_spec (m L : Nat) (h2 : L ≤ 64) (h3 : ∀ j, j < L → m.testBit j = true) (h4 : L < 64 → m.testBit L = false) : onesN m = L :=
  onesUp_spec m 64 0 L (Nat.zero_le _) (by omega) (fun j _ h => h3 j h) (fun h => h4 (by omega))
theorem ones_done {m L : Nat} (h : setN m = List.range L) : onesN m = L := by
  have hl : L ≤ 64 := by have := setUp_len m 64; rw [show setUp m 64 = _ from h] at this; simpa using this
  refine onesN_spec m L hl (fun j hj => (mem_setN.1 (by rw [h]; exact List.mem_range.2 hj)).2) (fun hL => ?_)
  cases hb : m.testBit L
  · rfl
  · have := mem_setN.2 ⟨hL, hb⟩
    rw [h] at this; simp at this
theorem ones_stop {m L x : Nat} (h : List.range L ++ [x] <+: setN m) (hx : x ≠ L) : onesN m = L := by
  obtain ⟨rest, hr⟩ := h
  have hp := setUp_lt m 64
  rw [show setUp m 64 = _ from hr.symm, List.append_assoc, List.pairwise_append] at hp
  obtain ⟨_, p2, p3⟩ := hp
  have hm : ∀ j, j ∈ setN m ↔ j ∈ List.range L ++ [x] ++ rest := fun j => by rw [hr]
  have hl : L ≤ 64 := by
    rcases Nat.eq_zero_or_pos L with h | h
    · omega
    · have := (mem_setN.1 ((hm (L - 1)).2 (by simp; omega))).1; omega
  have hxL : L < x := by
    rcases Nat.lt_trichotomy x L with h | h | h
    · exact absurd (p3 x (List.mem_range.2 h) x (by simp)) (Nat.lt_irrefl _)
    · exact absurd h hx
    · exact h
  refine onesN_spec m L hl (fun j hj => (mem_setN.1 ((hm j).2 (by simp; omega))).2) (fun hL => ?_)
  cases hb : m.testBit L
  · rfl
  · exfalso
    have := (hm L).1 (mem_setN.2 ⟨hL, hb⟩)
    simp only [List.append_assoc, List.mem_append, List.mem_range, List.mem_singleton] at this
    rcases this with h | h | h
    · omega
    · exact hx h.symm
    · rw [List.singleton_append, List.pairwise_cons] at p2
      have := p2.1 L h; omega
theorem setUp_with {m : Nat} {k : Nat} (hb : m.testBit k = false) : ∀ n, (setUp (m ||| 2 ^ k) n).length = (setUp m n).length + (if k < n then 1 else 0) := by
  intro n
  induction n with
  | zero => simp [setUp]
  | succ n ih =>
    rw [setUp_succ, setUp_succ, List.length_append, List.length_append, ih, Nat.testBit_or, Nat.testBit_two_pow]
    by_cases e : k = n
    · subst e
      rw [hb]; simp
    · have e2 : decide (k = n) = false := decide_eq_false e
      rw [e2, Bool.or_false]
      have : (if k < n + 1 then 1 else 0) = (if k < n then 1 else 0) := by
        by_cases h : k < n
        · rw [if_pos h, if_pos (by omega)]
        · rw [if_neg h, if_neg (by omega)]
      rw [this]; omega
theorem many_with (m : Nat) (i : Int) : decide (((setN (withN m i)).length : Int) = (setN m).length + 1) = (decide (0 ≤ i ∧ i < 64) && !hasN m i) := by
  by_cases h : 0 ≤ i ∧ i < 64
  · cases hb : hasN m i
    · rw [decide_eq_true h]
      show _ = true
      apply decide_eq_true
      have hb' : m.testBit i.toNat = false := by simpa [hasN, h] using hb
      have := setUp_with hb' 64
      unfold withN bitN setN; rw [if_pos h, this, if_pos (by omega)]; omega
    · rw [withN_old hb]; simp; omega
  · rw [withN_out h]; simp [h]; omega
theorem has_with (m : Nat) (i j : Int) : hasN (withN m i) j = (hasN m j || decide (j = i ∧ 0 ≤ i ∧ i < 64)) := by
  unfold hasN
  by_cases h : 0 ≤ j ∧ j < 64
  · rw [decide_eq_true h, Bool.true_and, Bool.true_and, testBit_withN]
    congr 1
    apply decide_eq_decide.2
    omega
  · rw [decide_eq_false h, Bool.false_and, Bool.false_and, Bool.false_or]
    symm; apply decide_eq_false; omega
theorem with_comm (m : Nat) (i j : Int) : withN (withN m i) j = withN (withN m j) i := by
  unfold withN; rw [Nat.or_assoc, Nat.or_comm (bitN i), ← Nat.or_assoc]
theorem with_again (m : Nat) (i : Int) : withN (withN m i) i = withN m i := by
  unfold withN; rw [Nat.or_assoc, Nat.or_self]
theorem has_down (m a b : Nat) (hm : m < 2 ^ 64) (ha : a < 64) (hb : b < 64) : hasN (downN m a) b = (decide (a + b < 64) && m.testBit (a + b)) := by
  rw [hasN_cast _ _ hb]
  have e : (downN m a).testBit b = m.testBit (a + b) := by
    unfold downN
    split
    · obtain rfl : a = 0 := by omega
      simp
    · rw [Nat.testBit_shiftRight]; simp
  rw [e]
  by_cases h : a + b < 64
  · simp [h]
  · rw [Nat.testBit_lt_two_pow (Nat.lt_of_lt_of_le hm (Nat.pow_le_pow_right (by omega) (by omega)))]; simp
theorem has_of (l : List Int) (i : Int) (h : i ∈ l) : hasN (ofN 0 l) i = decide (0 ≤ i ∧ i < 64) := by
  by_cases hi : 0 ≤ i ∧ i < 64
  · obtain ⟨k, rfl⟩ := Int.eq_ofNat_of_zero_le hi.1
    rw [hasN_cast _ _ (by omega), testBit_ofN]; simp [h]; omega
  · rw [hasN_out _ _ hi, decide_eq_false hi]
theorem set_of {l : List Int} {k : Nat} (h : k ∈ setN (ofN 0 l)) : (k : Int) ∈ l := by
  have := (mem_setN.1 h).2
  rw [testBit_ofN, Nat.zero_testBit, Bool.false_or] at this
  exact (of_decide_eq_true this).1
theorem ofN_append (m : Nat) (l r : List Int) : ofN m (l ++ r) = ofN (ofN m l) r := List.foldl_append
end Go.Proofs.Ytnjlamcpfclgaaa
