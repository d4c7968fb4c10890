/- Windows of a client's numbers: which were delivered, marked, counted. Imports nothing of the translation. -/
import Derived.Test.YtnjlamcpfclgaaaMMath
namespace Go.Proofs.Ytnjlamcpfclgaaa
def goodW (B : Int) (m : Nat) : Bool := decide (1 ≤ B ∧ B ≤ 1099511627777) && !m.testBit 0 && decide (downN m (1099511627777 - B) = 0)
def inW (B : Int) (m : Nat) (n : Int) : Bool := decide (n < B) || hasN m (n - B)
def doneW (B : Int) (m : Nat) (n : Int) : Bool := goodW B m && decide (1 ≤ n) && inW B m n
def countW (B : Int) (m : Nat) : Int := if goodW B m then B - 1 + (setN m).length else 0
def askW (B : Int) (m : Nat) (s n : Int) : Int := if goodW B m = true ∧ 1 ≤ s ∧ s ≤ 64 ∧ 1 ≤ n ∧ n ≤ 1099511627776 then (if doneW B m n then 90 else if s ≤ n - B then 91 else 0) else 2
def setB (B : Int) (m : Nat) : Int := B + (onesN m : Int)
def setM (m : Nat) : Nat := downN m (onesN m : Int)
theorem down_shift (m : Nat) (n : Int) (h : 0 ≤ n) : downN m n = m >>> n.toNat := by
  unfold downN; split
  · rw [show n.toNat = 0 by omega]; rfl
  · rfl
theorem down_zero {m : Nat} (n : Int) (h : 0 ≤ n) : downN m n = 0 ↔ ∀ j, m.testBit j = true → (j : Int) < n := by
  rw [down_shift m n h, Nat.shiftRight_eq_div_pow]
  constructor
  · intro e j hj
    have hlt : m < 2 ^ n.toNat := by
      rcases Nat.div_eq_zero_iff.1 e with h' | h'
      · exact absurd h' (Nat.ne_of_gt (Nat.two_pow_pos _))
      · exact h'
    rcases Nat.lt_or_ge j n.toNat with h' | h'
    · omega
    · rw [Nat.testBit_lt_two_pow (Nat.lt_of_lt_of_le hlt (Nat.pow_le_pow_right (by omega) h'))] at hj; cases hj
  · intro H
    apply Nat.div_eq_of_lt
    apply Nat.lt_pow_two_of_testBit
    intro i hi
    cases hb : m.testBit i
    · rfl
    · have := H i hb; omega
theorem good_iff {B : Int} {m : Nat} : goodW B m = true ↔ (1 ≤ B ∧ B ≤ 1099511627777) ∧ m.testBit 0 = false ∧ ∀ j, m.testBit j = true → B + (j : Int) ≤ 1099511627776 := by
  unfold goodW
  rw [Bool.and_eq_true, Bool.and_eq_true, decide_eq_true_eq, decide_eq_true_eq, Bool.not_eq_true']
  constructor
  · rintro ⟨⟨h1, h2⟩, h3⟩
    exact ⟨h1, h2, fun j hj => by have := (down_zero _ (by omega)).1 h3 j hj; omega⟩
  · rintro ⟨h1, h2, h3⟩
    exact ⟨⟨h1, h2⟩, (down_zero _ (by omega)).2 fun j hj => by have := h3 j hj; omega⟩
theorem onesUp_ge (m : Nat) : ∀ f n, n ≤ onesUp m f n ∧ onesUp m f n ≤ n + f ∧ (∀ j, n ≤ j → j < onesUp m f n → m.testBit j = true) ∧ (onesUp m f n < n + f → m.testBit (onesUp m f n) = false) := by
  intro f
  induction f with
  | zero => intro n; unfold onesUp; exact ⟨Nat.le_refl _, Nat.le_refl _, fun j a b => absurd b (by omega), fun h => absurd h (by omega)⟩
  | succ f ih =>
    intro n
    unfold onesUp
    cases hb : m.testBit n
    · simp only [Bool.false_eq_true, if_false]
      exact ⟨Nat.le_refl _, by omega, fun j a b => absurd b (by omega), fun _ => hb⟩
    · simp only [if_true]
      obtain ⟨h1, h2, h3, h4⟩ := ih (n + 1)
      refine ⟨by omega, by omega, fun j a b => ?_, fun h => h4 (by omega)⟩
      rcases Nat.lt_or_eq_of_le a with h | rfl
      · exact h3 j h b
      · exact hb
theorem ones_le (m : Nat) : onesN m ≤ 64 := by have := (onesUp_ge m 64 0).2.1; unfold onesN; omega
theorem ones_set (m : Nat) {j : Nat} (h : j < onesN m) : m.testBit j = true := (onesUp_ge m 64 0).2.2.1 j (Nat.zero_le _) h
theorem ones_end (m : Nat) (h : onesN m < 64) : m.testBit (onesN m) = false := (onesUp_ge m 64 0).2.2.2 (by unfold onesN at h; omega)
theorem ones_zero (m : Nat) : onesN m = 0 ↔ m.testBit 0 = false := by
  constructor
  · intro h; have := ones_end m (by omega); rwa [h] at this
  · intro h
    rcases Nat.eq_zero_or_pos (onesN m) with h' | h'
    · exact h'
    · rw [ones_set m h'] at h; cases h
theorem no_high {m : Nat} (h : m < 2 ^ 64) {j : Nat} (hj : 64 ≤ j) : m.testBit j = false :=
  Nat.testBit_lt_two_pow (Nat.lt_of_lt_of_le h (Nat.pow_le_pow_right (by omega) hj))
theorem setM_bit (m j : Nat) : (setM m).testBit j = m.testBit (onesN m + j) := by
  unfold setM; rw [down_shift _ _ (by omega), Nat.testBit_shiftRight]; simp
theorem setM_lt {m : Nat} (h : m < 2 ^ 64) : setM m < 2 ^ 64 := downN_lt h _
theorem setM_even {m : Nat} (h : m < 2 ^ 64) : (setM m).testBit 0 = false := by
  rw [setM_bit, Nat.add_zero]
  rcases Nat.lt_or_ge (onesN m) 64 with h' | h'
  · exact ones_end m h'
  · exact no_high h h'
theorem inW_set {m : Nat} (h : m < 2 ^ 64) (B n : Int) : inW (setB B m) (setM m) n = inW B m n := by
  have hL := ones_le m
  unfold inW setB
  by_cases h1 : n < B
  · rw [decide_eq_true (by omega : n < B + (onesN m : Int)), decide_eq_true h1]; simp
  · obtain ⟨k, hk⟩ : ∃ k : Nat, n - B = (k : Int) := ⟨(n - B).toNat, by omega⟩
    rw [decide_eq_false h1, hk, Bool.false_or]
    by_cases h2 : n < B + (onesN m : Int)
    · rw [decide_eq_true h2, Bool.true_or, hasN_cast _ _ (by omega), ones_set m (by omega)]
    · rw [decide_eq_false h2, Bool.false_or]
      obtain ⟨d, rfl⟩ : ∃ d, k = onesN m + d := ⟨k - onesN m, by omega⟩
      rw [show n - (B + (onesN m : Int)) = (d : Int) by omega]
      by_cases h3 : d < 64
      · rw [hasN_cast _ _ h3, setM_bit]
        by_cases h4 : onesN m + d < 64
        · rw [hasN_cast _ _ h4]
        · rw [hasN_out _ _ (by omega), no_high h (by omega)]
      · rw [hasN_out _ _ (by omega), hasN_out _ _ (by omega)]
theorem inW_with (B : Int) (m : Nat) (k n : Int) (h0 : B ≤ k) (h1 : k - B < 64) : inW B (withN m (k - B)) n = (inW B m n || decide (n = k)) := by
  unfold inW
  rw [has_with, Bool.or_assoc]
  congr 2
  apply decide_eq_decide.2
  omega
theorem setUp_shift (m L : Nat) : ∀ k, (setUp m (L + k)).length = (setUp m L).length + (setUp (m >>> L) k).length := by
  intro k
  induction k with
  | zero => simp [setUp]
  | succ k ih =>
    rw [← Nat.add_assoc, setUp_succ, setUp_succ, List.length_append, List.length_append, ih, Nat.testBit_shiftRight]
    cases m.testBit (L + k) <;> simp <;> omega
theorem setUp_all {m : Nat} : ∀ L, (∀ j, j < L → m.testBit j = true) → (setUp m L).length = L := by
  intro L
  induction L with
  | zero => intro _; rfl
  | succ L ih => intro h; rw [setUp_yes (h L (by omega)), List.length_append, ih fun j hj => h j (by omega)]; rfl
theorem setUp_none {m : Nat} {k : Nat} : ∀ d, (∀ j, k ≤ j → m.testBit j = false) → (setUp m (k + d)).length = (setUp m k).length := by
  intro d
  induction d with
  | zero => intro _; rfl
  | succ d ih => intro h; rw [← Nat.add_assoc, setUp_no (h _ (by omega)), ih h]
theorem many_set {m : Nat} (h : m < 2 ^ 64) : (setN m).length = onesN m + (setN (setM m)).length := by
  have hL := ones_le m
  have e1 := setUp_shift m (onesN m) (64 - onesN m)
  rw [show onesN m + (64 - onesN m) = 64 by omega, setUp_all _ (fun j hj => ones_set m hj)] at e1
  have e2 := setUp_none (m := setM m) (k := 64 - onesN m) (onesN m) (fun j hj => by rw [setM_bit]; exact no_high h (by omega))
  rw [show 64 - onesN m + onesN m = 64 by omega] at e2
  unfold setN
  rw [e1, e2]
  unfold setM; rw [down_shift _ _ (by omega)]; simp
theorem ask_ok {B : Int} {m : Nat} {s n : Int} (h : askW B m s n = 0) : goodW B m = true ∧ 1 ≤ n ∧ n ≤ 1099511627776 ∧ inW B m n = false ∧ B ≤ n ∧ n - B < s ∧ s ≤ 64 := by
  unfold askW at h
  split at h
  · rename_i hc
    obtain ⟨h1, h2, h3, h4, h5⟩ := hc
    split at h
    · cases h
    · rename_i hd
      have hi : inW B m n = false := by
        cases hb : inW B m n
        · rfl
        · exfalso; apply hd; unfold doneW; rw [h1, hb, decide_eq_true h4]; rfl
      split at h
      · cases h
      · rename_i hs
        refine ⟨h1, h4, h5, hi, ?_, by omega, h3⟩
        unfold inW at hi
        rw [Bool.or_eq_false_iff] at hi
        have := of_decide_eq_false hi.1
        omega
  · cases h
def mkM (B : Int) (m : Nat) (n : Int) : Nat := withN m (n - B)
theorem mark_good {B : Int} {m : Nat} {s n : Int} (hm : m < 2 ^ 64) (h : askW B m s n = 0) : goodW (setB B (mkM B m n)) (setM (mkM B m n)) = true := by
  obtain ⟨hg, h1, h2, h3, h4, h5, h6⟩ := ask_ok h
  obtain ⟨g1, g2, g3⟩ := good_iff.1 hg
  have hx := withN_lt hm (n - B)
  have hall : ∀ j, (mkM B m n).testBit j = true → B + (j : Int) ≤ 1099511627776 := by
    intro j hj
    unfold mkM at hj
    rw [testBit_withN, Bool.or_eq_true] at hj
    rcases hj with hj | hj
    · exact g3 j hj
    · have := of_decide_eq_true hj; omega
  refine good_iff.2 ⟨?_, setM_even hx, ?_⟩
  · unfold setB
    have hL := ones_le (mkM B m n)
    refine ⟨by omega, ?_⟩
    rcases Nat.eq_zero_or_pos (onesN (mkM B m n)) with h' | h'
    · omega
    · have := hall (onesN (mkM B m n) - 1) (ones_set _ (by omega)); omega
  · intro j hj
    rw [setM_bit] at hj
    have := hall _ hj
    unfold setB; omega
theorem mark_in {B : Int} {m : Nat} {s n : Int} (hm : m < 2 ^ 64) (h : askW B m s n = 0) (x : Int) : inW (setB B (mkM B m n)) (setM (mkM B m n)) x = (inW B m x || decide (x = n)) := by
  obtain ⟨hg, h1, h2, h3, h4, h5, h6⟩ := ask_ok h
  unfold mkM
  rw [inW_set (withN_lt hm _)]
  exact inW_with B m n x h4 (by omega)
theorem mark_count {B : Int} {m : Nat} {s n : Int} (hm : m < 2 ^ 64) (h : askW B m s n = 0) : countW (setB B (mkM B m n)) (setM (mkM B m n)) = countW B m + 1 := by
  have hg' := mark_good hm h
  obtain ⟨hg, h1, h2, h3, h4, h5, h6⟩ := ask_ok h
  unfold countW
  rw [if_pos hg', if_pos hg]
  have hx := withN_lt hm (n - B)
  have e := many_set hx
  have e2 := many_with m (n - B)
  have hn : hasN m (n - B) = false := by
    unfold inW at h3; rw [Bool.or_eq_false_iff] at h3; exact h3.2
  rw [hn, decide_eq_true (by omega : 0 ≤ n - B ∧ n - B < 64)] at e2
  have e3 := of_decide_eq_true e2
  unfold setB mkM
  omega
theorem done_in {B : Int} {m : Nat} (h : goodW B m = true) (n : Int) : doneW B m n = (decide (1 ≤ n) && inW B m n) := by unfold doneW; rw [h, Bool.true_and]
theorem window_ext {B B' : Int} {m m' : Nat} (hm : m < 2 ^ 64) (hm' : m' < 2 ^ 64) (g : goodW B m = true) (g' : goodW B' m' = true) (h : ∀ x, 1 ≤ x → inW B m x = inW B' m' x) : B = B' ∧ m = m' := by
  obtain ⟨g1, g2, g3⟩ := good_iff.1 g
  obtain ⟨k1, k2, k3⟩ := good_iff.1 g'
  have a1 : inW B m B = false := by
    unfold inW; rw [decide_eq_false (by omega), show B - B = ((0 : Nat) : Int) by omega, hasN_cast _ _ (by omega), g2]; rfl
  have a2 : inW B' m' B' = false := by
    unfold inW; rw [decide_eq_false (by omega), show B' - B' = ((0 : Nat) : Int) by omega, hasN_cast _ _ (by omega), k2]; rfl
  have e : B = B' := by
    rcases Int.lt_trichotomy B B' with hlt | he | hlt
    · have := h B g1.1
      rw [a1] at this
      unfold inW at this; rw [decide_eq_true hlt] at this; cases this
    · exact he
    · have := h B' k1.1
      rw [a2] at this
      unfold inW at this; rw [decide_eq_true hlt] at this; cases this
  refine ⟨e, eq_of_bits hm hm' fun j hj => ?_⟩
  have := h (B + j) (by omega)
  unfold inW at this
  rw [← e, decide_eq_false (by omega), show B + (j : Int) - B = (j : Int) by omega, hasN_cast _ _ hj, hasN_cast _ _ hj] at this
  simpa using this
end Go.Proofs.Ytnjlamcpfclgaaa
