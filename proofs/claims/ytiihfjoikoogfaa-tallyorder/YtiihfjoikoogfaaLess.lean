/- The order of numbers is that of their bytes: plain mathematics. -/
import Derived.Test.YtiihfjoikoogfaaBytes
import Derived.Test.YtiihfjoikoogfaaDig
namespace Go.Proofs.Ytiihfjoikoogfaa
open Go
namespace Tal
/-- bytes that come first and are equal decide nothing; a lesser one decides -/
theorem less_cons (a b : UInt8) (x y : List UInt8) : Op.bytesLess (a :: x) (b :: y) = (a < b || (a == b && Op.bytesLess x y)) := rfl
def by8 (z : Int) : UInt8 := UInt8.ofNat z.toNat
theorem by8_lt (a b : Int) (ha : 0 ≤ a ∧ a < 256) (hb : 0 ≤ b ∧ b < 256) : (by8 a < by8 b) ↔ a < b := by
  rw [UInt8.lt_iff_toNat_lt]
  simp only [by8, UInt8.toNat_ofNat']
  omega
theorem by8_eq (a b : Int) (ha : 0 ≤ a ∧ a < 256) (hb : 0 ≤ b ∧ b < 256) : (by8 a = by8 b) ↔ a = b := by
  rw [← UInt8.toNat_inj]
  simp only [by8, UInt8.toNat_ofNat']
  omega
/-- one list of digits below another of the same length, with one more digit each -/
theorem less_snoc : ∀ (x y : List UInt8) (a b : UInt8), x.length = y.length → Op.bytesLess (x ++ [a]) (y ++ [b]) = (Op.bytesLess x y || (x == y && a < b))
  | [], [], a, b, _ => by simp [Op.bytesLess]
  | p :: x, q :: y, a, b, h => by
    simp only [List.cons_append, less_cons]
    rw [less_snoc x y a b (by simpa using h)]
    by_cases h1 : p < q
    · simp [h1]
    · by_cases h2 : p = q
      · subst h2; simp [h1]
      · have h3 : (p == q) = false := by simpa using h2
        simp [h1, h3]
theorem digK_less : ∀ (k m n : Nat), m < 256 ^ k → n < 256 ^ k → Op.bytesLess ((digK k m).map by8) ((digK k n).map by8) = decide (m < n) ∧ (((digK k m).map by8 == (digK k n).map by8) = decide (m = n))
  | 0, m, n, hm, hn => by
    have h1 : m = 0 := by simpa using hm
    have h2 : n = 0 := by simpa using hn
    subst h1; subst h2
    simp [digK, Op.bytesLess]
  | k + 1, m, n, hm, hn => by
    have e := Nat.pow_succ 256 k
    obtain ⟨i1, i2⟩ := digK_less k (m / 256) (n / 256) (by omega) (by omega)
    have hl : ((digK k (m / 256)).map by8).length = ((digK k (n / 256)).map by8).length := by simp [digK_length]
    have q1 := by8_lt ((m % 256 : Nat) : Int) ((n % 256 : Nat) : Int) (by omega) (by omega)
    have q2 := by8_eq ((m % 256 : Nat) : Int) ((n % 256 : Nat) : Int) (by omega) (by omega)
    simp only [digK, List.map_append, List.map_cons, List.map_nil]
    constructor
    · rw [less_snoc _ _ _ _ hl, i1, i2]
      rw [Bool.eq_iff_iff]
      simp only [Bool.or_eq_true, Bool.and_eq_true, decide_eq_true_eq, q1]
      omega
    · rw [Bool.eq_iff_iff] at i2 ⊢
      simp only [beq_iff_eq, decide_eq_true_eq] at i2 ⊢
      constructor
      · intro h
        obtain ⟨h1, h2⟩ := List.append_inj h hl
        have h3 := i2.1 h1
        simp only [List.cons.injEq, and_true] at h2
        have h4 := q2.1 h2
        omega
      · intro h; rw [h]
theorem wid_mono (m n : Nat) (hm : m < 2 ^ 63) (hn : n < 2 ^ 63) (h : wid m < wid n) : m < n := by
  obtain ⟨_, b1, _⟩ := wid_bounds 8 m hm (by omega)
  obtain ⟨_, _, c2⟩ := wid_bounds 8 n hn (by omega)
  by_cases h0 : n = 0
  · subst h0; rw [wid_zero] at h; omega
  · obtain ⟨d1, d2⟩ := c2 (by omega)
    have : 256 ^ wid m ≤ 256 ^ (wid n - 1) := Nat.pow_le_pow_right (by omega) (by omega)
    omega
theorem numB_less (m n : Nat) (hm : m < 2 ^ 63) (hn : n < 2 ^ 63) : Op.bytesLess ((numB m).map by8) ((numB n).map by8) = decide (m < n) ∧ (((numB m).map by8 == (numB n).map by8) = decide (m = n)) := by
  have w1 := wid_le m hm
  have w2 := wid_le n hn
  have q1 := by8_lt (wid m : Int) (wid n : Int) (by omega) (by omega)
  have q2 := by8_eq (wid m : Int) (wid n : Int) (by omega) (by omega)
  obtain ⟨_, b1, _⟩ := wid_bounds 8 m hm (by omega)
  obtain ⟨_, b2, _⟩ := wid_bounds 8 n hn (by omega)
  simp only [numB, List.map_cons, less_cons, digs]
  by_cases h1 : wid m < wid n
  · have := wid_mono m n hm hn h1
    have h2 : by8 (wid m : Int) < by8 (wid n : Int) := q1.2 (by omega)
    have h3 : ¬ by8 (wid m : Int) = by8 (wid n : Int) := fun h => by have := q2.1 h; omega
    have h4 : m ≠ n := by omega
    simp [h2, h3, this, h4]
  · by_cases h2 : wid n < wid m
    · have := wid_mono n m hn hm h2
      have h3 : ¬ by8 (wid m : Int) < by8 (wid n : Int) := fun h => by have := q1.1 h; omega
      have h4 : ¬ by8 (wid m : Int) = by8 (wid n : Int) := fun h => by have := q2.1 h; omega
      have h5 : m ≠ n := by omega
      have h6 : ¬ m < n := by omega
      simp [h3, h4, h5, h6]
    · have hw : wid m = wid n := by omega
      rw [hw] at b1 ⊢
      obtain ⟨i1, i2⟩ := digK_less (wid n) m n b1 b2
      have h3 : ¬ by8 (wid n : Int) < by8 (wid n : Int) := by rw [UInt8.lt_iff_toNat_lt]; omega
      rw [i1]
      refine ⟨by simp [h3], ?_⟩
      rw [Bool.eq_iff_iff] at i2 ⊢
      simp only [beq_iff_eq, decide_eq_true_eq, List.cons.injEq, true_and] at i2 ⊢
      exact i2
theorem putL_less (m n : Int) (hm0 : 0 ≤ m) (hn0 : 0 ≤ n) (hm : m ≤ 9223372036854775807) (hn : n ≤ 9223372036854775807) :
    Op.bytesLess ((putL m).map by8) ((putL n).map by8) = decide (m < n) ∧ (((putL m).map by8 == (putL n).map by8) = (m == n)) := by
  have e1 : putL m = numB m.toNat := by unfold putL; rw [if_neg (by omega)]
  have e2 : putL n = numB n.toNat := by unfold putL; rw [if_neg (by omega)]
  obtain ⟨i1, i2⟩ := numB_less m.toNat n.toNat (by omega) (by omega)
  rw [e1, e2, i1, i2]
  constructor
  · congr 1; apply propext; omega
  · rw [Bool.eq_iff_iff]; simp only [decide_eq_true_eq, beq_iff_eq]; omega
end Tal
theorem strOf_toList (zs : List Int) : (strOf zs).toList = zs.map Tal.by8 := by
  unfold strOf
  rw [ByteArray.toList_eq, foldl_push_bytes]
  simp
  intro a _
  rfl
end Go.Proofs.Ytiihfjoikoogfaa
