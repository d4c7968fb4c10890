/- Plain mathematics of numbers as bytes: how many bytes a number has, its digits to the base 256, the highest first, and back. Imports nothing of the translation. -/
import Derived.Lib.BitFns
namespace Go.Proofs.YtogmkcabndgllaaDoor
namespace Tal
open Go

/-- how many bytes a number has -/
def wid (n : Nat) : Nat := (Lib.bitLen n + 7) / 8
/-- the lowest k digits, the highest of them first -/
def digK : Nat → Nat → List Int
  | 0, _ => []
  | k + 1, n => digK k (n / 256) ++ [((n % 256 : Nat) : Int)]
def digs (n : Nat) : List Int := digK (wid n) n
/-- a number's bytes -/
def numB (n : Nat) : List Int := (wid n : Int) :: digs n
/-- what Put lays behind -/
def putL (n : Int) : List Int := if n < 0 then [] else numB n.toNat

theorem wid_zero : wid 0 = 0 := by decide
theorem wid_succ (n : Nat) (h0 : 0 < n) (h : n < 2 ^ 63) : wid n = wid (n / 256) + 1 := by
  unfold wid
  by_cases h2 : 256 ≤ n
  · rw [Lib.bitLen_shift8 n h2 (by omega)]; omega
  · have e : n / 256 = 0 := by omega
    have h3 := Lib.bitLen_half n (by omega) (by omega)
    have h4 := Lib.bitLen_le8 ⟨n, by omega⟩
    simp only at h4
    rw [e]
    have : Lib.bitLen 0 = 0 := by decide
    rw [this]
    omega
theorem wid_bounds : ∀ (k n : Nat), n < 2 ^ 63 → n < 256 ^ k → wid n ≤ k ∧ n < 256 ^ wid n ∧ (0 < n → 0 < wid n ∧ 256 ^ (wid n - 1) ≤ n)
  | 0, n, _, h => by
    have : n = 0 := by simpa using h
    subst this
    rw [wid_zero]; simp
  | k + 1, n, hn, h => by
    by_cases h0 : n = 0
    · subst h0; rw [wid_zero]; simp
    · have hs := wid_succ n (by omega) hn
      obtain ⟨a, b, c⟩ := wid_bounds k (n / 256) (by omega) (by rw [Nat.pow_succ] at h; omega)
      rw [hs]
      refine ⟨by omega, by rw [Nat.pow_succ]; omega, fun _ => ⟨by omega, ?_⟩⟩
      rw [Nat.add_sub_cancel]
      by_cases h1 : n / 256 = 0
      · rw [h1, wid_zero]; simp; omega
      · obtain ⟨c1, c2⟩ := c (by omega)
        have : wid (n / 256) = wid (n / 256) - 1 + 1 := by omega
        rw [this, Nat.pow_succ]
        omega
theorem wid_le (n : Nat) (h : n < 2 ^ 63) : wid n ≤ 8 := (wid_bounds 8 n h (by omega)).1

theorem digK_length : ∀ k n, (digK k n).length = k
  | 0, _ => rfl
  | k + 1, n => by simp [digK, digK_length k]
theorem digK_byte : ∀ k n, ∀ z ∈ digK k n, 0 ≤ z ∧ z < 256
  | 0, _, z, h => by simp [digK] at h
  | k + 1, n, z, h => by
    simp only [digK, List.mem_append, List.mem_singleton] at h
    rcases h with h | rfl
    · exact digK_byte k _ z h
    · omega
theorem digK_get : ∀ k n i, i < k → (digK k n).getD i 0 = ((n / 256 ^ (k - 1 - i) % 256 : Nat) : Int)
  | 0, _, _, h => by omega
  | k + 1, n, i, h => by
    simp only [digK, List.getD_eq_getElem?_getD]
    by_cases hi : i < k
    · rw [List.getElem?_append_left (by rw [digK_length]; exact hi), ← List.getD_eq_getElem?_getD, digK_get k (n / 256) i hi, Nat.div_div_eq_div_mul]
      have e : k + 1 - 1 - i = (k - 1 - i) + 1 := by omega
      rw [e, Nat.pow_succ, Nat.mul_comm]
    · have e : i = k := by omega
      subst e
      rw [List.getElem?_append_right (by rw [digK_length]; exact Nat.le_refl _), digK_length]
      simp
theorem digs_zero : digs 0 = [] := by unfold digs; rw [wid_zero]; rfl
theorem digs_succ (n : Nat) (h0 : 0 < n) (h : n < 2 ^ 63) : digs n = digs (n / 256) ++ [((n % 256 : Nat) : Int)] := by
  unfold digs
  rw [wid_succ n h0 h]; rfl
theorem digs_length (n : Nat) : (digs n).length = wid n := digK_length _ _
theorem digs_byte (n : Nat) : ∀ z ∈ digs n, 0 ≤ z ∧ z < 256 := digK_byte _ _
theorem putL_byte (n : Int) (h : n < 2 ^ 63) : ∀ z ∈ putL n, 0 ≤ z ∧ z < 256 := by
  intro z hz
  unfold putL at hz
  split at hz
  · simp at hz
  · simp only [numB, List.mem_cons] at hz
    rcases hz with rfl | hz
    · have := wid_le n.toNat (by omega); omega
    · exact digs_byte _ z hz
theorem putL_length (n : Int) (h : n < 2 ^ 63) : (putL n).length ≤ 9 := by
  unfold putL
  split
  · simp
  · simp only [numB, List.length_cons, digs_length]
    have := wid_le n.toNat (by omega); omega

/-- back -/
def val (l : List Int) : Int := l.foldl (fun a d => a * 256 + d) 0
theorem val_snoc (l : List Int) (d : Int) : val (l ++ [d]) = val l * 256 + d := by simp [val, List.foldl_append]
theorem val_digK : ∀ k n, val (digK k n) = ((n % 256 ^ k : Nat) : Int)
  | 0, n => by simp [digK, val, Nat.mod_one]
  | k + 1, n => by
    rw [digK, val_snoc, val_digK k (n / 256), Nat.pow_succ, Nat.mul_comm (256 ^ k) 256, Nat.mod_mul]
    omega
theorem val_digs (n : Nat) (h : n < 2 ^ 63) : val (digs n) = n := by
  unfold digs
  rw [val_digK, Nat.mod_eq_of_lt (wid_bounds 8 n h (by omega)).2.1]
end Tal
end Go.Proofs.YtogmkcabndgllaaDoor
