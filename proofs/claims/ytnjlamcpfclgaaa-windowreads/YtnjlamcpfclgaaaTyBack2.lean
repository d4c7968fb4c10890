/- Numbers come back as they were put. -/
import Derived.Test.YtnjlamcpfclgaaaTyRefNum
namespace Go.Proofs.Ytnjlamcpfclgaaa.Ty
open Go.RowKit
open Tal
namespace Tal
theorem head_digs (n : Nat) (h0 : 0 < n) (h : n < 2 ^ 63) : (digs n).head? ≠ some 0 := by
  obtain ⟨_, b, c⟩ := wid_bounds 8 n h (by omega)
  obtain ⟨c1, c2⟩ := c h0
  have hg := digK_get (wid n) n 0 c1
  have hl := digs_length n
  unfold digs at hl ⊢
  cases hd : digK (wid n) n with
  | nil => simp
  | cons x tl =>
    rw [hd] at hg
    have hg' : x = ((n / 256 ^ (wid n - 1 - 0) % 256 : Nat) : Int) := hg
    rw [Nat.sub_zero] at hg'
    have hlt : n / 256 ^ (wid n - 1) < 256 := by
      rw [Nat.div_lt_iff_lt_mul (Nat.pow_pos (by omega)), Nat.mul_comm, ← Nat.pow_succ]
      have e : (wid n - 1).succ = wid n := by omega
      rw [e]; exact b
    have hpos : 0 < n / 256 ^ (wid n - 1) := Nat.div_pos c2 (Nat.pow_pos (by omega))
    rw [Nat.mod_eq_of_lt hlt] at hg'
    intro hc
    simp only [List.head?_cons, Option.some.injEq] at hc
    omega
theorem numR_back (n : Nat) (h : n < 2 ^ 63) (more : List Int) : numR (numB n ++ more) = ((n : Int), 1 + wid n, 0) := by
  have hw := wid_le n h
  have hv := val_digs n h
  have ht : (digs n ++ more).take (wid n) = digs n := by rw [List.take_append_of_le_length (by rw [digs_length]; exact Nat.le_refl _), List.take_of_length_le (by rw [digs_length]; exact Nat.le_refl _)]
  have hh : ¬ ((digs n).head? = some 0 ∨ 9223372036854775807 < val (digs n)) := by
    rw [hv]
    by_cases h0 : n = 0
    · subst h0; rw [digs_zero]; simp
    · intro hc
      rcases hc with hc | hc
      · exact head_digs n (by omega) h hc
      · omega
  have e : valR (digs n) = ((n : Int), 0) := by unfold valR; rw [if_neg hh, hv]
  have e0 : numB n ++ more = (wid n : Int) :: (digs n ++ more) := rfl
  rw [e0]
  simp only [numR]
  rw [if_neg (by omega), if_neg (by rw [List.length_append, digs_length]; omega), Int.toNat_natCast, ht, e]
  simp
theorem numS_back (x most : Int) (h0 : 0 ≤ x) (h1 : x ≤ 9223372036854775807) (hm : x ≤ most) (more : List Int) : numS (putL x ++ more) 0 most = (x, more, 0) := by
  have e : putL x = numB x.toNat := by unfold putL; rw [if_neg (by omega)]
  have hr := numR_back x.toNat (by omega) more
  have hx : ((x.toNat : Nat) : Int) = x := by omega
  rw [hx] at hr
  have hd : (numB x.toNat ++ more).drop (1 + wid x.toNat) = more := by
    have : (numB x.toNat).length = 1 + wid x.toNat := by simp only [numB, List.length_cons, digs_length]; omega
    rw [← this, List.drop_append_of_le_length (Nat.le_refl _)]; simp
  unfold numS
  rw [e, hr, if_pos rfl, if_pos rfl, if_neg (by omega), hd]
end Tal
end Go.Proofs.Ytnjlamcpfclgaaa.Ty
