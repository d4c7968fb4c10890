/- The laws of masks: the walks of MaskTells, MaskDown, MaskWith, MaskBack. -/
import Derived.Test.YtinpbnkmpplkiabLives
namespace Go.Proofs.Ytinpbnkmpplkiab
open Go.RowKit
theorem mask_nat {z : Int} (h : (Lit.int .u64 z).wf = true) : ∃ m : Nat, z = (m : Int) ∧ m < 2 ^ 64 := by
  simp only [Lit.wf, Bool.and_eq_true, decide_eq_true_eq] at h
  have h0 : 0 ≤ z := h.1
  have h1 : z ≤ 18446744073709551615 := h.2
  exact ⟨z.toNat, by omega, by omega⟩
theorem umodc (z : Int) (c : Int) (hc : 0 < c) (hm : c ≤ 65) : ∃ p : Nat, (p : Int) < c ∧ wrap64 ((IntKind.u64.wrap z).tmod c) = (p : Int) := by
  rw [IntKind.wrap_u64]
  have h0' : 0 ≤ z % 18446744073709551616 := Int.emod_nonneg _ (by decide)
  generalize z % 18446744073709551616 = q at h0'
  rw [Int.tmod_eq_emod_of_nonneg h0']
  have h1 := Int.emod_nonneg q (b := c) (by omega)
  have h2 := Int.emod_lt_of_pos q (b := c) (by omega)
  refine ⟨(q % c).toNat, by omega, ?_⟩
  generalize q % c = r at h1 h2
  simp only [wrap64]
  omega
set_option maxHeartbeats 1000000 in
theorem tells_walk (m : Nat) (hm : m < 2 ^ 64) (i : Int) (w : World) :
    Calls Try.prog 3 #[.int .u64 (m : Int), .int .i64 i] w fun e w' => e = .returned (.bool true) ∧ Below w.heap.size w w' := by
  have c1 := has_any m hm i
  have c2 := refHas_any m hm i
  have c3 := with_any m hm i
  have c4 := refWith_any m hm i
  have c5 := down_any m hm i
  have c6 := refDown_any m hm i
  have c7 := ones_any m hm
  have c8 := refOnes_any m hm
  have c9 := many_any m hm
  have c10 := refList_any m hm
  generalize hasN m i = b at *
  generalize withN m i = x at *
  generalize downN m i = d at *
  generalize onesN m = o at *
  generalize setN m = l at *
  clear hm
  go_enter Try.func3, Try.ntmps3
  go_wp2_with (first | (go_at_call 8; refine (c1 _).mono ?_; rintro e w5 ⟨rfl, hx⟩; obtain rfl := hx.symm; clear hx) | (go_at_call 9; refine (c2 _).mono ?_; rintro e w5 ⟨rfl, hx⟩; obtain rfl := hx.symm; clear hx) | (go_at_call 10; refine (c3 _).mono ?_; rintro e w5 ⟨rfl, hx⟩; obtain rfl := hx.symm; clear hx) | (go_at_call 11; refine (c4 _).mono ?_; rintro e w5 ⟨rfl, hx⟩; obtain rfl := hx.symm; clear hx) | (go_at_call 12; refine (c5 _).mono ?_; rintro e w5 ⟨rfl, hx⟩; obtain rfl := hx.symm; clear hx))
  refine (c6 _).mono ?_
  rintro e w1 ⟨rfl, hb1⟩
  go_wp2_with fail
  refine (c7 _).mono ?_
  rintro e w2 ⟨rfl, hb2'⟩
  have hb2 := hb1.trans (hb2'.mono hb1.size)
  go_wp2_with fail
  refine (c8 _).mono ?_
  rintro e w3 ⟨rfl, hb3'⟩
  have hb3 := hb2.trans (hb3'.mono hb2.size)
  go_wp2_with fail
  refine (c9 _).mono ?_
  rintro e w4 ⟨rfl, hb4'⟩
  have hb4 := hb3.trans (hb4'.mono hb3.size)
  go_wp2_with fail
  refine (c10 _).mono ?_
  rintro e w5 ⟨v, rfl, hrow, hb5'⟩
  have hb5 := hb4.trans (hb5'.mono hb4.size)
  obtain ⟨va, vcap, rfl⟩ := ownsRow_slice hrow
  go_wp2_with fail
  refine (lives_any _).mono ?_
  rintro e w6 ⟨rfl, hb6'⟩
  have hb6 := hb5.trans (hb6'.mono hb5.size)
  go_wp2_with fail
  go_ret
  exact ⟨rfl, hb6⟩
set_option maxHeartbeats 1000000 in
theorem down_walk (m : Nat) (hm : m < 2 ^ 64) (n i : Int) (w : World) :
    Calls Try.prog 6 #[.int .u64 (m : Int), .int .i64 n, .int .i64 i] w fun e w' => e = .returned (.bool true) ∧ Below w.heap.size w w' := by
  obtain ⟨a, ha, ea⟩ := umodc n 64 (by decide) (by decide)
  obtain ⟨b, hb, eb⟩ := umodc i 64 (by decide) (by decide)
  have hd : hasN (downN m (a : Int)) (b : Int) = (decide ((a : Int) + (b : Int) < 64) && hasN m ((a : Int) + (b : Int))) := by
    rw [has_down m a b hm (by omega) (by omega)]
    by_cases h : a + b < 64
    · rw [show ((a : Int) + (b : Int)) = ((a + b : Nat) : Int) from by omega, hasN_cast _ _ h, decide_eq_true h, decide_eq_true (by omega)]
    · rw [decide_eq_false h, decide_eq_false (by omega)]; rfl
  have a0 : (0 : Int) ≤ a := by omega
  have b0 : (0 : Int) ≤ b := by omega
  generalize (a : Int) = A at *
  generalize (b : Int) = B at *
  clear a b
  have c1 := down_any m hm A
  have c2 := has_any (downN m A) (downN_lt hm _) B
  have c3 := has_any m hm (A + B)
  rw [hd] at c2
  by_cases h : A + B < 64
  · rw [decide_eq_true h, Bool.true_and] at c2
    generalize hasN m (A + B) = q at *
    generalize downN m A = d at *
    clear hm hd
    go_enter Try.func6, Try.ntmps6
    go_wp2_with (first | (go_at_call 12; refine (c1 _).mono ?_; rintro e w5 ⟨rfl, hx⟩; obtain rfl := hx.symm; clear hx) | (go_at_call 8; first | (refine (c2 _).mono ?_; rintro e w5 ⟨rfl, hx⟩; obtain rfl := hx.symm; clear hx) | (refine (c3 _).mono ?_; rintro e w5 ⟨rfl, hx⟩; obtain rfl := hx.symm; clear hx)))
    refine (lives_any _).mono ?_
    rintro e w6 ⟨rfl, hb6⟩
    go_wp2_with fail
    go_ret
    exact ⟨rfl, hb6⟩
  · rw [decide_eq_false h, Bool.false_and] at c2
    generalize downN m A = d at *
    clear hm c3 hd
    go_enter Try.func6, Try.ntmps6
    go_wp2_with (first | (go_at_call 12; refine (c1 _).mono ?_; rintro e w5 ⟨rfl, hx⟩; obtain rfl := hx.symm; clear hx) | (go_at_call 8; (refine (c2 _).mono ?_; rintro e w5 ⟨rfl, hx⟩; obtain rfl := hx.symm; clear hx)))
    refine (lives_any _).mono ?_
    rintro e w6 ⟨rfl, hb6⟩
    go_wp2_with fail
    go_ret
    exact ⟨rfl, hb6⟩
end Go.Proofs.Ytinpbnkmpplkiab
