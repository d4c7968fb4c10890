/- The laws of masks: the walks of MaskWith and MaskBack. -/
import Derived.Test.YtinpbnkmpplkiabWalks
namespace Go.Proofs.Ytinpbnkmpplkiab
open Go.RowKit
theorem with_in (i : Int) (x m : Nat) (h : x = withN m i) : hasN x i = decide (0 ≤ i ∧ i < 64) := by
  subst h
  rw [has_with]
  by_cases hi : 0 ≤ i ∧ i < 64
  · simp [hi]
  · rw [hasN_out _ _ hi]; simp [hi]
theorem has_other {m : Nat} {i o : Int} (h : o ≠ i) : hasN (withN m i) o = hasN m o := by
  rw [has_with]; simp [h]
set_option maxHeartbeats 4000000 in
theorem with_go (m X Y Z L0 L1 : Int) (i k o : Int) (bin bm bo : Bool) (w : World)
    (c1 : ∀ w, Calls Try.prog 10 #[.int .u64 m, .int .i64 i] w fun e w' => e = .returned (.int .u64 X) ∧ w' = w)
    (c2 : ∀ w, Calls Try.prog 10 #[.int .u64 m, .int .i64 k] w fun e w' => e = .returned (.int .u64 Y) ∧ w' = w)
    (c3 : ∀ w, Calls Try.prog 10 #[.int .u64 X, .int .i64 i] w fun e w' => e = .returned (.int .u64 X) ∧ w' = w)
    (c4 : ∀ w, Calls Try.prog 10 #[.int .u64 X, .int .i64 k] w fun e w' => e = .returned (.int .u64 Z) ∧ w' = w)
    (c5 : ∀ w, Calls Try.prog 10 #[.int .u64 Y, .int .i64 i] w fun e w' => e = .returned (.int .u64 Z) ∧ w' = w)
    (c6 : ∀ w, Calls Try.prog 8 #[.int .u64 X, .int .i64 i] w fun e w' => e = .returned (.bool bin) ∧ w' = w)
    (c7 : ∀ w, Calls Try.prog 8 #[.int .u64 m, .int .i64 i] w fun e w' => e = .returned (.bool bm) ∧ w' = w)
    (c8 : o ≠ i → ∀ w, Calls Try.prog 8 #[.int .u64 X, .int .i64 o] w fun e w' => e = .returned (.bool bo) ∧ w' = w)
    (c9 : o ≠ i → ∀ w, Calls Try.prog 8 #[.int .u64 m, .int .i64 o] w fun e w' => e = .returned (.bool bo) ∧ w' = w)
    (c10 : ∀ w, Calls Try.prog 16 #[.int .u64 X] w fun e w' => e = .returned (.int .i64 L1) ∧ Below w.heap.size w w')
    (c11 : ∀ w, Calls Try.prog 16 #[.int .u64 m] w fun e w' => e = .returned (.int .i64 L0) ∧ Below w.heap.size w w')
    (hin : ((0 ≤ i ∧ i < 64) ∧ bin = true) ∨ (i < 0 ∧ bin = false) ∨ (64 ≤ i ∧ bin = false)) (hL0 : L0 ≤ 64) (hL0' : 0 ≤ L0)
    (hmany : (L1 == L0 + 1) = (bin && !bm)) :
    Calls Try.prog 7 #[.int .u64 m, .int .i64 i, .int .i64 k, .int .i64 o] w fun e w' => e = .returned (.bool true) ∧ Below w.heap.size w w' := by
  by_cases ho : o = i
  · clear c8 c9
    subst ho
    rcases hin with ⟨⟨h0, h1⟩, rfl⟩ | ⟨h0, rfl⟩ | ⟨h0, rfl⟩
    all_goals
      cases bm
      all_goals
        simp only [Bool.not_true, Bool.not_false, Bool.and_true, Bool.and_false] at hmany
        go_enter Try.func7, Try.ntmps7
        go_wp2_with fail
        refine (c1 _).mono ?_
        rintro e w5 ⟨rfl, hx⟩
        obtain rfl := hx.symm
        clear hx
        go_wp2_with fail
        refine (c6 _).mono ?_
        rintro e w5 ⟨rfl, hx⟩
        obtain rfl := hx.symm
        clear hx
        go_wp2_with fail
        refine (c3 _).mono ?_
        rintro e w5 ⟨rfl, hx⟩
        obtain rfl := hx.symm
        clear hx
        go_wp2_with fail
        refine (c1 _).mono ?_
        rintro e w5 ⟨rfl, hx⟩
        obtain rfl := hx.symm
        clear hx
        go_wp2_with fail
        refine (c4 _).mono ?_
        rintro e w5 ⟨rfl, hx⟩
        obtain rfl := hx.symm
        clear hx
        go_wp2_with fail
        refine (c2 _).mono ?_
        rintro e w5 ⟨rfl, hx⟩
        obtain rfl := hx.symm
        clear hx
        go_wp2_with fail
        refine (c5 _).mono ?_
        rintro e w5 ⟨rfl, hx⟩
        obtain rfl := hx.symm
        clear hx
        go_wp2_with fail
        refine (c10 _).mono ?_
        rintro e w2 ⟨rfl, hb2⟩
        go_wp2_with fail
        refine (c11 _).mono ?_
        rintro e w3 ⟨rfl, hb3'⟩
        have hb3 := hb2.trans (hb3'.mono hb2.size)
        go_wp2_with (first | (go_at_call 8; (refine (c7 _).mono ?_; rintro e w5 ⟨rfl, hx⟩; obtain rfl := hx.symm; clear hx)))
        refine (lives_any _).mono ?_
        rintro e w4 ⟨rfl, hb4'⟩
        have hb4 := hb3.trans (hb4'.mono hb3.size)
        go_wp2_with fail
        go_ret
        exact ⟨rfl, hb4⟩
  · replace c8 := c8 ho
    replace c9 := c9 ho
    rcases hin with ⟨⟨h0, h1⟩, rfl⟩ | ⟨h0, rfl⟩ | ⟨h0, rfl⟩
    all_goals
      cases bm
      all_goals
        simp only [Bool.not_true, Bool.not_false, Bool.and_true, Bool.and_false] at hmany
        go_enter Try.func7, Try.ntmps7
        go_wp2_with fail
        refine (c1 _).mono ?_
        rintro e w5 ⟨rfl, hx⟩
        obtain rfl := hx.symm
        clear hx
        go_wp2_with fail
        refine (c6 _).mono ?_
        rintro e w5 ⟨rfl, hx⟩
        obtain rfl := hx.symm
        clear hx
        go_wp2_with fail
        refine (c3 _).mono ?_
        rintro e w5 ⟨rfl, hx⟩
        obtain rfl := hx.symm
        clear hx
        go_wp2_with fail
        refine (c1 _).mono ?_
        rintro e w5 ⟨rfl, hx⟩
        obtain rfl := hx.symm
        clear hx
        go_wp2_with fail
        refine (c4 _).mono ?_
        rintro e w5 ⟨rfl, hx⟩
        obtain rfl := hx.symm
        clear hx
        go_wp2_with fail
        refine (c2 _).mono ?_
        rintro e w5 ⟨rfl, hx⟩
        obtain rfl := hx.symm
        clear hx
        go_wp2_with fail
        refine (c5 _).mono ?_
        rintro e w5 ⟨rfl, hx⟩
        obtain rfl := hx.symm
        clear hx
        go_wp2_with fail
        refine (c8 _).mono ?_
        rintro e w5 ⟨rfl, hx⟩
        obtain rfl := hx.symm
        clear hx
        go_wp2_with fail
        refine (c9 _).mono ?_
        rintro e w5 ⟨rfl, hx⟩
        obtain rfl := hx.symm
        clear hx
        go_wp2_with fail
        refine (c10 _).mono ?_
        rintro e w2 ⟨rfl, hb2⟩
        go_wp2_with fail
        refine (c11 _).mono ?_
        rintro e w3 ⟨rfl, hb3'⟩
        have hb3 := hb2.trans (hb3'.mono hb2.size)
        go_wp2_with (first | (go_at_call 8; (refine (c7 _).mono ?_; rintro e w5 ⟨rfl, hx⟩; obtain rfl := hx.symm; clear hx)))
        refine (lives_any _).mono ?_
        rintro e w4 ⟨rfl, hb4'⟩
        have hb4 := hb3.trans (hb4'.mono hb3.size)
        go_wp2_with fail
        go_ret
        exact ⟨rfl, hb4⟩
theorem with_walk (m : Nat) (hm : m < 2 ^ 64) (i k o : Int) (w : World) :
    Calls Try.prog 7 #[.int .u64 (m : Int), .int .i64 i, .int .i64 k, .int .i64 o] w fun e w' => e = .returned (.bool true) ∧ Below w.heap.size w w' := by
  have hx := withN_lt hm i
  refine with_go m (withN m i) (withN m k) (withN (withN m i) k) (setN m).length (setN (withN m i)).length i k o (decide (0 ≤ i ∧ i < 64)) (hasN m i) (hasN m o) w
    (with_any m hm i) (with_any m hm k) ?_ (with_any _ hx k) ?_ ?_ (has_any m hm i) ?_ (fun _ => has_any m hm o) (many_any _ hx) (many_any m hm) ?_ (by have := setUp_len m 64; unfold setN; omega) (by omega) ?_
  · intro w; have := with_any _ hx i w; rwa [with_again] at this
  · intro w; have := with_any _ (withN_lt hm k) i w; rwa [with_comm m k i] at this
  · intro w; have := has_any _ hx i w; rwa [with_in i _ m rfl] at this
  · intro h w; have := has_any _ hx o w; rwa [has_other h] at this
  · by_cases h : 0 ≤ i ∧ i < 64
    · exact .inl ⟨h, decide_eq_true h⟩
    · by_cases h' : i < 0
      · exact .inr (.inl ⟨h', decide_eq_false h⟩)
      · exact .inr (.inr ⟨by omega, decide_eq_false h⟩)
  · rw [← many_with m i]; rw [Bool.eq_iff_iff]; simp
end Go.Proofs.Ytinpbnkmpplkiab
