/- digest.Share and the document's: contracts. -/
import Derived.Test.YtbfcbjjhdadicaaDoorBase
namespace Go.Proofs.YtbfcbjjhdadicaaDoor
open Go.RowKit
open Sha
def sv (d : List Int) : Nat → Int
  | 0 => 0
  | k + 1 => sv d k * 256 + d.getD k 0
theorem sv_ok (d : List Int) (hb : ∀ z ∈ d, 0 ≤ z ∧ z < 256) (k : Nat) : 0 ≤ sv d k ∧ sv d k < 256 ^ k := by
  induction k with
  | zero => simp [sv]
  | succ k ih =>
    have := byte_ok hb k
    simp only [sv, Int.pow_succ]
    omega
theorem sv_few (d : List Int) (hb : ∀ z ∈ d, 0 ≤ z ∧ z < 256) (k : Nat) (hk : k ≤ 7) : 0 ≤ sv d k ∧ sv d k < 72057594037927936 := by
  refine ⟨(sv_ok d hb k).1, Int.lt_of_lt_of_le (sv_ok d hb k).2 ?_⟩
  have : (256 : Int) ^ k ≤ 256 ^ 7 := by
    have h := Nat.pow_le_pow_right (show 0 < 256 by omega) hk
    have e : ∀ j : Nat, (256 : Int) ^ j = ((256 ^ j : Nat) : Int) := by intro j; simp
    rw [e, e]; omega
  omega
theorem or8 (x b : Int) (hx : 0 ≤ x) (hx2 : x < 281474976710656) (hb0 : 0 ≤ b) (hb1 : b < 256) : bits .or .i64 (x * 256) b = x * 256 + b := by
  obtain ⟨m, rfl⟩ := Int.eq_ofNat_of_zero_le hx
  obtain ⟨n, rfl⟩ := Int.eq_ofNat_of_zero_le hb0
  have e1 : (m : Int) * 256 = ((m * 256 : Nat) : Int) := by omega
  rw [e1]
  show IntKind.i64.wrap ((BitVec.ofInt 64 ((m * 256 : Nat) : Int) ||| BitVec.ofInt 64 (n : Int)).toNat : Int) = _
  have q : ∀ a : Nat, a < 9223372036854775808 → (BitVec.ofInt 64 (a : Int)).toNat = a := fun a ha => by
    rw [BitVec.ofInt_natCast, BitVec.toNat_ofNat]; exact Nat.mod_eq_of_lt (by omega)
  rw [BitVec.toNat_or, q _ (by omega), q _ (by omega)]
  have := or_add m n 8 (by omega)
  rw [show (2 : Nat) ^ 8 = 256 by decide] at this
  rw [this, IntKind.wrap_i64]; omega
def shareOf (d : List Int) (n : Int) : Int := if n < 1 then 0 else sv d 7 % n
theorem share_range (d : List Int) (_hb : ∀ z ∈ d, 0 ≤ z ∧ z < 256) (n : Int) (h : ¬ n < 1) : 0 ≤ shareOf d n ∧ shareOf d n < n := by
  unfold shareOf
  rw [if_neg h]
  exact ⟨Int.emod_nonneg _ (by omega), Int.emod_lt_of_pos _ (by omega)⟩
set_option maxHeartbeats 1000000 in
theorem share_any (d : List Int) (n : Int) (w : World) (hd : d.length = 32) (hb : ∀ z ∈ d, 0 ≤ z ∧ z < 256) (_hn : (Lit.int .i64 n).wf = true) :
   Calls Tryd.prog 52 #[.agg (v8 d).toArray, .int .i64 n] w fun e w' => e = .returned (.int .i64 (shareOf d n)) ∧ Below w.heap.size w w' := by
  have B0 : Below w.heap.size w (w.alloc (.cells (v8 d).toArray 94)) := (Below.refl _ _).alloc (Nat.le_refl _) _
  have hR := box_range w d 94
  have hl : (v8 d).length = 32 := by rw [v8_length, hd]
  have hi : (v8 d).toArray.size = 32 := by rw [List.size_toArray, hl]
  by_cases h1 : n < 1
  · have e : shareOf d n = 0 := by unfold shareOf; rw [if_pos h1]
    rw [e]
    clear e
    generalize v8 d = cs at *
    go_enter Tryd.func52, Tryd.ntmps52
    go_wp2
    go_ret
    exact ⟨rfl, B0⟩
  · have e : shareOf d n = sv d 7 % n := by unfold shareOf; rw [if_neg h1]
    rw [e]
    have hsl := slice_h (w := w.alloc (.cells (v8 d).toArray 94)) Tryd.underlying94 isz8 w.heap.size 0 7 7 rfl (by omega) (by omega)
    have hg : ∀ k, k < 7 → (w.alloc (.cells (v8 d).toArray 94)).cell? ⟨w.heap.size, k, none⟩ = some (.int .u8 (d.getD k 0)) := fun k hk => by
      have := get8 hR (i := k) (by omega)
      rwa [Nat.zero_add] at this
    generalize v8 d = cs at *
    go_enter Tryd.func52, Tryd.ntmps52
    go_wp2
    go_name_world w1 hw1
    rw [show w.alloc (.cells cs.toArray 94) = w1 from hw1] at B0 hg
    clear hsl hR hi hl hw1
    go_loopw [5, 12] (fun x i wr => ∃ k : Nat, k ≤ 7 ∧ i = .int .i64 (k : Int) ∧ x = .int .i64 (sv d k) ∧ wr = w1) (fun _ i _ => 7 - (intOf i).toNat)
    case atStart => exact ⟨0, by omega, rfl, rfl, rfl⟩
    case round =>
      obtain ⟨k, hk, rfl, rfl, rfl⟩ := hrel
      have hs := sv_few d hb k hk
      by_cases hlt : k < 7
      · have hc := hg k hlt
        have hzb := byte_ok hb k
        have hs2 : sv d k < 281474976710656 := by
          have h6 := (sv_ok d hb k).2
          have : (256 : Int) ^ k ≤ 256 ^ 6 := by
            have h := Nat.pow_le_pow_right (show 0 < 256 by omega) (show k ≤ 6 by omega)
            have e : ∀ j : Nat, (256 : Int) ^ j = ((256 ^ j : Nat) : Int) := by intro j; simp
            rw [e, e]; omega
          omega
        have hor := or8 (sv d k) (d.getD k 0) hs.1 hs2 hzb.1 hzb.2
        have HS : Hid (sv d (k + 1) = sv d k * 256 + d.getD k 0) := rfl
        obtain ⟨x, hx⟩ : ∃ x, Hid (sv d k = x) := ⟨_, rfl⟩
        obtain ⟨z, hz⟩ : ∃ z, Hid (d.getD k 0 = z) := ⟨_, rfl⟩
        have HS2 : Hid (sv d (k + 1) = x * 256 + z) := by rw [← hx.out, ← hz.out]; exact HS
        rw [hx.out] at hs hs2 hor ⊢
        rw [hz.out] at hc hzb hor
        clear hg HS
        go_wp2
        go_roundw
        case rel => exact ⟨k + 1, by omega, by go_num, by rw [HS2.out], trivial⟩
        case measure => simp [intOf]; omega
      · obtain rfl : k = 7 := by omega
        obtain ⟨x, hx⟩ : ∃ x, Hid (sv d 7 = x) := ⟨_, rfl⟩
        rw [hx.out] at hs ⊢
        clear hg
        go_wp2
        go_ret
        exact ⟨by rw [hx.out]; rfl, B0⟩
set_option maxHeartbeats 1000000 in
theorem refShare_any (d : List Int) (n : Int) (w : World) (hd : d.length = 32) (hb : ∀ z ∈ d, 0 ≤ z ∧ z < 256) (_hn : (Lit.int .i64 n).wf = true) :
   Calls Tryd.prog 49 #[.agg (v8 d).toArray, .int .i64 n] w fun e w' => e = .returned (.int .i64 (shareOf d n)) ∧ Below w.heap.size w w' := by
  have B0 : Below w.heap.size w (w.alloc (.cells (v8 d).toArray 94)) := (Below.refl _ _).alloc (Nat.le_refl _) _
  have hR := box_range w d 94
  have hl : (v8 d).length = 32 := by rw [v8_length, hd]
  have hi : (v8 d).toArray.size = 32 := by rw [List.size_toArray, hl]
  by_cases h1 : n < 1
  · have e : shareOf d n = 0 := by unfold shareOf; rw [if_pos h1]
    rw [e]
    clear e
    generalize v8 d = cs at *
    go_enter Tryd.func49, Tryd.ntmps49
    go_wp2
    go_ret
    exact ⟨rfl, B0⟩
  · have e : shareOf d n = sv d 7 % n := by unfold shareOf; rw [if_neg h1]
    rw [e]
    have hg : ∀ k, k < 7 → (w.alloc (.cells (v8 d).toArray 94)).cell? ⟨w.heap.size, k, none⟩ = some (.int .u8 (d.getD k 0)) := fun k hk => by
      have := get8 hR (i := k) (by omega)
      rwa [Nat.zero_add] at this
    generalize v8 d = cs at *
    go_enter Tryd.func49, Tryd.ntmps49
    go_wp2
    go_name_world w1 hw1
    rw [show w.alloc (.cells cs.toArray 94) = w1 from hw1] at B0 hg
    clear hR hi hl hw1
    go_loopw [5, 6] (fun x i wr => ∃ k : Nat, k ≤ 7 ∧ i = .int .i64 (k : Int) ∧ x = .int .i64 (sv d k) ∧ wr = w1) (fun _ i _ => 7 - (intOf i).toNat)
    case atStart => exact ⟨0, by omega, rfl, rfl, rfl⟩
    case round =>
      obtain ⟨k, hk, rfl, rfl, rfl⟩ := hrel
      have hs := sv_few d hb k hk
      by_cases hlt : k < 7
      · have hc := hg k hlt
        have hzb := byte_ok hb k
        have hs3 := sv_few d hb (k + 1) (by omega)
        have HS : Hid (sv d (k + 1) = sv d k * 256 + d.getD k 0) := rfl
        obtain ⟨x, hx⟩ : ∃ x, Hid (sv d k = x) := ⟨_, rfl⟩
        obtain ⟨z, hz⟩ : ∃ z, Hid (d.getD k 0 = z) := ⟨_, rfl⟩
        have HS2 : Hid (sv d (k + 1) = x * 256 + z) := by rw [← hx.out, ← hz.out]; exact HS
        rw [HS2.out] at hs3
        rw [hx.out] at hs ⊢
        rw [hz.out] at hc hzb
        clear hg HS
        go_wp2
        go_roundw
        case rel => exact ⟨k + 1, by omega, by go_num, by rw [HS2.out]; go_num, trivial⟩
        case measure => simp [intOf]; omega
      · obtain rfl : k = 7 := by omega
        obtain ⟨x, hx⟩ : ∃ x, Hid (sv d 7 = x) := ⟨_, rfl⟩
        rw [hx.out] at hs ⊢
        clear hg
        go_wp2
        go_ret
        exact ⟨by rw [hx.out]; rfl, B0⟩
end Go.Proofs.YtbfcbjjhdadicaaDoor
