/- mask.bit, Has, With, Down: contracts. -/
import Derived.Test.YtnjlamcpfclgaaaMArgs
import Derived.RangeFuncBox
import Derived.RangeFuncLeaves
import Derived.RangeFuncCalls
import Derived.Shelf.Abstract
import Derived.Shelf.RegionOpen
import Derived.OwnWalkIn
import Derived.TacticsInMore
import Derived.LoopNIn
import Derived.LoopIn
import Derived.Maps.AppendAt
namespace Go.Proofs.Ytnjlamcpfclgaaa
open Go.RowKit
attribute [local go_sem] Oper.semAt_some
theorem wrap_pow (i : Int) (h0 : 0 ≤ i) (h1 : i < 64) : IntKind.u64.wrap (2 ^ i.toNat) = ((bitN i : Nat) : Int) := by
  have hb := bitN_lt i
  have e : ((2 : Int) ^ i.toNat) = ((bitN i : Nat) : Int) := by unfold bitN; rw [if_pos ⟨h0, h1⟩]; simp
  rw [e, IntKind.wrap_u64]
  generalize bitN i = b at *
  omega
theorem toNat_ofInt (a : Nat) (h : a < 2 ^ 64) : (BitVec.ofInt 64 (a : Int)).toNat = a := by
  rw [BitVec.toNat_ofInt]; omega
theorem and_nat (a b : Nat) (ha : a < 2 ^ 64) (hb : b < 2 ^ 64) : bits BinOp.and IntKind.u64 (a : Int) (b : Int) = ((a &&& b : Nat) : Int) := by
  show IntKind.u64.wrap ((BitVec.ofInt 64 (a : Int) &&& BitVec.ofInt 64 (b : Int)).toNat : Int) = _
  rw [BitVec.toNat_and, toNat_ofInt a ha, toNat_ofInt b hb, IntKind.wrap_u64]
  have : a &&& b < 2 ^ 64 := Nat.and_lt_two_pow a hb
  generalize a &&& b = c at *
  omega
theorem or_nat (a b : Nat) (ha : a < 2 ^ 64) (hb : b < 2 ^ 64) : bits BinOp.or IntKind.u64 (a : Int) (b : Int) = ((a ||| b : Nat) : Int) := by
  show IntKind.u64.wrap ((BitVec.ofInt 64 (a : Int) ||| BitVec.ofInt 64 (b : Int)).toNat : Int) = _
  rw [BitVec.toNat_or, toNat_ofInt a ha, toNat_ofInt b hb, IntKind.wrap_u64]
  have : a ||| b < 2 ^ 64 := Nat.or_lt_two_pow ha hb
  generalize a ||| b = c at *
  omega
theorem ne_zero_has {c m : Nat} {i : Int} (h : c = 0 ↔ hasN m i = false) : (((c : Nat) : Int) != 0) = hasN m i := by
  cases hb : hasN m i
  · rw [h.2 hb]; rfl
  · have : c ≠ 0 := fun e => by rw [h.1 e] at hb; cases hb
    simp [this]
theorem shr_down (m : Nat) (hm : m < 2 ^ 64) (n : Int) (h : 1 ≤ n) : Op.shift BinOp.shr IntKind.u64 (m : Int) IntKind.i64 n = pure (.int .u64 (downN m n : Int)) := by
  by_cases h64 : n ≤ 64
  · rw [shift_shr_u64 _ _ _ (by omega) h64]
    have : (m : Int) / 2 ^ n.toNat = ((downN m n : Nat) : Int) := by
      unfold downN; rw [if_neg (by omega), Nat.shiftRight_eq_div_pow]; simp
    rw [this]
  · have hz : downN m n = 0 := down_far hm n (by omega)
    have hmn : min n.toNat IntKind.u64.bits = 64 := by show min n.toNat 64 = 64; omega
    have hq : (m : Int).fdiv (2 ^ 64) = 0 := by rw [Int.fdiv_eq_ediv_of_nonneg _ (by decide)]; omega
    rw [hz]
    have hn : ¬ n < 0 := by omega
    simp [Op.shift, hmn, hn]
    rw [show (m : Int).fdiv 18446744073709551616 = 0 from hq]
theorem bit_in (F : Fence) (n : Nat) (hf : F.fn 46) (hro : F.round = none) (i : Int) (w : World) :
    CallsIn F n Try.prog 46 #[.int .i64 i] w fun e w' => e = .returned (.int .u64 (bitN i : Int)) ∧ w' = w := by
  refine callsIn_of_wp Try.func46 rfl hf ?_ hro
  simp only [Try.ntmps46, List.size_toArray, List.length_cons, List.length_nil, Nat.reduceAdd, Nat.reduceSub, Array.replicate_succ, Array.replicate_zero, List.push_toArray, List.append_toArray, List.nil_append, List.cons_append]
  by_cases h0 : i < 0
  · gi_wp2
    go_ret
    exact ⟨ret_int (by unfold bitN; rw [if_neg (by omega)]; rfl), rfl⟩
  · by_cases h1 : 64 ≤ i
    · gi_wp2
      go_ret
      exact ⟨ret_int (by unfold bitN; rw [if_neg (by omega)]; rfl), rfl⟩
    · gi_wp2
      go_ret
      exact ⟨ret_int (wrap_pow i (by omega) (by omega)), rfl⟩
theorem bit_any (i : Int) (w : World) : Calls Try.prog 46 #[.int .i64 i] w fun e w' => e = .returned (.int .u64 (bitN i : Int)) ∧ w' = w :=
  (callsIn_wide (n := 4)).1 (bit_in _ 4 trivial rfl i w)
set_option maxHeartbeats 400000 in
theorem has_in (F : Fence) (n : Nat) (hf : F.fn 38) (hg : F.fn 46) (hro : F.round = none) (hn : 1 ≤ n) (m : Nat) (hm : m < 2 ^ 64) (i : Int) (w : World) :
    CallsIn F n Try.prog 38 #[.int .u64 (m : Int), .int .i64 i] w fun e w' => e = .returned (.bool (hasN m i)) ∧ w' = w := by
  have c := bit_in F (n - 1) hg hro i w
  have hb := bitN_lt i
  have ha := hide (and_bitN m i)
  refine callsIn_of_wp Try.func38 rfl hf ?_ hro
  simp only [Try.ntmps38, List.size_toArray, List.length_cons, List.length_nil, Nat.reduceAdd, Nat.reduceSub, Array.replicate_succ, Array.replicate_zero, List.push_toArray, List.append_toArray, List.nil_append, List.cons_append]
  generalize bitN i = b at *
  gi_wp2_with (gi_at_call 46; refine c.mono ?_; rintro e w1 ⟨rfl, rfl⟩)
  go_ret
  exact ⟨ret_bool (by rw [and_nat m b hm hb]; exact ne_zero_has ha.out), rfl⟩
theorem has_any (m : Nat) (hm : m < 2 ^ 64) (i : Int) (w : World) : Calls Try.prog 38 #[.int .u64 (m : Int), .int .i64 i] w fun e w' => e = .returned (.bool (hasN m i)) ∧ w' = w :=
  (callsIn_wide (n := 4)).1 (has_in _ 4 trivial trivial rfl (by decide) m hm i w)
set_option maxHeartbeats 400000 in
theorem with_any (m : Nat) (hm : m < 2 ^ 64) (i : Int) (w : World) :
    Calls Try.prog 30 #[.int .u64 (m : Int), .int .i64 i] w fun e w' => e = .returned (.int .u64 (withN m i : Int)) ∧ w' = w := by
  have c := bit_any i w
  have hb := bitN_lt i
  have ha : Hid (withN m i = m ||| bitN i) := rfl
  generalize bitN i = b at *
  go_enter Try.func30, Try.ntmps30
  go_wp2_with (go_at_call 46; refine c.mono ?_; rintro e w1 ⟨rfl, rfl⟩)
  go_ret
  exact ⟨ret_int (by rw [or_nat m b hm hb, ha.out]), rfl⟩
set_option maxHeartbeats 400000 in
theorem down_any (m : Nat) (hm : m < 2 ^ 64) (n : Int) (w : World) :
    Calls Try.prog 35 #[.int .u64 (m : Int), .int .i64 n] w fun e w' => e = .returned (.int .u64 (downN m n : Int)) ∧ w' = w := by
  have hsh : 1 ≤ n → Op.shift BinOp.shr IntKind.u64 (m : Int) IntKind.i64 n = pure (.int .u64 (downN m n : Int)) := shr_down m hm n
  clear hm
  by_cases h : n < 1
  · go_enter Try.func35, Try.ntmps35
    go_wp2
    go_ret
    exact ⟨ret_int (by unfold downN; rw [if_pos h]), rfl⟩
  · have hs := hsh (by omega)
    clear hsh
    go_enter Try.func35, Try.ntmps35
    go_wp2
    go_ret
    exact ⟨rfl, rfl⟩
set_option maxHeartbeats 400000 in
theorem refHas_any (m : Nat) (hm : m < 2 ^ 64) (i : Int) (w : World) :
    Calls Try.prog 36 #[.int .u64 (m : Int), .int .i64 i] w fun e w' => e = .returned (.bool (hasN m i)) ∧ w' = w := by
  by_cases h0 : i < 0
  · go_enter Try.func36, Try.ntmps36
    go_wp2
    go_ret
    exact ⟨ret_bool (by rw [hasN_out _ _ (by omega)]), rfl⟩
  · by_cases h1 : 63 < i
    · go_enter Try.func36, Try.ntmps36
      go_wp2
      go_ret
      exact ⟨ret_bool (by rw [hasN_out _ _ (by omega)]), rfl⟩
    · obtain ⟨K, rfl⟩ := Int.eq_ofNat_of_zero_le (show 0 ≤ i by omega)
      go_enter Try.func36, Try.ntmps36
      go_wp2
      go_loop [0, 5] (fun mv kv => ∃ (k q : Nat), k ≤ K ∧ kv = .int .i64 (k : Int) ∧ mv = .int .u64 (q : Int) ∧ q < 2 ^ 64 ∧ Hid (q = m / 2 ^ k)) (fun _ kv => K - (intOf kv).toNat)
      case atStart => exact ⟨0, m, by omega, rfl, rfl, hm, hide (by simp)⟩
      case round =>
        obtain ⟨k, q, hk, rfl, rfl, hq, HQ⟩ := hrel
        by_cases hlt : k < K
        · go_wp2
          go_round
          case rel => exact ⟨k + 1, q / 2, by omega, by go_num, by go_num, by omega, hide (by rw [HQ.out, Nat.div_div_eq_div_mul, Nat.pow_succ])⟩
          case measure => simp [intOf]; omega
        · obtain rfl : k = K := by omega
          go_wp2
          go_ret
          refine ⟨ret_bool ?_, rfl⟩
          rw [hasN_cast _ _ (by omega), has_half, ← HQ.out]
          rw [Bool.eq_iff_iff]; simp; omega
set_option maxHeartbeats 400000 in
theorem power_any (K : Nat) (hK : K < 64) (w : World) :
    Calls Try.prog 48 #[.int .i64 (K : Int)] w fun e w' => e = .returned (.int .u64 ((2 ^ K : Nat) : Int)) ∧ w' = w := by
  go_enter Try.func48, Try.ntmps48
  go_wp2
  go_loop [3, 4] (fun mv kv => ∃ (k q : Nat), k ≤ K ∧ kv = .int .i64 (k : Int) ∧ mv = .int .u64 (q : Int) ∧ Hid (q = 2 ^ k)) (fun _ kv => K - (intOf kv).toNat)
  case atStart => exact ⟨0, 1, by omega, rfl, rfl, hide (by simp)⟩
  case round =>
    obtain ⟨k, q, hk, rfl, rfl, HQ⟩ := hrel
    by_cases hlt : k < K
    · have hq : q < 9223372036854775808 := by
        rw [HQ.out]; exact Nat.lt_of_lt_of_le (Nat.pow_lt_pow_right (by omega) (show k < 63 by omega)) (by decide)
      go_wp2
      go_round
      case rel => exact ⟨k + 1, 2 * q, by omega, by go_num, by go_num, hide (by rw [HQ.out, Nat.pow_succ]; omega)⟩
      case measure => simp [intOf]; omega
    · obtain rfl : k = K := by omega
      go_wp2
      go_ret
      exact ⟨ret_int (by rw [HQ.out]; simp), rfl⟩
set_option maxHeartbeats 400000 in
theorem refWith_any (m : Nat) (hm : m < 2 ^ 64) (i : Int) (w : World) :
    Calls Try.prog 32 #[.int .u64 (m : Int), .int .i64 i] w fun e w' => e = .returned (.int .u64 (withN m i : Int)) ∧ w' = w := by
  by_cases h0 : i < 0
  · go_enter Try.func32, Try.ntmps32
    go_wp2
    go_ret
    exact ⟨ret_int (by rw [withN_out (by omega)]), rfl⟩
  · by_cases h1 : 63 < i
    · go_enter Try.func32, Try.ntmps32
      go_wp2
      go_ret
      exact ⟨ret_int (by rw [withN_out (by omega)]), rfl⟩
    · have c := refHas_any m hm i w
      cases hb : hasN m i
      · rw [hb] at c
        have hs := hide (withN_new (by omega) (by omega) hb)
        have hlt := withN_lt hm i
        rw [hs.out] at hlt
        clear hb
        obtain ⟨K, rfl⟩ := Int.eq_ofNat_of_zero_le (show 0 ≤ i by omega)
        rw [Int.toNat_natCast] at hlt hs
        have c2 := power_any K (by omega) w
        generalize 2 ^ K = p at *
        go_enter Try.func32, Try.ntmps32
        go_wp2_with (first | (go_at_call 36; refine c.mono ?_; rintro e w1 ⟨rfl, hx⟩; obtain rfl := hx.symm; clear hx) | (go_at_call 48; refine c2.mono ?_; rintro e w1 ⟨rfl, hx⟩; obtain rfl := hx.symm; clear hx))
        go_ret
        exact ⟨ret_int (by rw [hs.out]; go_num), rfl⟩
      · rw [hb] at c
        have hs := hide (withN_old hb)
        clear hb
        go_enter Try.func32, Try.ntmps32
        go_wp2_with (first | (go_at_call 36; refine c.mono ?_; rintro e w1 ⟨rfl, hx⟩; obtain rfl := hx.symm; clear hx))
        go_ret
        exact ⟨ret_int (by rw [hs.out]), rfl⟩
end Go.Proofs.Ytnjlamcpfclgaaa
