/- The document's answer of layer 2 by its own text: Step, Next, Sum of raddleref02. -/
import Derived.Test.YtiihfjoikoogfabCutsWalk
import Derived.Test.YtiihfjoikoogfabBits
namespace Go.Proofs.Ytiihfjoikoogfab
open Go.RowKit
open Crc
namespace Crc
theorem T_nat (z : BitVec 24) : ((T z).toNat : Int) = if 16777215 < (z.toNat : Int) * 2 then bits .xor .i64 ((z.toNat : Int) * 2 - 16777215 - 1) 8801531 else (z.toNat : Int) * 2 := by
  have hz := z.isLt
  have hs : (z <<< 1).toNat = 2 * z.toNat % 16777216 := by
    rw [BitVec.toNat_shiftLeft, Nat.shiftLeft_eq]; congr 1; omega
  by_cases h : 16777215 < (z.toNat : Int) * 2
  · rw [if_pos h]
    have hm : z.msb = true := by rw [BitVec.msb_eq_decide]; simp; omega
    have e : (z.toNat : Int) * 2 - 16777215 - 1 = ((2 * z.toNat - 16777216 : Nat) : Int) := by omega
    have e2 : (8801531 : Int) = ((8801531 : Nat) : Int) := rfl
    rw [e, e2, i64_xor _ _ (by omega) (by omega)]
    unfold T
    rw [if_pos hm, BitVec.toNat_xor, hs]
    have : 2 * z.toNat % 16777216 = 2 * z.toNat - 16777216 := by omega
    rw [this]; rfl
  · rw [if_neg h]
    have hm : z.msb = false := by rw [BitVec.msb_eq_decide]; simp; omega
    unfold T
    simp only [hm]
    simp only [Bool.false_eq_true, if_false, BitVec.xor_zero, BitVec.ofNat_eq_ofNat]
    rw [hs]; omega
end Crc
set_option maxHeartbeats 400000 in
theorem refStep_any (x : BitVec 24) (c : Int) (w : World) (hc0 : 0 ≤ c) (hc1 : c < 256) :
   Calls Try.prog 14 #[.int .i64 (x.toNat : Int), .int .u8 c] w fun e w' => e = .returned (.int .i64 ((stepB x c).toNat : Int)) ∧ w' = w := by
  have hxl := x.isLt
  have e1 := into_bits x c hc0 hc1
  generalize hy : into x c = y at e1
  have HY : Hid (into x c = y) := hy
  clear hy
  have hyl := y.isLt
  go_enter Try.func14, Try.ntmps14
  go_wp2
  go_loop [0, 5] (fun s i => ∃ k : Nat, k ≤ 8 ∧ i = .int .i64 k ∧ ∃ z, Hid (Tn k y = z) ∧ s = .int .i64 (z.toNat : Int)) (fun _ i => 8 - (intOf i).toNat)
  case atStart => exact ⟨0, by omega, rfl, y, rfl, rfl⟩
  case round =>
    obtain ⟨k, hk, rfl, z, hz, rfl⟩ := hrel
    have hzl := z.isLt
    have HT : Hid (((T z).toNat : Int) = if 16777215 < (z.toNat : Int) * 2 then bits .xor .i64 ((z.toNat : Int) * 2 - 16777215 - 1) 8801531 else (z.toNat : Int) * 2) := T_nat z
    by_cases hlt : k < 8
    · by_cases h2 : 16777215 < (z.toNat : Int) * 2
      · go_wp2
        go_round
        case rel => exact ⟨k + 1, by omega, by go_num, T z, by show Tn (k + 1) y = T z; rw [← hz.out]; rfl, by rw [HT.out, if_pos h2]⟩
        case measure => simp [intOf]; omega
      · go_wp2
        go_round
        case rel => exact ⟨k + 1, by omega, by go_num, T z, by show Tn (k + 1) y = T z; rw [← hz.out]; rfl, by rw [HT.out, if_neg h2]⟩
        case measure => simp [intOf]; omega
    · obtain rfl : k = 8 := by omega
      go_wp2
      go_ret
      have e : stepB x c = z := by
        have := hz.out; have h2 := HY.out; rw [← this, ← h2]; exact rfl
      rw [e]
      exact ⟨rfl, rfl⟩

set_option maxHeartbeats 400000 in
theorem refNext_any (sum : Int) (a : Option Addr) (cap : Nat) (zs : List Int) (w : World) (h : RowAt w a zs) :
   Calls Try.prog 11 #[.int .i64 sum, .slice a zs.length cap] w fun e w' => e = .returned (.int .i64 ((crc (BitVec.ofInt 24 sum) zs).toNat : Int)) ∧ w' = w := by
  obtain ⟨hm, hz, hrow⟩ := h
  unfold maxLen at hm
  have e0 := low_bits sum
  generalize BitVec.ofInt 24 sum = x0 at e0 ⊢
  go_enter Try.func11, Try.ntmps11
  go_wp2_with fail
  go_loop [0, 5] (fun s i => ∃ k : Nat, k ≤ zs.length ∧ i = .int .i64 k ∧ s = .int .i64 ((crc x0 (zs.take k)).toNat : Int)) (fun _ i => zs.length - (intOf i).toNat)
  case atStart => exact ⟨0, by omega, rfl, rfl⟩
  case round =>
    obtain ⟨k, hk, rfl, rfl⟩ := hrel
    by_cases hlt : k < zs.length
    · obtain ⟨b, off, rfl, hbb, hc⟩ : ∃ b off, a = some ⟨b, off, none⟩ ∧ b < w.heap.size ∧ ∀ j, j < zs.length → w.cell? ⟨b, off + j, none⟩ = some (.int .u8 (zs.getD j 0)) := by
        rcases hrow with rfl | h
        · simp at hlt
        · exact h
      obtain ⟨z, hcx, hz0, hz1, E2⟩ : ∃ z, w.cell? ⟨b, off + k, none⟩ = some (.int .u8 z) ∧ 0 ≤ z ∧ z < 256 ∧ Hid (crc x0 (zs.take (k + 1)) = stepB (crc x0 (zs.take k)) z) := by
        refine ⟨zs.getD k 0, hc k hlt, ?_, ?_, crc_take x0 zs k hlt⟩ <;> rw [List.getD_eq_getElem?_getD, List.getElem?_eq_getElem hlt]
        · exact (hz _ (List.getElem_mem hlt)).1
        · exact (hz _ (List.getElem_mem hlt)).2
      clear hc hrow
      go_wp2_with fail
      refine (refStep_any (crc x0 (zs.take k)) z _ hz0 hz1).mono ?_
      rintro e w2 ⟨rfl, rfl⟩
      go_wp2
      go_round
      case rel => exact ⟨k + 1, by omega, by go_num, by rw [E2.out]⟩
      case measure => simp [intOf]; omega
    · obtain rfl : k = zs.length := by omega
      go_wp2
      go_ret
      exact ⟨rfl, rfl⟩

theorem refSum_any (a : Option Addr) (cap : Nat) (zs : List Int) (w : World) (h : RowAt w a zs) :
   Calls Try.prog 9 #[.slice a zs.length cap] w fun e w' => e = .returned (.int .i64 ((crc start zs).toNat : Int)) ∧ w' = w := by
  have c := refNext_any 11994318 a cap zs w h
  rw [start_of] at c
  go_enter Try.func9, Try.ntmps9
  go_wp2_with fail
  refine c.mono ?_
  rintro e w1 ⟨rfl, rfl⟩
  go_wp2
  go_ret
  exact ⟨rfl, rfl⟩
end Go.Proofs.Ytiihfjoikoogfab
