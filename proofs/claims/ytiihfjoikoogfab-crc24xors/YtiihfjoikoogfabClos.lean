/- THE CLOSURE OF crc24.stepsFrom, BY ITS CONTRACT: a byte is one byte step of the sum in its box. -/
import Derived.Test.YtiihfjoikoogfabRows
import Derived.Test.YtiihfjoikoogfabMath
import Derived.WalkKit
import Derived.WalkSpells
import Derived.RegionTactic
import Derived.ChangeAlike
import Derived.BigRegion
import Derived.Outline
namespace Go.Proofs.Ytiihfjoikoogfab
open Go.RowKit
namespace Crc
theorem wrap_i64_small (n : Nat) (h : n < 9223372036854775808) : IntKind.i64.wrap (n : Int) = n := by
  rw [IntKind.wrap_i64]; omega
theorem ofInt64 (a : Nat) (ha : a < 9223372036854775808) : (BitVec.ofInt 64 (a : Int)).toNat = a := by
  rw [BitVec.ofInt_natCast, BitVec.toNat_ofNat]; exact Nat.mod_eq_of_lt (by omega)
theorem i64_xor (a b : Nat) (ha : a < 9223372036854775808) (hb : b < 9223372036854775808) : bits .xor .i64 (a : Int) (b : Int) = ((a ^^^ b : Nat) : Int) := by
  have hx : a ^^^ b < 2 ^ 63 := Nat.xor_lt_two_pow (by omega) (by omega)
  show IntKind.i64.wrap ((BitVec.ofInt 64 (a : Int) ^^^ BitVec.ofInt 64 (b : Int)).toNat : Int) = _
  rw [BitVec.toNat_xor, ofInt64 a ha, ofInt64 b hb]
  exact wrap_i64_small _ (by omega)
/-- the lowest 24 bits of any number -/
theorem i64_low24 (n : Int) : bits .and .i64 n 16777215 = n % 16777216 := by
  show IntKind.i64.wrap ((BitVec.ofInt 64 n &&& BitVec.ofInt 64 16777215).toNat : Int) = _
  have h2 : (BitVec.ofInt 64 16777215).toNat = 16777215 := by decide
  rw [BitVec.toNat_and, h2]
  have h3 : (BitVec.ofInt 64 n).toNat &&& 16777215 = (BitVec.ofInt 64 n).toNat % 16777216 := Nat.and_two_pow_sub_one_eq_mod _ 24
  rw [h3, wrap_i64_small _ (by omega), BitVec.toNat_ofInt]
  omega
def into (x : BitVec 24) (c : Int) : BitVec 24 := x ^^^ (BitVec.ofInt 24 c <<< 16)
theorem into_bits (x : BitVec 24) (c : Int) (h0 : 0 ≤ c) (h1 : c < 256) : bits .xor .i64 (x.toNat : Int) (c * 65536) = ((into x c).toNat : Int) := by
  obtain ⟨n, rfl⟩ := Int.eq_ofNat_of_zero_le h0
  have hx := x.isLt
  have e : ((n : Int) * 65536) = ((n * 65536 : Nat) : Int) := by omega
  rw [e, i64_xor _ _ (by omega) (by omega)]
  unfold into
  rw [BitVec.toNat_xor, BitVec.toNat_shiftLeft, BitVec.ofInt_natCast, BitVec.toNat_ofNat, Nat.shiftLeft_eq, Nat.mod_eq_of_lt (show n < 2 ^ 24 by omega), Nat.mod_eq_of_lt (show n * 2 ^ 16 < 2 ^ 24 by omega)]
theorem tab_lt (i : Nat) : tab.getD i 0 < 16777216 := by
  by_cases h : i < 16
  · have := (by decide : ∀ i : Fin 16, tab.getD i.val 0 < 16777216) ⟨i, h⟩
    exact this
  · rw [List.getD_eq_getElem?_getD, List.getElem?_eq_none (show tab.length ≤ i by simp [tab]; omega)]; decide
theorem nib_bits (z : BitVec 24) : bits .xor .i64 (bits .and .i64 ((z.toNat : Int) * 16) 16777215) ((tab[z.toNat / 1048576]?.getD 0 : Nat) : Int) = ((T4 z).toNat : Int) := by
  have hz := z.isLt
  rw [i64_low24]
  have e : ((z.toNat : Int) * 16) % 16777216 = ((z.toNat % 1048576 * 16 : Nat) : Int) := by omega
  have h2 := tab_lt (z.toNat / 1048576)
  rw [List.getD_eq_getElem?_getD] at h2
  rw [e, i64_xor _ _ (by omega) (by omega), T4_nib, List.getD_eq_getElem?_getD]
def nibs (k : Nat) (y : BitVec 24) : BitVec 24 := match k with | 0 => y | 1 => T4 y | _ => T8 y
end Crc
open Crc
set_option maxHeartbeats 400000 in
theorem clos (B L : Nat) (x : BitVec 24) (c : Int) (w : World) (hc0 : 0 ≤ c) (hc1 : c < 256) (hBL : B < L)
   (hnow : w.cell? ⟨B, 0, none⟩ = some (.int .i64 (x.toNat : Int))) (hfz : w.frozen? ⟨B, 0, none⟩ = false)
   (htab : ∀ j, j < 16 → w.cell? ⟨L, j, none⟩ = some (.int .i64 ((tab.getD j 0 : Nat) : Int))) :
   Calls Try.prog 15 #[.int .u8 c, .pointer (some ⟨B, 0, none⟩), .pointer (some ⟨L, 0, none⟩)] w fun e w' => e = .returned (.int .i64 ((stepB x c).toNat : Int)) ∧ 
     w'.cell? ⟨B, 0, none⟩ = some (.int .i64 ((stepB x c).toNat : Int)) ∧ w'.frozen? ⟨B, 0, none⟩ = false ∧ (∀ j, j < 16 → w'.cell? ⟨L, j, none⟩ = some (.int .i64 ((tab.getD j 0 : Nat) : Int))) ∧ Below B w w' := by
  have hxl := x.isLt
  have e1 := into_bits x c hc0 hc1
  generalize hy : into x c = y at e1
  have HY : Hid (into x c = y) := hy
  clear hy
  have hyl := y.isLt
  go_enter Try.func15, Try.ntmps15
  go_wp2
  go_loopw [10] (fun i wr => ∃ k : Nat, k ≤ 2 ∧ i = .int .i64 k ∧ ∃ z, Hid (nibs k y = z) ∧ wr.cell? ⟨B, 0, none⟩ = some (.int .i64 (z.toNat : Int)) ∧ wr.frozen? ⟨B, 0, none⟩ = false ∧ (∀ j, j < 16 → wr.cell? ⟨L, j, none⟩ = some (.int .i64 ((tab.getD j 0 : Nat) : Int))) ∧ Below B w wr) (fun i _ => 2 - (intOf i).toNat)
  case atStart =>
    refine ⟨0, by omega, rfl, y, rfl, World.cell?_setCell_same _ _ _ hnow, (World.frozen?_setCell _ _ _ _).trans hfz, fun j hj => ?_, (Below.refl B w).setCell (p := ⟨B, 0, none⟩) (Nat.le_refl _) _⟩
    exact (World.cell?_setCell_other _ _ _ _ (by simp)).trans (htab j hj)
  case round =>
    obtain ⟨k, hk, rfl, z, hz, hn, hf, ht, hb⟩ := hrel
    have hzl := z.isLt
    have eN := nib_bits z
    by_cases hlt : k < 2
    · have hti := ht (z.toNat / 1048576) (by omega)
      go_wp2
      go_region
      go_wp2
      go_roundw
      case rel =>
        refine ⟨k + 1, by omega, by go_num, T4 z, ?_, World.cell?_setCell_same _ _ _ hn, (World.frozen?_setCell _ _ _ _).trans hf, fun j hj => ?_, (hb.setCell (p := ⟨B, 0, none⟩) (Nat.le_refl _) _).drew⟩
        · have := hz.out
          match k, hlt with
          | 0, _ => exact congrArg T4 this
          | 1, _ => exact congrArg T4 this
        · exact (World.cell?_setCell_other _ _ _ _ (by simp)).trans (ht j hj)
      case measure => simp [intOf]; omega
    · obtain rfl : k = 2 := by omega
      go_wp2
      go_ret
      have e : stepB x c = z := by
        have := hz.out; have h2 := HY.out; rw [← this, ← h2]; exact rfl
      rw [e]
      exact ⟨rfl, hn, hf, ht, hb⟩
end Go.Proofs.Ytiihfjoikoogfab
