/- Words of 32 bits as the model's numbers; the leaves: math/bits.RotateLeft32, ror, word. -/
import Derived.Test.YtogmkcabndgllaaDoorRows
import Derived.Test.YtogmkcabndgllaaDoorMath
import Derived.WalkKit
import Derived.WalkSpells
import Derived.RegionTactic
import Derived.ChangeAlike
import Derived.BigRegion
import Derived.Outline
namespace Go.Proofs.YtogmkcabndgllaaDoor
open Go.RowKit
namespace Sha
theorem wrap_u32_small (n : Nat) (h : n < 4294967296) : IntKind.u32.wrap (n : Int) = n := by
  rw [IntKind.wrap_u32]; omega
theorem ofInt32 (x : Wd) : BitVec.ofInt 32 (x.toNat : Int) = x := by
  rw [BitVec.ofInt_natCast]; simp
theorem xor32 (x y : Wd) : bits .xor .u32 (x.toNat : Int) (y.toNat : Int) = ((x ^^^ y).toNat : Int) := by
  show IntKind.u32.wrap ((BitVec.ofInt 32 (x.toNat : Int) ^^^ BitVec.ofInt 32 (y.toNat : Int)).toNat : Int) = _
  rw [ofInt32, ofInt32, wrap_u32_small _ (BitVec.isLt _)]
theorem and32 (x y : Wd) : bits .and .u32 (x.toNat : Int) (y.toNat : Int) = ((x &&& y).toNat : Int) := by
  show IntKind.u32.wrap ((BitVec.ofInt 32 (x.toNat : Int) &&& BitVec.ofInt 32 (y.toNat : Int)).toNat : Int) = _
  rw [ofInt32, ofInt32, wrap_u32_small _ (BitVec.isLt _)]
theorem or32 (x y : Wd) : bits .or .u32 (x.toNat : Int) (y.toNat : Int) = ((x ||| y).toNat : Int) := by
  show IntKind.u32.wrap ((BitVec.ofInt 32 (x.toNat : Int) ||| BitVec.ofInt 32 (y.toNat : Int)).toNat : Int) = _
  rw [ofInt32, ofInt32, wrap_u32_small _ (BitVec.isLt _)]
theorem add32 (x y : Wd) : ((x.toNat : Int) + (y.toNat : Int)) % 4294967296 = ((x + y).toNat : Int) := by
  rw [BitVec.toNat_add]; omega
theorem shr32 (x : Wd) (n : Nat) : (x.toNat : Int) / ((2 ^ n : Nat) : Int) = ((x >>> n).toNat : Int) := by
  rw [BitVec.toNat_ushiftRight, Nat.shiftRight_eq_div_pow]; omega
theorem shl32 (x : Wd) (n : Nat) : (x.toNat : Int) * ((2 ^ n : Nat) : Int) % 4294967296 = ((x <<< n).toNat : Int) := by
  rw [BitVec.toNat_shiftLeft, Nat.shiftLeft_eq]
  have : (x.toNat : Int) * ((2 ^ n : Nat) : Int) = ((x.toNat * 2 ^ n : Nat) : Int) := by simp
  rw [this]; omega
theorem rot32 (x : Wd) (n : Nat) (hn : n ≤ 32) (s : Int) (hs : s = 32 - (n : Int)) : bits .or .u32 ((x.toNat : Int) * 2 ^ s.toNat % 4294967296) ((x.toNat : Int) / 2 ^ (32 - s).toNat) = ((rotr x n).toNat : Int) := by
  subst hs
  have e1 : (32 - (n : Int)).toNat = 32 - n := by omega
  have e2 : (32 - (32 - (n : Int))).toNat = n := by omega
  rw [e1, e2]
  have h1 := shl32 x (32 - n)
  have h2 := shr32 x n
  have p1 : ((2 : Int) ^ (32 - n)) = ((2 ^ (32 - n) : Nat) : Int) := by simp
  have p2 : ((2 : Int) ^ n) = ((2 ^ n : Nat) : Int) := by simp
  rw [p1, p2, h1, h2, or32, rotr, BitVec.or_comm]
theorem or_add (a c : Nat) (n : Nat) (h : c < 2 ^ n) : a * 2 ^ n ||| c = a * 2 ^ n + c := by
  have := Nat.shiftLeft_add_eq_or_of_lt (b := c) (i := n) h a
  rw [Nat.shiftLeft_eq] at this; exact this.symm
theorem or_word (a b c d : Int) (ha : 0 ≤ a ∧ a < 256) (hb : 0 ≤ b ∧ b < 256) (hc : 0 ≤ c ∧ c < 256) (hd : 0 ≤ d ∧ d < 256) :
   bits .or .u32 (bits .or .u32 (bits .or .u32 (a * 16777216) (b * 65536)) (c * 256)) d = ((word a b c d).toNat : Int) := by
  obtain ⟨a, rfl⟩ := Int.eq_ofNat_of_zero_le ha.1
  obtain ⟨b, rfl⟩ := Int.eq_ofNat_of_zero_le hb.1
  obtain ⟨c, rfl⟩ := Int.eq_ofNat_of_zero_le hc.1
  obtain ⟨d, rfl⟩ := Int.eq_ofNat_of_zero_le hd.1
  have q : ∀ n : Nat, n < 4294967296 → (BitVec.ofNat 32 n).toNat = n := fun n h => by rw [BitVec.toNat_ofNat]; exact Nat.mod_eq_of_lt h
  have l : ∀ x y : Nat, x < 4294967296 → y < 4294967296 → bits .or .u32 (x : Int) (y : Int) = ((x ||| y : Nat) : Int) := fun x y hx hy => by
    have := or32 (BitVec.ofNat 32 x) (BitVec.ofNat 32 y)
    rw [BitVec.toNat_or, q x hx, q y hy] at this; exact this
  have e1 : a * 16777216 ||| b * 65536 = (a * 256 + b) * 65536 := by
    rw [show a * 16777216 = a * 2 ^ 24 by omega, or_add a (b * 65536) 24 (by omega)]; omega
  have e2 : (a * 256 + b) * 65536 ||| c * 256 = (a * 65536 + b * 256 + c) * 256 := by
    rw [show (a * 256 + b) * 65536 = (a * 256 + b) * 2 ^ 16 by omega, or_add _ (c * 256) 16 (by omega)]; omega
  have e3 : (a * 65536 + b * 256 + c) * 256 ||| d = (a * 65536 + b * 256 + c) * 256 + d := by
    rw [show (a * 65536 + b * 256 + c) * 256 = (a * 65536 + b * 256 + c) * 2 ^ 8 by omega, or_add _ d 8 (by omega)]
  have c1 : (a : Int) * 16777216 = ((a * 16777216 : Nat) : Int) := by omega
  have c2 : (b : Int) * 65536 = ((b * 65536 : Nat) : Int) := by omega
  have c3 : (c : Int) * 256 = ((c * 256 : Nat) : Int) := by omega
  rw [c1, c2, c3, l _ _ (by omega) (by omega), e1, l _ _ (by omega) (by omega), e2, l _ _ (by omega) (by omega), e3]
  unfold word
  have c4 : (a : Int) * 16777216 + (b : Int) * 65536 + (c : Int) * 256 + (d : Int) = (((a * 65536 + b * 256 + c) * 256 + d : Nat) : Int) := by omega
  rw [c4, BitVec.ofInt_natCast, q _ (by omega)]
end Sha
open Sha
theorem rotl_any (x : Wd) (m : Int) (n : Nat) (hn0 : 0 < n) (hn : n < 32) (e : bits .and .u64 (IntKind.u64.wrap m) 31 = 32 - (n : Int)) (w : World) :
   Calls Tryd.prog 62 #[.int .u32 (x.toNat : Int), .int .i64 m] w fun e w' => e = .returned (.int .u32 ((rotr x n).toNat : Int)) ∧ w' = w := by
  have hx := x.isLt
  obtain ⟨s, hs⟩ : ∃ s : Int, s = 32 - (n : Int) := ⟨_, rfl⟩
  have er := rot32 x n (by omega) s hs
  rw [← hs] at e
  have h0 : 0 < s := by omega
  have h1 : s < 32 := by omega
  clear hs hn hn0
  go_enter Tryd.func62, Tryd.ntmps62
  go_wp2
  go_ret
  exact ⟨by rw [← er]; rfl, rfl⟩
theorem ror_any (x : Wd) (n : Nat) (m : Int) (hm : m = (n : Int)) (hn0 : 0 < n) (hn : n < 32) (e : bits .and .u64 (IntKind.u64.wrap (-(n : Int))) 31 = 32 - (n : Int)) (w : World) :
   Calls Tryd.prog 58 #[.int .u32 (x.toNat : Int), .int .i64 m] w fun e w' => e = .returned (.int .u32 ((rotr x n).toNat : Int)) ∧ w' = w := by
  subst hm
  have hx := x.isLt
  have c := rotl_any x (-(n : Int)) n hn0 hn e w
  have en : IntKind.i64.wrap (-(n : Int)) = -(n : Int) := by rw [IntKind.wrap_i64]; omega
  clear e
  go_enter Tryd.func58, Tryd.ntmps58
  go_wp2_with fail
  refine c.mono ?_
  rintro e w1 ⟨rfl, rfl⟩
  go_wp2
  go_ret
  exact ⟨rfl, rfl⟩
theorem word_any (b off cap len : Nat) (hl : 4 ≤ len) (hl2 : len ≤ 64) (c0 c1 c2 c3 : Int) (w : World) (h0 : w.cell? ⟨b, off, none⟩ = some (.int .u8 c0)) (h1 : w.cell? ⟨b, off + 1, none⟩ = some (.int .u8 c1)) (h2 : w.cell? ⟨b, off + 2, none⟩ = some (.int .u8 c2)) (h3 : w.cell? ⟨b, off + 3, none⟩ = some (.int .u8 c3))
    (b0 : 0 ≤ c0 ∧ c0 < 256) (b1 : 0 ≤ c1 ∧ c1 < 256) (b2 : 0 ≤ c2 ∧ c2 < 256) (b3 : 0 ≤ c3 ∧ c3 < 256) :
   Calls Tryd.prog 61 #[.slice (some ⟨b, off, none⟩) len cap] w fun e w' => e = .returned (.int .u32 ((word c0 c1 c2 c3).toNat : Int)) ∧ w' = w.drew := by
  have ew := or_word c0 c1 c2 c3 b0 b1 b2 b3
  go_enter Tryd.func61, Tryd.ntmps61
  go_wp2
  go_region
  go_wp2
  go_ret
  exact ⟨by rw [← ew]; rfl, rfl⟩
end Go.Proofs.YtogmkcabndgllaaDoor
