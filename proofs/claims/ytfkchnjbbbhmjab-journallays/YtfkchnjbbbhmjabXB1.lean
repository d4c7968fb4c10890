/- PLAIN MATHEMATICS OF THE CHECK SUM: bit steps on 24 bits, linear and one to one; four bits at once are the table's; byte steps; bursts. Imports nothing of the translation.; THE CLOSURE OF crc24.stepsFrom, BY ITS CONTRACT: a byte is one byte step of the sum in its box.; crc24.stepsFrom: the box and the table that its closure holds.; crc24.Next, Sum, Fits: contracts over any slice of bytes.; The document's answer of layer 2 by its own text: Step, Next, Sum of raddleref02.; append(dst, src...) where dst is a row of the call's own (or nil) and src is whatever yields cells (a slice with an address, a nil slice, an empty slice, a string): one law, over any program.; append(dst, src...) where dst is a row of the call's own (or nil) and src is whatever yields cells (a slice with an address, a nil slice, an empty slice, a string): one law, over any program.; bytes in memory, rows of one's own: the base of tape's texts; frames: all but some blocks stays; A region that draws its order, walked one way under a condition that every operation keeps: what yields one value wherever the condition holds may be taken first; what makes memory, writes or calls comes up alone. -/
import Derived.Test.YtfkchnjbbbhmjabRows
import Derived.Test.YtfkchnjbbbhmjabChecked
import Derived.WalkKit
import Derived.WalkSpells
import Derived.RegionTactic
import Derived.ChangeAlike
import Derived.BigRegion
import Derived.Outline
import Derived.Deep.AppendSrc
import Derived.Deep.MidRow
import Derived.Below
import Derived.OwnWalk
import Derived.Laws.IdiomCopy
import Derived.Maps.OwnSet
import Derived.Deep.RegionHeld3
namespace Go.Proofs.Ytfkchnjbbbhmjab.Cr
namespace Crc

def poly : BitVec 24 := BitVec.ofNat 24 8801531
/-- one bit's stepB -/
def T (x : BitVec 24) : BitVec 24 := (x <<< 1) ^^^ (if x.msb then poly else (0 : BitVec 24))
def T4 (x : BitVec 24) : BitVec 24 := T (T (T (T x)))
def T8 (x : BitVec 24) : BitVec 24 := T4 (T4 x)
/-- a byte's stepB -/
def stepB (x : BitVec 24) (c : Int) : BitVec 24 := T8 (x ^^^ (BitVec.ofInt 24 c <<< 16))
def crc (x : BitVec 24) (zs : List Int) : BitVec 24 := zs.foldl stepB x

theorem xor_left_comm (x y z : BitVec 24) : x ^^^ (y ^^^ z) = y ^^^ (x ^^^ z) := by
  rw [← BitVec.xor_assoc, BitVec.xor_comm x y, BitVec.xor_assoc]
theorem xor_cancel (x y : BitVec 24) : x ^^^ (x ^^^ y) = y := by
  rw [← BitVec.xor_assoc, BitVec.xor_self, BitVec.zero_xor]

theorem T_xor (x y : BitVec 24) : T (x ^^^ y) = T x ^^^ T y := by
  unfold T
  rw [BitVec.shiftLeft_xor_distrib, BitVec.msb_xor]
  cases x.msb <;> cases y.msb <;> simp [BitVec.xor_assoc, BitVec.xor_comm, xor_left_comm, xor_cancel]
theorem T4_xor (x y : BitVec 24) : T4 (x ^^^ y) = T4 x ^^^ T4 y := by unfold T4; simp only [T_xor]
theorem T8_xor (x y : BitVec 24) : T8 (x ^^^ y) = T8 x ^^^ T8 y := by unfold T8; simp only [T4_xor]
theorem T_zero : T (0 : BitVec 24) = (0 : BitVec 24) := by decide
theorem T8_zero : T8 (0 : BitVec 24) = (0 : BitVec 24) := by decide

def tab : List Nat := [0, 8801531, 9098509, 825846, 9692897, 1419802, 1651692, 10452759, 10584377, 2608578, 2839604, 11344079, 3303384, 11807523, 12104405, 4128302]

theorem T_low (x : BitVec 24) (h : x.toNat < 8388608) : T x = x <<< 1 ∧ (x <<< 1).toNat = 2 * x.toNat := by
  have hm : x.msb = false := by rw [BitVec.msb_eq_decide]; simp; omega
  refine ⟨by simp [T, hm], ?_⟩
  rw [BitVec.toNat_shiftLeft]; simp [Nat.shiftLeft_eq]; omega

theorem T4_low (x : BitVec 24) (h : x.toNat < 1048576) : (T4 x).toNat = 16 * x.toNat := by
  obtain ⟨a1, b1⟩ := T_low x (by omega)
  obtain ⟨a2, b2⟩ := T_low (T x) (by rw [a1, b1]; omega)
  obtain ⟨a3, b3⟩ := T_low (T (T x)) (by rw [a2, b2, a1, b1]; omega)
  obtain ⟨a4, b4⟩ := T_low (T (T (T x))) (by rw [a3, b3, a2, b2, a1, b1]; omega)
  unfold T4
  rw [a4, b4, a3, b3, a2, b2, a1, b1]; omega

theorem T4_tab : ∀ i : Fin 16, (T4 (BitVec.ofNat 24 (i.val * 1048576))).toNat = tab.getD i.val 0 := by decide

/-- four bits at once -/
theorem T4_nib (x : BitVec 24) : (T4 x).toNat = (x.toNat % 1048576 * 16) ^^^ (tab.getD (x.toNat / 1048576) 0) := by
  have hx := x.isLt
  have hsplit : x = BitVec.ofNat 24 (x.toNat % 1048576) ^^^ BitVec.ofNat 24 (x.toNat / 1048576 * 1048576) := by
    apply BitVec.eq_of_toNat_eq
    rw [BitVec.toNat_xor, BitVec.toNat_ofNat, BitVec.toNat_ofNat, Nat.mod_eq_of_lt (show x.toNat % 1048576 < 2 ^ 24 by omega), Nat.mod_eq_of_lt (show x.toNat / 1048576 * 1048576 < 2 ^ 24 by omega)]
    have e := Nat.shiftLeft_add_eq_or_of_lt (b := x.toNat % 1048576) (i := 20) (by omega) (x.toNat / 1048576)
    have : (x.toNat / 1048576) <<< 20 = x.toNat / 1048576 * 1048576 := by rw [Nat.shiftLeft_eq]
    rw [this] at e
    apply Nat.eq_of_testBit_eq
    intro i
    rw [Nat.testBit_xor]
    have h1 : (x.toNat / 1048576 * 1048576).testBit i = (decide (20 ≤ i) && (x.toNat / 1048576).testBit (i - 20)) := by
      rw [← this, Nat.testBit_shiftLeft]
    have h2 : (x.toNat % 1048576).testBit i = (decide (i < 20) && x.toNat.testBit i) := by
      exact Nat.testBit_mod_two_pow x.toNat 20 i
    have h3 : (x.toNat / 1048576).testBit (i - 20) = x.toNat.testBit (i - 20 + 20) := by
      exact Nat.testBit_div_two_pow (n := 20) x.toNat (i - 20)
    rw [h1, h2, h3]
    by_cases hi : i < 20
    · have : ¬ 20 ≤ i := by omega
      simp [hi, this]
    · have h20 : 20 ≤ i := by omega
      have : i - 20 + 20 = i := by omega
      simp [hi, h20, this]
  have e := T4_xor (BitVec.ofNat 24 (x.toNat % 1048576)) (BitVec.ofNat 24 (x.toNat / 1048576 * 1048576))
  rw [← hsplit] at e
  rw [e, BitVec.toNat_xor, T4_low _ (by rw [BitVec.toNat_ofNat]; omega)]
  have h16 := T4_tab ⟨x.toNat / 1048576, by omega⟩
  simp only at h16
  rw [h16, BitVec.toNat_ofNat, Nat.mod_eq_of_lt (by omega)]
  congr 1; omega

theorem stepB_lt (x : BitVec 24) (c : Int) : (stepB x c).toNat < 16777216 := (stepB x c).isLt
theorem crc_append (x : BitVec 24) (a b : List Int) : crc x (a ++ b) = crc (crc x a) b := by simp [crc, List.foldl_append]

end Crc
end Go.Proofs.Ytfkchnjbbbhmjab.Cr
namespace Go.Proofs.Ytfkchnjbbbhmjab.Cr
open Go.RowKit
namespace Crc
theorem wrap_i64_small (n : Nat) (h : n < 9223372036854775808) : IntKind.i64.wrap (n : Int) = n := by
  rw [IntKind.wrap_i64]; omega
theorem ofInt64 (a : Nat) (ha : a < 9223372036854775808) : (BitVec.ofInt 64 (a : Int)).toNat = a := by
  rw [BitVec.ofInt_natCast, BitVec.toNat_ofNat]; exact Nat.mod_eq_of_lt (by omega)
theorem i64_xor (a b : Nat) (ha : a < 9223372036854775808) (hb : b < 9223372036854775808) : bits .xor .i64 (a : Int) (b : Int) = ((a ^^^ b : Nat) : Int) := by
  have hx : a ^^^ b < 2 ^ 63 := Nat.xor_lt_two_pow (by omega) (by omega)
  show IntKind.i64.wrap ((BitVec.ofInt 64 (a : Int) ^^^ BitVec.ofInt 64 (b : Int)).toNat : Int) = _
  rw [BitVec.toNat_xor, ofInt64 a ha, ofInt64 b hb]
  exact wrap_i64_small _ (by omega)
/-- the lowest 24 bits of any number -/
theorem i64_low24 (n : Int) : bits .and .i64 n 16777215 = n % 16777216 := by
  show IntKind.i64.wrap ((BitVec.ofInt 64 n &&& BitVec.ofInt 64 16777215).toNat : Int) = _
  have h2 : (BitVec.ofInt 64 16777215).toNat = 16777215 := by decide
  rw [BitVec.toNat_and, h2]
  have h3 : (BitVec.ofInt 64 n).toNat &&& 16777215 = (BitVec.ofInt 64 n).toNat % 16777216 := Nat.and_two_pow_sub_one_eq_mod _ 24
  rw [h3, wrap_i64_small _ (by omega), BitVec.toNat_ofInt]
  omega
def into (x : BitVec 24) (c : Int) : BitVec 24 := x ^^^ (BitVec.ofInt 24 c <<< 16)
theorem into_bits (x : BitVec 24) (c : Int) (h0 : 0 ≤ c) (h1 : c < 256) : bits .xor .i64 (x.toNat : Int) (c * 65536) = ((into x c).toNat : Int) := by
  obtain ⟨n, rfl⟩ := Int.eq_ofNat_of_zero_le h0
  have hx := x.isLt
  have e : ((n : Int) * 65536) = ((n * 65536 : Nat) : Int) := by omega
  rw [e, i64_xor _ _ (by omega) (by omega)]
  unfold into
  rw [BitVec.toNat_xor, BitVec.toNat_shiftLeft, BitVec.ofInt_natCast, BitVec.toNat_ofNat, Nat.shiftLeft_eq, Nat.mod_eq_of_lt (show n < 2 ^ 24 by omega), Nat.mod_eq_of_lt (show n * 2 ^ 16 < 2 ^ 24 by omega)]
theorem tab_lt (i : Nat) : tab.getD i 0 < 16777216 := by
  by_cases h : i < 16
  · have := (by decide : ∀ i : Fin 16, tab.getD i.val 0 < 16777216) ⟨i, h⟩
    exact this
  · rw [List.getD_eq_getElem?_getD, List.getElem?_eq_none (show tab.length ≤ i by simp [tab]; omega)]; decide
theorem nib_bits (z : BitVec 24) : bits .xor .i64 (bits .and .i64 ((z.toNat : Int) * 16) 16777215) ((tab[z.toNat / 1048576]?.getD 0 : Nat) : Int) = ((T4 z).toNat : Int) := by
  have hz := z.isLt
  rw [i64_low24]
  have e : ((z.toNat : Int) * 16) % 16777216 = ((z.toNat % 1048576 * 16 : Nat) : Int) := by omega
  have h2 := tab_lt (z.toNat / 1048576)
  rw [List.getD_eq_getElem?_getD] at h2
  rw [e, i64_xor _ _ (by omega) (by omega), T4_nib, List.getD_eq_getElem?_getD]
def nibs (k : Nat) (y : BitVec 24) : BitVec 24 := match k with | 0 => y | 1 => T4 y | _ => T8 y
end Crc
open Crc
set_option maxRecDepth 100000 in
set_option maxHeartbeats 2000000 in
theorem clos (B L : Nat) (x : BitVec 24) (c : Int) (w : World) (hc0 : 0 ≤ c) (hc1 : c < 256) (hBL : B < L)
   (hnow : w.cell? ⟨B, 0, none⟩ = some (.int .i64 (x.toNat : Int))) (hfz : w.frozen? ⟨B, 0, none⟩ = false)
   (htab : ∀ j, j < 16 → w.cell? ⟨L, j, none⟩ = some (.int .i64 ((tab.getD j 0 : Nat) : Int))) :
   Calls Try.prog 79 #[.int .u8 c, .pointer (some ⟨B, 0, none⟩), .pointer (some ⟨L, 0, none⟩)] w fun e w' => e = .returned (.int .i64 ((stepB x c).toNat : Int)) ∧ 
     w'.cell? ⟨B, 0, none⟩ = some (.int .i64 ((stepB x c).toNat : Int)) ∧ w'.frozen? ⟨B, 0, none⟩ = false ∧ (∀ j, j < 16 → w'.cell? ⟨L, j, none⟩ = some (.int .i64 ((tab.getD j 0 : Nat) : Int))) ∧ Below B w w' := by
  have hxl := x.isLt
  have e1 := into_bits x c hc0 hc1
  generalize hy : into x c = y at e1
  have HY : Hid (into x c = y) := hy
  clear hy
  have hyl := y.isLt
  go_enter Try.func79, Try.ntmps79
  go_wp2
  go_loopw [10] (fun i wr => ∃ k : Nat, k ≤ 2 ∧ i = .int .i64 k ∧ ∃ z, Hid (nibs k y = z) ∧ wr.cell? ⟨B, 0, none⟩ = some (.int .i64 (z.toNat : Int)) ∧ wr.frozen? ⟨B, 0, none⟩ = false ∧ (∀ j, j < 16 → wr.cell? ⟨L, j, none⟩ = some (.int .i64 ((tab.getD j 0 : Nat) : Int))) ∧ Below B w wr) (fun i _ => 2 - (intOf i).toNat)
  case atStart =>
    refine ⟨0, by omega, rfl, y, rfl, World.cell?_setCell_same _ _ _ hnow, (World.frozen?_setCell _ _ _ _).trans hfz, fun j hj => ?_, (Below.refl B w).setCell (p := ⟨B, 0, none⟩) (Nat.le_refl _) _⟩
    exact (World.cell?_setCell_other _ _ _ _ (by simp)).trans (htab j hj)
  case round =>
    obtain ⟨k, hk, rfl, z, hz, hn, hf, ht, hb⟩ := hrel
    have hzl := z.isLt
    have eN := nib_bits z
    by_cases hlt : k < 2
    · have hti := ht (z.toNat / 1048576) (by omega)
      go_wp2
      go_region
      go_wp2
      go_roundw
      case rel =>
        refine ⟨k + 1, by omega, by go_num, T4 z, ?_, World.cell?_setCell_same _ _ _ hn, (World.frozen?_setCell _ _ _ _).trans hf, fun j hj => ?_, (hb.setCell (p := ⟨B, 0, none⟩) (Nat.le_refl _) _).drew⟩
        · have := hz.out
          match k, hlt with
          | 0, _ => exact congrArg T4 this
          | 1, _ => exact congrArg T4 this
        · exact (World.cell?_setCell_other _ _ _ _ (by simp)).trans (ht j hj)
      case measure => simp [intOf]; omega
    · obtain rfl : k = 2 := by omega
      go_wp2
      go_ret
      have e : stepB x c = z := by
        have := hz.out; have h2 := HY.out; rw [← this, ← h2]; exact rfl
      rw [e]
      exact ⟨rfl, hn, hf, ht, hb⟩
end Go.Proofs.Ytfkchnjbbbhmjab.Cr
namespace Go.Proofs.Ytfkchnjbbbhmjab.Cr
open Go.RowKit
open Crc

/-- 'the box at B holds the sum, the table lies at B + 1' -/
def Boxed (B : Nat) (x : BitVec 24) (w : World) : Prop :=
  w.cell? ⟨B, 0, none⟩ = some (.int .i64 (x.toNat : Int)) ∧ w.frozen? ⟨B, 0, none⟩ = false ∧ (∀ j, j < 16 → w.cell? ⟨B + 1, j, none⟩ = some (.int .i64 ((tab.getD j 0 : Nat) : Int))) ∧ B + 2 ≤ w.heap.size

def fv (B : Nat) : Value := .func (.func 79) #[] #[.pointer (some ⟨B, 0, none⟩), .pointer (some ⟨B + 1, 0, none⟩)]

set_option maxRecDepth 100000 in
set_option maxHeartbeats 2000000 in
theorem stepsFrom_any (n : Int) (w : World) (x : BitVec 24) (hn : n = (x.toNat : Int)) :
   Calls Try.prog 67 #[.int .i64 n] w fun e w' => e = .returned (fv w.heap.size) ∧ Boxed w.heap.size x w' ∧ Below w.heap.size w w' := by
  have hmf : ∀ (fn : Fn) (first cap : Array Value) (w : World), (Instr.makeFunc fn first cap).run Try.prog w = .ok (.func fn first cap) w := fun _ _ _ _ => rfl
  subst hn
  go_enter Try.func67, Try.ntmps67
  go_wp2
  go_ret
  refine ⟨rfl, ⟨?_, ?_, ?_, by simp⟩, ((Below.refl _ _).alloc (Nat.le_refl _) _).alloc (by simp) _⟩
  · rw [World.cell?_alloc_past _ _ _ (by simp), World.cell?_alloc_at _ _ _ _ rfl]; rfl
  · rw [World.frozen?_alloc_past _ _ _ (by simp), World.frozen?_alloc_at _ _ _ _ rfl]
  · intro j hj
    rw [World.cell?_alloc_at _ _ _ _ (by simp)]
    match j, hj with
    | 0, _ => rfl
    | 1, _ => rfl
    | 2, _ => rfl
    | 3, _ => rfl
    | 4, _ => rfl
    | 5, _ => rfl
    | 6, _ => rfl
    | 7, _ => rfl
    | 8, _ => rfl
    | 9, _ => rfl
    | 10, _ => rfl
    | 11, _ => rfl
    | 12, _ => rfl
    | 13, _ => rfl
    | 14, _ => rfl
    | 15, _ => rfl
    | n + 16, h => omega

theorem crc_take (x : BitVec 24) (zs : List Int) (k : Nat) (h : k < zs.length) : crc x (zs.take (k + 1)) = stepB (crc x (zs.take k)) (zs.getD k 0) := by
  rw [List.take_succ_eq_append_getElem h, crc_append, List.getD_eq_getElem?_getD, List.getElem?_eq_getElem h]; rfl
theorem low_bits (n : Int) : bits .and .i64 n 16777215 = ((BitVec.ofInt 24 n).toNat : Int) := by
  rw [i64_low24, BitVec.toNat_ofInt]; omega
end Go.Proofs.Ytfkchnjbbbhmjab.Cr
namespace Go.Proofs.Ytfkchnjbbbhmjab.Cr
open Go.RowKit
open Crc
set_option maxRecDepth 100000 in
set_option maxHeartbeats 2000000 in
theorem next_row (sum : Int) (b off cap : Nat) (zs : List Int) (w : World) (hb : b < w.heap.size) (hm : zs.length ≤ maxLen)
   (hz : ∀ z ∈ zs, 0 ≤ z ∧ z < 256) (hc : ∀ j, j < zs.length → w.cell? ⟨b, off + j, none⟩ = some (.int .u8 (zs.getD j 0))) :
   Calls Try.prog 59 #[.int .i64 sum, .slice (some ⟨b, off, none⟩) zs.length cap] w fun e w' => e = .returned (.int .i64 ((crc (BitVec.ofInt 24 sum) zs).toNat : Int)) ∧ Below w.heap.size w w' := by
  unfold maxLen at hm
  have e0 := low_bits sum
  generalize BitVec.ofInt 24 sum = x0 at e0 ⊢
  go_enter Try.func59, Try.ntmps59
  go_wp2_with fail
  refine (stepsFrom_any _ _ x0 rfl).mono ?_
  rintro e w1 ⟨rfl, hbx, hw1⟩
  unfold fv
  go_wp2
  go_loopw [5, 15] (fun n i wr => ∃ k : Nat, k ≤ zs.length ∧ i = .int .i64 k ∧ n = .int .i64 ((crc x0 (zs.take k)).toNat : Int) ∧ Boxed w.heap.size (crc x0 (zs.take k)) wr ∧ Below w.heap.size w wr) (fun _ i _ => zs.length - (intOf i).toNat)
  case atStart => exact ⟨0, by omega, rfl, rfl, hbx, hw1⟩
  case round =>
    obtain ⟨k, hk, rfl, rfl, hbox, hbel⟩ := hrel
    by_cases hlt : k < zs.length
    · obtain ⟨z, hcx, hz0, hz1, E2⟩ : ∃ z, wr.cell? ⟨b, off + k, none⟩ = some (.int .u8 z) ∧ 0 ≤ z ∧ z < 256 ∧ Hid (crc x0 (zs.take (k + 1)) = stepB (crc x0 (zs.take k)) z) := by
        refine ⟨zs.getD k 0, (hbel.cell (by exact hb)).trans (hc k hlt), ?_, ?_, crc_take x0 zs k hlt⟩ <;> rw [List.getD_eq_getElem?_getD, List.getElem?_eq_getElem hlt]
        · exact (hz _ (List.getElem_mem hlt)).1
        · exact (hz _ (List.getElem_mem hlt)).2
      obtain ⟨hn, hf, ht, hs⟩ := hbox
      go_wp2_with fail
      refine (clos w.heap.size (w.heap.size + 1) (crc x0 (zs.take k)) z _ hz0 hz1 (by omega) hn hf ht).mono ?_
      rintro e w2 ⟨rfl, hn2, hf2, ht2, hb2⟩
      have hbox2 : Boxed w.heap.size (crc x0 (zs.take (k + 1))) w2 := by
        have := hb2.size
        rw [E2.out]; exact ⟨hn2, hf2, ht2, by omega⟩
      clear ht ht2
      go_wp2
      go_roundw
      case rel =>
        exact ⟨k + 1, by omega, by go_num, by rw [E2.out], hbox2, hbel.trans hb2⟩
      case measure => simp [intOf]; omega
    · obtain rfl : k = zs.length := by omega
      go_wp2
      go_ret
      rw [List.take_length]
      exact ⟨rfl, hbel⟩

/-- a slice of bytes whose elements are zs (nil, empty or over memory that lies there) -/
def RowAt (w : World) (a : Option Addr) (zs : List Int) : Prop :=
  zs.length ≤ maxLen ∧ (∀ z ∈ zs, 0 ≤ z ∧ z < 256) ∧ (zs = [] ∨ ∃ b off, a = some ⟨b, off, none⟩ ∧ b < w.heap.size ∧ ∀ j, j < zs.length → w.cell? ⟨b, off + j, none⟩ = some (.int .u8 (zs.getD j 0)))

theorem RowAt.below {w w' : World} {a : Option Addr} {zs : List Int} (h : RowAt w a zs) (hb : Below w.heap.size w w') : RowAt w' a zs := by
  refine ⟨h.1, h.2.1, ?_⟩
  rcases h.2.2 with h | ⟨b, off, rfl, h1, h2⟩
  · exact Or.inl h
  · refine Or.inr ⟨b, off, rfl, Nat.lt_of_lt_of_le h1 hb.size, fun j hj => (hb.cell (p := ⟨b, off + j, none⟩) h1).trans (h2 j hj)⟩

set_option maxRecDepth 100000 in
set_option maxHeartbeats 2000000 in
theorem next_none (sum : Int) (a : Option Addr) (cap : Nat) (w : World) :
   Calls Try.prog 59 #[.int .i64 sum, .slice a 0 cap] w fun e w' => e = .returned (.int .i64 ((BitVec.ofInt 24 sum).toNat : Int)) ∧ Below w.heap.size w w' := by
  have e0 := low_bits sum
  generalize BitVec.ofInt 24 sum = x0 at e0 ⊢
  go_enter Try.func59, Try.ntmps59
  go_wp2_with fail
  refine (stepsFrom_any _ _ x0 rfl).mono ?_
  rintro e w1 ⟨rfl, hbx, hw1⟩
  unfold fv
  go_wp2
  refine wp_loop_rounds 1 ?_
  rw [rounds_succ]
  go_wp2
  go_ret
  exact ⟨rfl, hw1⟩

theorem next_any (sum : Int) (a : Option Addr) (cap : Nat) (zs : List Int) (w : World) (h : RowAt w a zs) :
   Calls Try.prog 59 #[.int .i64 sum, .slice a zs.length cap] w fun e w' => e = .returned (.int .i64 ((crc (BitVec.ofInt 24 sum) zs).toNat : Int)) ∧ Below w.heap.size w w' := by
  obtain ⟨h1, h2, rfl | ⟨b, off, rfl, h3, h4⟩⟩ := h
  · exact next_none sum a cap w
  · exact next_row sum b off cap zs w h3 h1 h2 h4

def start : BitVec 24 := BitVec.ofNat 24 11994318
theorem start_of : BitVec.ofInt 24 11994318 = start := by decide
theorem sum_any (a : Option Addr) (cap : Nat) (zs : List Int) (w : World) (h : RowAt w a zs) :
   Calls Try.prog 45 #[.slice a zs.length cap] w fun e w' => e = .returned (.int .i64 ((crc start zs).toNat : Int)) ∧ Below w.heap.size w w' := by
  have c := next_any 11994318 a cap zs w h
  rw [start_of] at c
  go_enter Try.func45, Try.ntmps45
  go_wp2_with fail
  refine c.mono ?_
  rintro e w1 ⟨rfl, hw1⟩
  go_wp2
  go_ret
  exact ⟨rfl, hw1⟩

set_option maxRecDepth 100000 in
set_option maxHeartbeats 2000000 in
theorem fits_any (a : Option Addr) (cap : Nat) (zs : List Int) (sum : Int) (w : World) (h : RowAt w a zs) :
   Calls Try.prog 74 #[.slice a zs.length cap, .int .i64 sum] w fun e w' => e = .returned (.bool (((crc start zs).toNat : Int) == sum)) ∧ Below w.heap.size w w' := by
  go_enter Try.func74, Try.ntmps74
  go_wp2_with fail
  refine (sum_any a cap zs w h).mono ?_
  rintro e w1 ⟨rfl, hw1⟩
  go_wp2
  go_ret
  exact ⟨rfl, hw1⟩
end Go.Proofs.Ytfkchnjbbbhmjab.Cr
namespace Go.Proofs.Ytfkchnjbbbhmjab.Cr
namespace Crc
def Tn : Nat → BitVec 24 → BitVec 24
  | 0, y => y
  | k + 1, y => T (Tn k y)
end Crc
open Go.RowKit
open Crc
namespace Crc
theorem T_nat (z : BitVec 24) : ((T z).toNat : Int) = if 16777215 < (z.toNat : Int) * 2 then bits .xor .i64 ((z.toNat : Int) * 2 - 16777215 - 1) 8801531 else (z.toNat : Int) * 2 := by
  have hz := z.isLt
  have hs : (z <<< 1).toNat = 2 * z.toNat % 16777216 := by
    rw [BitVec.toNat_shiftLeft, Nat.shiftLeft_eq]; congr 1; omega
  by_cases h : 16777215 < (z.toNat : Int) * 2
  · rw [if_pos h]
    have hm : z.msb = true := by rw [BitVec.msb_eq_decide]; simp; omega
    have e : (z.toNat : Int) * 2 - 16777215 - 1 = ((2 * z.toNat - 16777216 : Nat) : Int) := by omega
    have e2 : (8801531 : Int) = ((8801531 : Nat) : Int) := rfl
    rw [e, e2, i64_xor _ _ (by omega) (by omega)]
    unfold T
    rw [if_pos hm, BitVec.toNat_xor, hs]
    have : 2 * z.toNat % 16777216 = 2 * z.toNat - 16777216 := by omega
    rw [this]; rfl
  · rw [if_neg h]
    have hm : z.msb = false := by rw [BitVec.msb_eq_decide]; simp; omega
    unfold T
    simp only [hm]
    simp only [Bool.false_eq_true, if_false, BitVec.xor_zero, BitVec.ofNat_eq_ofNat]
    rw [hs]; omega
end Crc
end Go.Proofs.Ytfkchnjbbbhmjab.Cr
namespace Go.Proofs.Ytfkchnjbbbhmjab
open Go Go.RowKit
section
variable {P : Program} (w : World)

theorem run_append_own_src (base : Nat) (t tx ty e : TypeId) (i : TypeInfo) (z : Value) (size bytes : Nat) (ht : P.underlying t = some (.slice e)) (hi : P.info? e = some i) (hz : i.zero = some z)
    (hsize : i.size = size) (hby : i.bytes = bytes) (hzs : z.cells.size = size)
    (v : Value) (n : Nat) (xs : List Value) (hown : w.ownsRow base e size v n xs)
    (x : Value) (m : Nat) (news : List Value) (hs : Src P size tx x m news w)
    (h63 : n + m ≤ maxLen) (hbytes : (n + m) * bytes ≤ 140737488355328) (hbase : base ≤ w.heap.size) :
    ∃ v' w', (Builtin.append_ #[t, tx] ty #[v, x]).run P w = .ok v' w' ∧ w'.ownsRow base e size v' (n + m) (xs ++ news) ∧ w.grownBy w' v.ownBlock := by
  subst hsize
  subst hby
  have hl := hs.newsLen
  have hlen : (xs ++ news).length = (n + m) * i.size := by rw [List.length_append, hown.1, hl, Nat.add_mul]
  have grown : ∀ (old : Nat), old < n + m → ∀ (row : Option Nat),
      (w.drew.alloc (.cells ((xs ++ news).toArray ++ Builtin.zeroCells z.cells (grownCap w (n + m) old e - (n + m))) e)).ownsRow base e i.size
        (.slice (some ⟨w.heap.size, 0, none⟩) (n + m) (grownCap w (n + m) old e)) (n + m) (xs ++ news) ∧
      w.grownBy (w.drew.alloc (.cells ((xs ++ news).toArray ++ Builtin.zeroCells z.cells (grownCap w (n + m) old e - (n + m))) e)) row := by
    intro old ho row
    have hge := grownCap_ge w (n + m) old e
    have hcm : grownCap w (n + m) old e ≤ maxLen := grownCap_le_maxLen w (n + m) old e h63
    refine ⟨⟨hlen, .inr ⟨w.heap.size, _, _, rfl, hbase, heap_alloc_new w.drew _, hge, hcm, ?_, ?_⟩⟩, ⟨rfl, rfl, rfl, by simp, fun k hk _ => Below.heap_alloc w.drew _ k hk⟩⟩
    · simp only [Array.size_append, List.size_toArray, size_zeroCells, hzs, hlen, ← Nat.add_mul]
      congr 1
      omega
    · simp only [Array.toList_append]
      rw [← hlen]
      exact List.take_left
  have h63' : ((n + m : Nat) : Int) ≤ 9223372036854775807 := by simp only [maxLen] at h63; omega
  rcases hown.2 with ⟨rfl, rfl⟩ | ⟨g, cap, cur, rfl, hbg, hg, hnc, hcm, hcs, htake⟩
  · have hx : xs = [] := List.eq_nil_of_length_eq_zero (by simpa using hown.1)
    subst hx
    by_cases hm : m = 0
    · subst hm
      have hn : news = [] := List.eq_nil_of_length_eq_zero (by simpa using hl)
      subst hn
      refine ⟨.slice none 0 0, w, ?_, World.ownsRow_nil w base e i.size, ⟨rfl, rfl, rfl, Nat.le_refl _, fun _ _ _ => rfl⟩⟩
      have hc := hs.cells
      rcases hs.kind with ⟨e', hk⟩ | hk <;> simp [Builtin.append_, run_underlying ht, run_underlying hk, sizeOf, typeInfo, hi, hs.len, hc]
    · have hr := run_append_grow_src (P := P) w t tx ty e i z ht hi hz none 0 0 [] (run_firstCells_none w.drew i.size 0 0 0) x m news hs (by omega) (by simpa using h63') (growslice_fits (by omega) (by simpa using hbytes))
      have hgr := grown 0 (by omega) (Value.ownBlock (.slice none 0 0))
      exact ⟨_, _, hr, hgr.1, hgr.2⟩
  · by_cases hroom : n + m ≤ cap
    · have hfit : n * i.size + news.length ≤ cur.size := by rw [hl, hcs, ← Nat.add_mul]; exact Nat.mul_le_mul_right _ hroom
      have hst := run_storeCells_at P g (n * i.size) e news 0 cur w hg (by simpa using hfit) hs.one
      simp only [Nat.add_zero] at hst
      have hr : (Builtin.append_ #[t, tx] ty #[.slice (some ⟨g, 0, none⟩) n cap, x]).run P w = .ok (.slice (some ⟨g, 0, none⟩) (n + m) cap) (w.setRow g (cur.toList.take (n * i.size) ++ news ++ cur.toList.drop (n * i.size + news.length)).toArray) := by
        rcases hs.kind with ⟨e', hk⟩ | hk <;> simp [Builtin.append_, run_underlying ht, run_underlying hk, sizeOf, typeInfo, hi, hs.len, hroom, hs.cells, Addr.add_lit, hst]
      refine ⟨_, _, hr, ⟨hlen, .inr ⟨g, cap, _, rfl, hbg, setRow_heap w g cur _ e _ hg, hroom, hcm, ?_, ?_⟩⟩, ⟨rfl, rfl, rfl, by simp, fun k _ hk => setRow_other w g k _ (fun e => hk (by simp [Value.ownBlock, e]))⟩⟩
      · simp only [List.size_toArray, List.length_append, List.length_take, List.length_drop, Array.length_toList]
        omega
      · rw [htake, ← hlen]
        exact List.take_left
    · have holds : ∀ j u, xs[j]? = some u → w.cell? ((⟨g, 0, none⟩ : Addr).add j) = some u := hown.cells (g := g) rfl
      have hr := run_append_grow_src (P := P) w t tx ty e i z ht hi hz (some ⟨g, 0, none⟩) n cap xs (run_firstCells_some w.drew i.size n ⟨g, 0, none⟩ n cap xs hown.1 (by simpa using holds)) x m news hs (by omega) h63' (growslice_fits (by omega) hbytes)
      have hgr := grown cap (by omega) (Value.ownBlock (.slice (some ⟨g, 0, none⟩) n cap))
      exact ⟨_, _, hr, hgr.1, hgr.2⟩

theorem wpList_append_own_src {ops : Array Oper} {rest : List Oper} {o : Oper} {a : Act} {Q : Exit → Act → World → Prop} (hgd : o.guard = none) (s x : Operand) (t tx : TypeId)
    (ho : o.op = .call { callee := .builtin .append, args := #[s, x], argTypes := #[t, tx] })
    (base : Nat) (e : TypeId) (i : TypeInfo) (z : Value) (size bytes : Nat) (ht : P.underlying t = some (.slice e)) (hi : P.info? e = some i) (hz : i.zero = some z)
    (hsize : i.size = size) (hby : i.bytes = bytes) (hzs : z.cells.size = size)
    (v : Value) (n : Nat) (xs : List Value) (hv : a.eval s = v) (hown : w.ownsRow base e size v n xs)
    (xv : Value) (m : Nat) (news : List Value) (hx : a.eval x = xv) (hs : Src P size tx xv m news w)
    (h63 : n + m ≤ maxLen) (hbytes : (n + m) * bytes ≤ 140737488355328) (hbase : base ≤ w.heap.size)
    (h : ∀ v' w', w'.ownsRow base e size v' (n + m) (xs ++ news) → w.grownBy w' v.ownBlock → wpList P ops Q rest (a.put o.dst v') w') : wpList P ops Q (o :: rest) a w := by
  refine wpList_plain hgd fun K hK => ?_
  obtain ⟨v', w', hr, h2, h3⟩ := run_append_own_src (P := P) w base t tx o.type e i z size bytes ht hi hz hsize hby hzs v n xs hown xv m news hs h63 hbytes hbase
  unfold Oper.wp execOp
  simp only [ho, resolve, invoke, builtin, Sem.run_bind, Sem.run_pure, Result.andThen_ok, List.map_toArray, List.map_cons, List.map_nil, hv, hx, hr]
  exact hK _ _ (h v' w' h2 h3)
end
end Go.Proofs.Ytfkchnjbbbhmjab
namespace Go.Proofs.Ytfkchnjbbbhmjab
open Go Go.RowKit
section
variable {P : Program} (w : World)

theorem run_append_own_src2 (base : Nat) (t tx ty e : TypeId) (i : TypeInfo) (z : Value) (size bytes : Nat) (ht : P.underlying t = some (.slice e)) (hi : P.info? e = some i) (hz : i.zero = some z)
    (hsize : i.size = size) (hby : i.bytes = bytes) (hzs : z.cells.size = size)
    (v : Value) (n : Nat) (xs : List Value) (hown : w.ownsRow base e size v n xs)
    (x : Value) (m : Nat) (news : List Value) (hs : Src P size tx x m news w)
    (h63 : n + m ≤ maxLen) (hbytes : (n + m) * bytes ≤ 140737488355328) (hbase : base ≤ w.heap.size) :
    ∃ v' w', (Builtin.append_ #[t, tx] ty #[v, x]).run P w = .ok v' w' ∧ w'.ownsRow base e size v' (n + m) (xs ++ news) ∧ w.grownBy w' v.ownBlock ∧ (∀ g, v'.ownBlock = some g → v.ownBlock = some g ∨ g = w.heap.size) := by
  subst hsize
  subst hby
  have hl := hs.newsLen
  have hlen : (xs ++ news).length = (n + m) * i.size := by rw [List.length_append, hown.1, hl, Nat.add_mul]
  have grown : ∀ (old : Nat), old < n + m → ∀ (row : Option Nat),
      (w.drew.alloc (.cells ((xs ++ news).toArray ++ Builtin.zeroCells z.cells (grownCap w (n + m) old e - (n + m))) e)).ownsRow base e i.size
        (.slice (some ⟨w.heap.size, 0, none⟩) (n + m) (grownCap w (n + m) old e)) (n + m) (xs ++ news) ∧
      w.grownBy (w.drew.alloc (.cells ((xs ++ news).toArray ++ Builtin.zeroCells z.cells (grownCap w (n + m) old e - (n + m))) e)) row := by
    intro old ho row
    have hge := grownCap_ge w (n + m) old e
    have hcm : grownCap w (n + m) old e ≤ maxLen := grownCap_le_maxLen w (n + m) old e h63
    refine ⟨⟨hlen, .inr ⟨w.heap.size, _, _, rfl, hbase, heap_alloc_new w.drew _, hge, hcm, ?_, ?_⟩⟩, ⟨rfl, rfl, rfl, by simp, fun k hk _ => Below.heap_alloc w.drew _ k hk⟩⟩
    · simp only [Array.size_append, List.size_toArray, size_zeroCells, hzs, hlen, ← Nat.add_mul]
      congr 1
      omega
    · simp only [Array.toList_append]
      rw [← hlen]
      exact List.take_left
  have h63' : ((n + m : Nat) : Int) ≤ 9223372036854775807 := by simp only [maxLen] at h63; omega
  rcases hown.2 with ⟨rfl, rfl⟩ | ⟨g, cap, cur, rfl, hbg, hg, hnc, hcm, hcs, htake⟩
  · have hx : xs = [] := List.eq_nil_of_length_eq_zero (by simpa using hown.1)
    subst hx
    by_cases hm : m = 0
    · subst hm
      have hn : news = [] := List.eq_nil_of_length_eq_zero (by simpa using hl)
      subst hn
      refine ⟨.slice none 0 0, w, ?_, World.ownsRow_nil w base e i.size, ⟨rfl, rfl, rfl, Nat.le_refl _, fun _ _ _ => rfl⟩, fun g hg => by simp [Value.ownBlock] at hg⟩
      have hc := hs.cells
      rcases hs.kind with ⟨e', hk⟩ | hk <;> simp [Builtin.append_, run_underlying ht, run_underlying hk, sizeOf, typeInfo, hi, hs.len, hc]
    · have hr := run_append_grow_src (P := P) w t tx ty e i z ht hi hz none 0 0 [] (run_firstCells_none w.drew i.size 0 0 0) x m news hs (by omega) (by simpa using h63') (growslice_fits (by omega) (by simpa using hbytes))
      have hgr := grown 0 (by omega) (Value.ownBlock (.slice none 0 0))
      exact ⟨_, _, hr, hgr.1, hgr.2, fun g hg => Or.inr (by simpa [Value.ownBlock] using hg.symm)⟩
  · by_cases hroom : n + m ≤ cap
    · have hfit : n * i.size + news.length ≤ cur.size := by rw [hl, hcs, ← Nat.add_mul]; exact Nat.mul_le_mul_right _ hroom
      have hst := run_storeCells_at P g (n * i.size) e news 0 cur w hg (by simpa using hfit) hs.one
      simp only [Nat.add_zero] at hst
      have hr : (Builtin.append_ #[t, tx] ty #[.slice (some ⟨g, 0, none⟩) n cap, x]).run P w = .ok (.slice (some ⟨g, 0, none⟩) (n + m) cap) (w.setRow g (cur.toList.take (n * i.size) ++ news ++ cur.toList.drop (n * i.size + news.length)).toArray) := by
        rcases hs.kind with ⟨e', hk⟩ | hk <;> simp [Builtin.append_, run_underlying ht, run_underlying hk, sizeOf, typeInfo, hi, hs.len, hroom, hs.cells, Addr.add_lit, hst]
      refine ⟨_, _, hr, ⟨hlen, .inr ⟨g, cap, _, rfl, hbg, setRow_heap w g cur _ e _ hg, hroom, hcm, ?_, ?_⟩⟩, ⟨rfl, rfl, rfl, by simp, fun k _ hk => setRow_other w g k _ (fun e => hk (by simp [Value.ownBlock, e]))⟩, fun g' hg' => Or.inl (by simpa [Value.ownBlock] using hg')⟩
      · simp only [List.size_toArray, List.length_append, List.length_take, List.length_drop, Array.length_toList]
        omega
      · rw [htake, ← hlen]
        exact List.take_left
    · have holds : ∀ j u, xs[j]? = some u → w.cell? ((⟨g, 0, none⟩ : Addr).add j) = some u := hown.cells (g := g) rfl
      have hr := run_append_grow_src (P := P) w t tx ty e i z ht hi hz (some ⟨g, 0, none⟩) n cap xs (run_firstCells_some w.drew i.size n ⟨g, 0, none⟩ n cap xs hown.1 (by simpa using holds)) x m news hs (by omega) h63' (growslice_fits (by omega) hbytes)
      have hgr := grown cap (by omega) (Value.ownBlock (.slice (some ⟨g, 0, none⟩) n cap))
      exact ⟨_, _, hr, hgr.1, hgr.2, fun g hg => Or.inr (by simpa [Value.ownBlock] using hg.symm)⟩

theorem wpList_append_own_src2 {ops : Array Oper} {rest : List Oper} {o : Oper} {a : Act} {Q : Exit → Act → World → Prop} (hgd : o.guard = none) (s x : Operand) (t tx : TypeId)
    (ho : o.op = .call { callee := .builtin .append, args := #[s, x], argTypes := #[t, tx] })
    (base : Nat) (e : TypeId) (i : TypeInfo) (z : Value) (size bytes : Nat) (ht : P.underlying t = some (.slice e)) (hi : P.info? e = some i) (hz : i.zero = some z)
    (hsize : i.size = size) (hby : i.bytes = bytes) (hzs : z.cells.size = size)
    (v : Value) (n : Nat) (xs : List Value) (hv : a.eval s = v) (hown : w.ownsRow base e size v n xs)
    (xv : Value) (m : Nat) (news : List Value) (hx : a.eval x = xv) (hs : Src P size tx xv m news w)
    (h63 : n + m ≤ maxLen) (hbytes : (n + m) * bytes ≤ 140737488355328) (hbase : base ≤ w.heap.size)
    (h : ∀ v' w', w'.ownsRow base e size v' (n + m) (xs ++ news) → w.grownBy w' v.ownBlock → (∀ g, v'.ownBlock = some g → v.ownBlock = some g ∨ g = w.heap.size) → wpList P ops Q rest (a.put o.dst v') w') : wpList P ops Q (o :: rest) a w := by
  refine wpList_plain hgd fun K hK => ?_
  obtain ⟨v', w', hr, h2, h3, h4⟩ := run_append_own_src2 (P := P) w base t tx o.type e i z size bytes ht hi hz hsize hby hzs v n xs hown xv m news hs h63 hbytes hbase
  unfold Oper.wp execOp
  simp only [ho, resolve, invoke, builtin, Sem.run_bind, Sem.run_pure, Result.andThen_ok, List.map_toArray, List.map_cons, List.map_nil, hv, hx, hr]
  exact hK _ _ (h v' w' h2 h3 h4)
end
end Go.Proofs.Ytfkchnjbbbhmjab
namespace Go.Proofs.Ytfkchnjbbbhmjab
open Go.RowKit
def v8 (zs : List Int) : List Value := zs.map (Value.int .u8)
@[simp] theorem v8_length (zs : List Int) : (v8 zs).length = zs.length := by simp [v8]
theorem v8_one (xs : List Int) : ∀ v ∈ v8 xs, v.oneCell' = true := by
  intro v hv; obtain ⟨x, _, rfl⟩ := List.mem_map.1 hv; rfl
theorem get8 {w : World} {b o : Nat} {xs : List Int} (h : w.rangeAt b o (v8 xs)) {i : Nat} (hi : i < xs.length) : w.cell? ⟨b, o + i, none⟩ = some (.int .u8 (xs.getD i 0)) := by
  refine h i _ ?_
  simp [v8, List.getElem?_eq_getElem hi]
theorem range_set {w : World} {b o : Nat} {cs : List Value} (h : w.rangeAt b o cs) (i : Nat) (v : Value) : (w.setCell ⟨b, o + i, none⟩ v).rangeAt b o (cs.set i v) := by
  intro j u hu
  rw [List.getElem?_set] at hu
  by_cases e : i = j
  · subst e
    rw [if_pos rfl] at hu
    by_cases hi : i < cs.length
    · rw [if_pos hi] at hu
      simp only [Option.some.injEq] at hu
      subst hu
      exact World.cell?_setCell_same _ _ _ (h i _ (List.getElem?_eq_getElem hi))
    · rw [if_neg hi] at hu; cases hu
  · rw [if_neg e] at hu
    rw [World.cell?_setCell_other _ _ _ _ (fun q => e (by injection q with _ q2 _; omega))]
    exact h j u hu
theorem range_other {w : World} {b o : Nat} {cs : List Value} (h : w.rangeAt b o cs) (p : Addr) (v : Value) (hp : p.block = b → p.off < o ∨ o + cs.length ≤ p.off) : (w.setCell p v).rangeAt b o cs := by
  intro j u hu
  have hj : j < cs.length := (List.getElem?_eq_some_iff.1 hu).1
  rw [World.cell?_setCell_other _ _ _ _ (by rintro rfl; have := hp rfl; simp at this; omega)]
  exact h j u hu
theorem range_below {w w' : World} {b o n : Nat} {cs : List Value} (h : w.rangeAt b o cs) (hb : Below n w w') (hn : b < n) : w'.rangeAt b o cs :=
  fun j u hu => (hb.cell (p := ⟨b, o + j, none⟩) hn).trans (h j u hu)
theorem there_below {w w' : World} {b o n m : Nat} (h : w.there b o m) (hb : Below n w w') (hn : b < n) : w'.there b o m :=
  fun j hj => ⟨by rw [hb.cell (p := ⟨b, o + j, none⟩) hn]; exact (h j hj).1, by rw [hb.frozen (p := ⟨b, o + j, none⟩) hn]; exact (h j hj).2⟩
theorem there_set {w : World} {b o n : Nat} (h : w.there b o n) (p : Addr) (v : Value) : (w.setCell p v).there b o n := by
  intro j hj
  obtain ⟨h1, h2⟩ := h j hj
  refine ⟨?_, by rw [World.frozen?_setCell]; exact h2⟩
  obtain ⟨u, hu⟩ := Option.isSome_iff_exists.1 h1
  by_cases e : p = ⟨b, o + j, none⟩
  · subst e; rw [World.cell?_setCell_same _ _ _ hu]; rfl
  · rw [World.cell?_setCell_other _ _ _ _ e, hu]; rfl
theorem there_part {w : World} {b o n : Nat} (h : w.there b o n) (i m : Nat) (hm : i + m ≤ n) : w.there b (o + i) m := fun j hj => by
  have := h (i + j) (by omega); rwa [← Nat.add_assoc] at this
theorem range_part {w : World} {b o : Nat} {cs ds es : List Value} (h : w.rangeAt b o (cs ++ ds ++ es)) : w.rangeAt b (o + cs.length) ds := fun j v hv => by
  have hj : j < ds.length := (List.getElem?_eq_some_iff.1 hv).1
  have := h (cs.length + j) v (by rw [List.append_assoc, List.getElem?_append_right (by omega), List.getElem?_append_left (by omega), Nat.add_sub_cancel_left]; exact hv)
  rwa [← Nat.add_assoc] at this
theorem range_join {w : World} {b o : Nat} {cs ds : List Value} (h : w.rangeAt b o cs) (k : w.rangeAt b (o + cs.length) ds) : w.rangeAt b o (cs ++ ds) := fun j v hv => by
  by_cases hj : j < cs.length
  · rw [List.getElem?_append_left hj] at hv; exact h j v hv
  · rw [List.getElem?_append_right (by omega)] at hv
    have := k _ v hv
    rwa [show o + cs.length + (j - cs.length) = o + j by omega] at this
theorem range_left {w : World} {b o : Nat} {cs ds : List Value} (h : w.rangeAt b o (cs ++ ds)) : w.rangeAt b o cs := fun j v hv => by
  have hj : j < cs.length := (List.getElem?_eq_some_iff.1 hv).1
  exact h j v (by rw [List.getElem?_append_left hj]; exact hv)
theorem range_right {w : World} {b o : Nat} {cs ds : List Value} (h : w.rangeAt b o (cs ++ ds)) : w.rangeAt b (o + cs.length) ds := fun j v hv => by
  have := h (cs.length + j) v (by rw [List.getElem?_append_right (by omega), Nat.add_sub_cancel_left]; exact hv)
  rwa [← Nat.add_assoc] at this
theorem range_new (w : World) (arr : Array Value) (t : TypeId) : (w.alloc (.cells arr t)).rangeAt w.heap.size 0 arr.toList := fun j v hv => by
  rw [World.cell?_alloc_at _ _ _ _ rfl, Nat.zero_add]
  simpa using hv
theorem there_new (w : World) (arr : Array Value) (t : TypeId) : (w.alloc (.cells arr t)).there w.heap.size 0 arr.size := fun j hj => by
  refine ⟨?_, World.frozen?_alloc_at _ _ _ _ rfl⟩
  rw [World.cell?_alloc_at _ _ _ _ rfl, Nat.zero_add]
  simp [hj]
theorem v8_set (xs : List Int) (i : Nat) (x : Int) : (v8 xs).set i (.int .u8 x) = v8 (xs.set i x) := by
  unfold v8; rw [List.map_set]
theorem below_sets {B b : Nat} {a : World} (hb : B ≤ b) : ∀ (vs : List Value) (o : Nat) (w : World), Below B a w → Below B a (w.setCells b o vs)
  | [], _, _, h => h
  | v :: r, o, _, h => below_sets hb r (o + 1) _ (h.setCell (p := ⟨b, o, none⟩) hb v)
theorem size_sets (b : Nat) : ∀ (vs : List Value) (o : Nat) (w : World), (w.setCells b o vs).heap.size = w.heap.size
  | [], _, _ => rfl
  | v :: r, o, _ => by rw [World.setCells, size_sets b r]; simp
/-- a new array, laid and filled -/
theorem fresh_store (w1 : World) (arr : Array Value) (t : TypeId) (cs : List Value) (h : cs.length = arr.size) :
    ((w1.alloc (.cells arr t)).setCells w1.heap.size 0 cs).rangeAt w1.heap.size 0 cs ∧ Below w1.heap.size w1 ((w1.alloc (.cells arr t)).setCells w1.heap.size 0 cs) ∧
    ((w1.alloc (.cells arr t)).setCells w1.heap.size 0 cs).heap.size = w1.heap.size + 1 ∧ ((w1.alloc (.cells arr t)).setCells w1.heap.size 0 cs).there w1.heap.size 0 arr.size :=
  ⟨World.rangeAt_setCells_same _ _ _ _ (by rw [h]; exact there_new w1 arr t), below_sets (Nat.le_refl _) _ _ _ ((Below.refl _ _).alloc (Nat.le_refl _) _), by rw [size_sets]; simp, World.there_setCells (there_new w1 arr t) _ _ _⟩
theorem run_size {P : Program} {e : TypeId} {n : Nat} (h : (P.info? e).map (·.size) = some n) (w : World) : (sizeOf e).run P w = .ok n w := by
  cases hq : P.info? e with
  | none => simp [hq] at h
  | some i => simp [hq] at h; simp [sizeOf, typeInfo, hq, h]
/-- an array's part from l on -/
theorem slice_l {P : Program} {t e : TypeId} {n : Nat} (ht : P.underlying t = some (.array n e)) (hs : (P.info? e).map (·.size) = some 1) (b off l : Nat) (i : Int) (hi : i = (l : Int)) (hl : l < n) (w : World) :
    (Instr.sliceAt t (.pointer (some ⟨b, off, none⟩)) (some (.int .i64 i)) none none).run P w = .ok (.slice (some ⟨b, off + l, none⟩) (n - l) (n - l)) w := by
  subst hi
  have h1 : P.arrayLen t = n := by simp [Program.arrayLen, ht]
  have h2 : P.elem t = e := by simp [Program.elem, ht]
  rw [run_sliceAt_array_l w t ⟨b, off, none⟩ (by rw [h1, h2, ht]) .i64 l (by omega) (by rw [h1]; omega), h1, h2, run_size hs]
  simp only [slicedAt, Result.andThen_ok, Int.toNat_natCast, Nat.mul_one]
  rw [if_neg (by omega), Addr.add_mid]
theorem slice_h {P : Program} {t e : TypeId} {n : Nat} (ht : P.underlying t = some (.array n e)) (hs : (P.info? e).map (·.size) = some 1) (b off h : Nat) (i : Int) (hi : i = (h : Int)) (hl : h ≤ n) (hn : 0 < n) (w : World) :
    (Instr.sliceAt t (.pointer (some ⟨b, off, none⟩)) none (some (.int .i64 i)) none).run P w = .ok (.slice (some ⟨b, off, none⟩) h n) w := by
  subst hi
  have h1 : P.arrayLen t = n := by simp [Program.arrayLen, ht]
  have h2 : P.elem t = e := by simp [Program.elem, ht]
  rw [run_sliceAt_array_h w t ⟨b, off, none⟩ (by rw [h1, h2, ht]) .i64 h (by omega) (by rw [h1]; omega), h1, h2, run_size hs]
  simp only [slicedAt, Result.andThen_ok, Int.toNat_natCast, Nat.zero_mul, Nat.sub_zero]
  rw [if_neg (by omega), Addr.add_mid]; rfl
theorem slice_all {P : Program} {t e : TypeId} {n : Nat} (ht : P.underlying t = some (.array n e)) (hs : (P.info? e).map (·.size) = some 1) (b off : Nat) (hn : 0 < n) (w : World) :
    (Instr.sliceAt t (.pointer (some ⟨b, off, none⟩)) none none none).run P w = .ok (.slice (some ⟨b, off, none⟩) n n) w := by
  have h1 : P.arrayLen t = n := by simp [Program.arrayLen, ht]
  have h2 : P.elem t = e := by simp [Program.elem, ht]
  rw [run_sliceAt_array_all w t ⟨b, off, none⟩ (by rw [h1, h2, ht]), h1, h2, run_size hs]
  simp only [slicedAt, Result.andThen_ok, Nat.zero_mul, Nat.sub_zero]
  rw [if_neg (by omega), Addr.add_mid]; rfl
theorem isz8 : (Try.prog.info? 5).map (·.size) = some 1 := by kernel_rfl
def RowAt (w : World) (a : Option Addr) (zs : List Int) : Prop :=
  zs.length ≤ maxLen ∧ (∀ z ∈ zs, 0 ≤ z ∧ z < 256) ∧ (zs = [] ∨ ∃ b off, a = some ⟨b, off, none⟩ ∧ b < w.heap.size ∧ w.rangeAt b off (v8 zs))
theorem RowAt.below {w w' : World} {a : Option Addr} {zs : List Int} (h : RowAt w a zs) (hb : Below w.heap.size w w') : RowAt w' a zs := by
  refine ⟨h.1, h.2.1, ?_⟩
  rcases h.2.2 with h | ⟨b, off, rfl, h1, h2⟩
  · exact Or.inl h
  · exact Or.inr ⟨b, off, rfl, Nat.lt_of_lt_of_le h1 hb.size, range_below h2 hb h1⟩
def cutA (a : Option Addr) (cap n : Nat) : Option Addr := if cap = n then a else a.map (·.add n)
theorem cutA_ne {a : Option Addr} {R cap n : Nat} (h : ∀ x, a = some x → x.block ≠ R) : ∀ x, cutA a cap n = some x → x.block ≠ R := by
  intro x hx
  unfold cutA at hx
  split at hx
  · exact h x hx
  · cases a with
    | none => simp at hx
    | some y =>
      simp at hx
      subst hx
      have := h y rfl
      unfold Addr.add
      split <;> simpa using this
theorem RowAt.take {w : World} {a : Option Addr} {zs : List Int} (h : RowAt w a zs) (n : Nat) : RowAt w a (zs.take n) := by
  obtain ⟨h1, h2, h3⟩ := h
  refine ⟨by rw [List.length_take]; omega, fun z hz => h2 z (List.mem_of_mem_take hz), ?_⟩
  rcases h3 with rfl | ⟨b, off, rfl, hb, hc⟩
  · left; simp
  · right
    refine ⟨b, off, rfl, hb, ?_⟩
    have e : v8 zs = v8 (zs.take n) ++ v8 (zs.drop n) := by unfold v8; rw [← List.map_append, List.take_append_drop]
    rw [e] at hc
    exact range_left hc
theorem RowAt.drop {w : World} {a : Option Addr} {zs : List Int} (h : RowAt w a zs) (n cap : Nat) (hn : n ≤ zs.length) (hcap : zs.length ≤ cap) : RowAt w (cutA a cap n) (zs.drop n) := by
  obtain ⟨h1, h2, h3⟩ := h
  refine ⟨by rw [List.length_drop]; omega, fun z hz => h2 z (List.mem_of_mem_drop hz), ?_⟩
  by_cases he : n = zs.length
  · left; simp [he]
  · rcases h3 with rfl | ⟨b, off, rfl, hb, hc⟩
    · left; simp
    · right
      refine ⟨b, off + n, ?_, hb, ?_⟩
      · unfold cutA
        rw [if_neg (by omega), Option.map_some, Addr.add_mid]
      · have e : v8 zs = v8 (zs.take n) ++ v8 (zs.drop n) := by unfold v8; rw [← List.map_append, List.take_append_drop]
        rw [e] at hc
        have := range_right hc
        rwa [v8_length, List.length_take_of_le hn] at this
def lenV : Value → Nat
  | .slice _ n _ => n
  | _ => 0
theorem v8_append (a b : List Int) : v8 (a ++ b) = v8 a ++ v8 b := by simp [v8]
theorem info8 : (Try.prog.info? 5).map (fun i => (i.zero, i.size, i.bytes)) = some (some (.int .u8 0), 1, 1) := by kernel_rfl
theorem info_parts {e : TypeId} {z : Value} {s b : Nat} (h : (Try.prog.info? e).map (fun i => (i.zero, i.size, i.bytes)) = some (some z, s, b)) : ∃ i, Try.prog.info? e = some i ∧ i.zero = some z ∧ i.size = s ∧ i.bytes = b := by
  cases hq : Try.prog.info? e with
  | none => rw [hq] at h; cases h
  | some i =>
    rw [hq] at h
    simp only [Option.map_some, Option.some.injEq, Prod.mk.injEq] at h
    exact ⟨i, rfl, h.1, h.2.1, h.2.2⟩
theorem below_grown {B : Nat} {w w1 w2 : World} {e : TypeId} {v : Value} {n : Nat} {xs : List Value} (hb : Below B w w1) (hB : B ≤ w1.heap.size) (ho : w1.ownsRow B e 1 v n xs) (hg : w1.grownBy w2 v.ownBlock) : Below B w w2 :=
  hb.grown hg hB (fun k hk => (ho.lt k hk).1)
theorem owns_below {w w' : World} {B : Nat} {e : TypeId} {v : Value} {n : Nat} {xs : List Value} (h : w.ownsRow B e 1 v n xs) (hb : Below w.heap.size w w') : w'.ownsRow B e 1 v n xs := by
  refine ⟨h.1, ?_⟩
  rcases h.2 with h | ⟨g, cap, cur, hv, hg, hh, r⟩
  · exact .inl h
  · exact .inr ⟨g, cap, cur, hv, hg, by rw [hb.block g (Array.getElem?_eq_some_iff.1 hh).1]; exact hh, r⟩
theorem own_range {w : World} {B : Nat} {e : TypeId} {v : Value} {n : Nat} {xs : List Value} (h : w.ownsRow B e 1 v n xs) :
    (v = .slice none 0 0 ∧ n = 0 ∧ xs = []) ∨ ∃ g cap, v = .slice (some ⟨g, 0, none⟩) n cap ∧ B ≤ g ∧ g < w.heap.size ∧ n ≤ cap ∧ cap ≤ maxLen ∧ w.rangeAt g 0 xs := by
  have hl := h.1
  rcases h.2 with ⟨rfl, h0⟩ | ⟨g, cap, cur, rfl, hb, hg, hn, hcm, hcs, ht⟩
  · left
    refine ⟨rfl, h0, List.eq_nil_of_length_eq_zero (by rw [hl, h0])⟩
  · right
    refine ⟨g, cap, rfl, hb, (Array.getElem?_eq_some_iff.1 hg).1, hn, hcm, fun j u hu => ?_⟩
    have := h.cells (g := g) rfl j u hu
    rwa [Addr.add_mid] at this
theorem own_bytes {w : World} {B : Nat} {v : Value} {zs : List Int} (h : w.ownsRow B 5 1 v zs.length (v8 zs)) (hz : ∀ z ∈ zs, 0 ≤ z ∧ z < 256) (hm : zs.length ≤ maxLen) :
    ∃ a cap, v = .slice a zs.length cap ∧ zs.length ≤ cap ∧ cap ≤ maxLen ∧ RowAt w a zs := by
  rcases own_range h with ⟨rfl, h0, _⟩ | ⟨g, cap, rfl, hb, hg, hn, hcm, hr⟩
  · have : zs = [] := List.eq_nil_of_length_eq_zero h0
    subst this
    exact ⟨none, 0, rfl, by simp, by unfold maxLen; omega, hm, hz, Or.inl rfl⟩
  · exact ⟨_, cap, rfl, hn, hcm, hm, hz, Or.inr ⟨g, 0, rfl, hg, hr⟩⟩
theorem RowAt.src {w : World} {a : Option Addr} {zs : List Int} (h : RowAt w a zs) (cap : Nat) : Src Try.prog 1 34 (.slice a zs.length cap) zs.length (v8 zs) w := by
  cases a with
  | none =>
    have : zs = [] := by
      rcases h.2.2 with q | ⟨b, off, hx, _⟩
      · exact q
      · cases hx
    subst this
    exact Src.ofNil w Try.underlying34 cap
  | some x =>
    refine Src.ofSlice w Try.underlying34 x zs.length cap _ (by simp) (fun j u hu => ?_) (v8_one _)
    rcases h.2.2 with rfl | ⟨b, off, hx, _, hr⟩
    · simp [v8] at hu
    · cases hx
      rw [Addr.add_mid]
      exact hr j u hu
def IsRow (k : IntKind) (w : World) (a : Option Addr) (len cap : Nat) (zs : List Int) : Prop :=
  (a = none ∧ len = 0 ∧ cap = 0 ∧ zs = []) ∨
  ∃ x, a = some x ∧ len ≤ cap ∧ cap ≤ maxLen ∧ zs.length = cap ∧ (∀ i, i < zs.length → w.cell? (x.add i) = some (.int k (zs.getD i 0))) ∧ ∀ n ∈ zs, (Lit.int k n).wf = true
theorem IsRow.cells {k : IntKind} {w : World} {a : Option Addr} {len cap : Nat} {zs : List Int} (h : IsRow k w a len cap zs) :
    len ≤ cap ∧ cap ≤ maxLen ∧ (zs.take len).length = len ∧ (∀ z ∈ zs.take len, (Lit.int k z).wf = true) ∧ (zs.take len = [] ∨ ∃ b off, a = some ⟨b, off, none⟩ ∧ b < w.heap.size ∧ w.rangeAt b off ((zs.take len).map (Value.int k))) := by
  rcases h with ⟨rfl, rfl, rfl, rfl⟩ | ⟨x, rfl, hl, hm, hz, hcell, hwz⟩
  · simp
  · refine ⟨hl, hm, by rw [List.length_take]; omega, fun z hz => hwz z (List.mem_of_mem_take hz), ?_⟩
    by_cases h0 : len = 0
    · left; simp [h0]
    · right
      obtain ⟨b, off, spot⟩ := x
      have hc := hcell 0 (by omega)
      have hspot : spot = none := by simpa [Addr.add] using World.cell?_spot hc
      subst hspot
      refine ⟨b, off, rfl, ?_, fun j v hv => ?_⟩
      · have := World.block_lt_of_cell? w _ hc; simpa [Addr.add] using this
      · have hj : j < (zs.take len).length := by
          have := (List.getElem?_eq_some_iff.1 hv).1
          simpa using this
        rw [List.length_take] at hj
        have hcj := hcell j (by omega)
        rw [Addr.add_mid] at hcj
        rw [hcj, ← hv]
        have hjz : j < zs.length := by omega
        simp only [List.getElem?_map, List.getElem?_take]
        rw [if_pos (by omega), List.getElem?_eq_getElem hjz, List.getD_eq_getElem?_getD, List.getElem?_eq_getElem hjz]
        rfl
theorem IsRow.rowAt {w : World} {a : Option Addr} {len cap : Nat} {zs : List Int} (h : IsRow .u8 w a len cap zs) : ∃ ys : List Int, len = ys.length ∧ len ≤ cap ∧ cap ≤ maxLen ∧ RowAt w a ys := by
  obtain ⟨h1, h2, h3, h4, h5⟩ := h.cells
  refine ⟨zs.take len, h3.symm, h1, h2, by omega, fun z hz => ?_, h5⟩
  have := h4 z hz
  simp [Lit.wf, IntKind.min, IntKind.max, IntKind.signed, IntKind.bits] at this
  omega
def RowI (w : World) (a : Option Addr) (zs : List Int) : Prop :=
  zs.length ≤ maxLen ∧ (∀ z ∈ zs, (Lit.int .i64 z).wf = true) ∧ (zs = [] ∨ ∃ b off, a = some ⟨b, off, none⟩ ∧ b < w.heap.size ∧ w.rangeAt b off (zs.map (Value.int .i64)))
theorem IsRow.rowI {w : World} {a : Option Addr} {len cap : Nat} {zs : List Int} (h : IsRow .i64 w a len cap zs) : ∃ ys : List Int, len = ys.length ∧ len ≤ cap ∧ cap ≤ maxLen ∧ RowI w a ys := by
  obtain ⟨h1, h2, h3, h4, h5⟩ := h.cells
  exact ⟨zs.take len, h3.symm, h1, h2, by omega, h4, h5⟩

end Go.Proofs.Ytfkchnjbbbhmjab
namespace Go.Proofs.Ytfkchnjbbbhmjab
open Go Go.RowKit
def Off (F : Nat → Prop) (w w' : World) : Prop := Below 0 w w' ∧ ∀ b, b < w.heap.size → ¬ F b → w'.heap[b]? = w.heap[b]?
theorem Off.refl (F : Nat → Prop) (w : World) : Off F w w := ⟨Below.refl _ _, fun _ _ _ => rfl⟩
theorem Off.size {F : Nat → Prop} {w w' : World} (h : Off F w w') : w.heap.size ≤ w'.heap.size := h.1.size
theorem Off.trans {F G : Nat → Prop} {w w1 w2 : World} (h : Off F w w1) (k : Off G w1 w2) (hG : ∀ b, b < w.heap.size → G b → F b) : Off F w w2 :=
  ⟨h.1.trans k.1, fun b hb hf => (k.2 b (Nat.lt_of_lt_of_le hb h.size) (fun hg => hf (hG b hb hg))).trans (h.2 b hb hf)⟩
theorem Off.mono {F G : Nat → Prop} {w w1 : World} (h : Off F w w1) (hG : ∀ b, b < w.heap.size → F b → G b) : Off G w w1 :=
  ⟨h.1, fun b hb hg => h.2 b hb (fun hf => hg (hG b hb hf))⟩
theorem Off.of_below {F : Nat → Prop} {w w' : World} (h : Below w.heap.size w w') : Off F w w' := ⟨h.mono (Nat.zero_le _), fun b hb _ => h.block b hb⟩
theorem Off.of_grown {F : Nat → Prop} {w w' : World} {row : Option Nat} (h : w.grownBy w' row) (hF : ∀ k, row = some k → F k) : Off F w w' :=
  ⟨⟨h.os, h.tape, h.output, h.size, fun k hk => absurd hk (Nat.not_lt_zero k)⟩, fun b hb hf => h.block b hb (fun e => hf (hF b e.symm))⟩
theorem Off.of_setCell {F : Nat → Prop} (w : World) (p : Addr) (u : Value) (hF : F p.block) : Off F w (w.setCell p u) :=
  ⟨⟨rfl, rfl, rfl, by simp [World.setCell], fun k hk => absurd hk (Nat.not_lt_zero k)⟩, fun b _ hf => Below.heap_setCell _ _ _ _ (fun e => hf (e ▸ hF))⟩
theorem Off.below {F : Nat → Prop} {w w' : World} (h : Off F w w') {n : Nat} (hn : n ≤ w.heap.size) (hF : ∀ b, b < n → ¬ F b) : Below n w w' :=
  ⟨h.1.os, h.1.tape, h.1.output, h.1.size, fun k hk => h.2 k (Nat.lt_of_lt_of_le hk hn) (hF k hk)⟩
theorem Off.drew {F : Nat → Prop} {w w' : World} (h : Off F w w') : Off F w w'.drew := ⟨h.1.drew, fun b hb hf => h.2 b hb hf⟩
theorem Off.below_r {F : Nat → Prop} {w w1 w2 : World} (h : Off F w w1) (k : Below w1.heap.size w1 w2) : Off F w w2 :=
  h.trans (Off.of_below (F := fun _ => False) k) (fun _ _ hx => hx.elim)
/-- what a block holds stays -/
theorem range_at {w w' : World} {b o : Nat} {cs : List Value} (h : w.rangeAt b o cs) (hb : w'.heap[b]? = w.heap[b]?) : w'.rangeAt b o cs := fun j v hv => by
  have := h j v hv
  rw [← this]
  simp [World.cell?, hb]
theorem owns_at {w w' : World} {base : Nat} {e : TypeId} {size : Nat} {v : Value} {n : Nat} {xs : List Value} (h : w.ownsRow base e size v n xs) (hb : ∀ g, v.ownBlock = some g → w'.heap[g]? = w.heap[g]?) : w'.ownsRow base e size v n xs := by
  refine ⟨h.1, ?_⟩
  rcases h.2 with h1 | ⟨g, cap, cur, rfl, h2, h3, h4⟩
  · exact .inl h1
  · exact .inr ⟨g, cap, cur, rfl, h2, by rw [hb g rfl]; exact h3, h4⟩
theorem owns_lt {w : World} {base : Nat} {e : TypeId} {size : Nat} {v : Value} {n : Nat} {xs : List Value} (h : w.ownsRow base e size v n xs) {g : Nat} (hg : v.ownBlock = some g) : g < w.heap.size := by
  rcases h.2 with ⟨rfl, _⟩ | ⟨g', cap, cur, rfl, h2, h3, h4⟩
  · simp [Value.ownBlock] at hg
  · simp [Value.ownBlock] at hg
    subst hg
    exact (Array.getElem?_eq_some_iff.1 h3).1
end Go.Proofs.Ytfkchnjbbbhmjab
namespace Go.Proofs.Ytfkchnjbbbhmjab
open Go Go.RowKit
section
variable {P : Program} {ops : Array Oper} {Q : Exit → Act → World → Prop}
def HeldS (P : Program) (ops : Array Oper) (Q : Exit → Act → World → Prop) (S : World → Prop) (fuel : Nat) (listed : Array Bool) (a : Act) (w : World) : Prop :=
  wpAnyH P .any ops (NoPanic Q) S fuel listed a w
theorem hs_begin {id : Nat} {S : World → Prop} {a : Act} {w : World} (n : Nat) (hn : ops.size = n) (hm : P.follows .mixedOrders = true) (h : HeldS P ops Q S n (Array.replicate n false) a w.drew) : (Code.region id ops true).wp P Q a w := by
  subst hn
  exact wp_region_noPanic (wp_region_held hm h)
theorem hs_take {i : Nat} {S : World → Prop} {oi : Oper} {d : Option Nat} {v : Value} {fuel : Nat} {listed : Array Bool} {a : Act} {w : World} (hi : ops[i]? = some oi)
    (hs : Region.noSelect ops = true) (hf : Region.free .any ops listed i = true) (hr : (Region.ready .any ops listed).contains i = true)
    (hw : Region.wanted oi (yielded ops a.tmps) = true) (hy : ∀ w', S w' → (execOp a.eval oi).run P w' = .ok (.value v) w') (hS : S w) (hdst : oi.dst = d)
    (h : HeldS P ops Q S fuel (listed.setIfInBounds i true) (a.put d v) w) : HeldS P ops Q S (fuel + 1) listed a w := by
  subst hdst
  exact wpAnyH_take hi hs hf hr (fun _ _ _ h => h) (Or.inl ⟨hw, hy⟩) hS h
theorem hs_skip {i : Nat} {S : World → Prop} {oi : Oper} {d : Option Nat} {fuel : Nat} {listed : Array Bool} {a : Act} {w : World} (hi : ops[i]? = some oi)
    (hs : Region.noSelect ops = true) (hf : Region.free .any ops listed i = true) (hr : (Region.ready .any ops listed).contains i = true)
    (hw : Region.wanted oi (yielded ops a.tmps) = false) (hS : S w) (hdst : oi.dst = d)
    (h : HeldS P ops Q S fuel (listed.setIfInBounds i true) (a.put d undef) w) : HeldS P ops Q S (fuel + 1) listed a w := by
  subst hdst
  exact wpAnyH_take hi hs hf hr (fun _ _ _ h => h) (Or.inr ⟨hw, rfl⟩) hS h
theorem hs_call {i : Nat} {S : World → Prop} {oi : Oper} {d : Option Nat} {f : FuncId} {args : Array Value} {fuel : Nat} {listed : Array Bool} {a : Act} {w : World} (hi : ops[i]? = some oi)
    (hr : Region.ready .any ops listed = [i]) (hw : Region.wanted oi (yielded ops a.tmps) = true) (hy : (execOp a.eval oi).run P w = .ok (.enter f args) w) (hdst : oi.dst = d)
    (h : Calls P f args w fun e w' => ∃ v, e = .returned v ∧ S w' ∧ HeldS P ops Q S fuel (listed.setIfInBounds i true) (a.put d v) w') : HeldS P ops Q S (fuel + 1) listed a w := by
  subst hdst
  refine wpAnyH_all hr (by simp) ?_
  intro j hj
  obtain rfl : j = i := by simpa using hj
  unfold wpOp
  simp only [hi, hw, if_true]
  left
  unfold Oper.wp
  rw [hy]
  refine h.mono ?_
  rintro e w' ⟨v, rfl, hb, hk⟩
  exact ⟨hb, hk⟩
/-- an operation that comes up alone and makes memory of its own -/
theorem hs_run {i : Nat} {S : World → Prop} {oi : Oper} {d : Option Nat} {v : Value} {fuel : Nat} {listed : Array Bool} {a : Act} {w w' : World} (hi : ops[i]? = some oi)
    (hr : Region.ready .any ops listed = [i]) (hw : Region.wanted oi (yielded ops a.tmps) = true) (hy : (execOp a.eval oi).run P w = .ok (.value v) w') (hdst : oi.dst = d)
    (hS : S w') (h : HeldS P ops Q S fuel (listed.setIfInBounds i true) (a.put d v) w') : HeldS P ops Q S (fuel + 1) listed a w := by
  subst hdst
  refine wpAnyH_all hr (by simp) ?_
  intro j hj
  obtain rfl : j = i := by simpa using hj
  unfold wpOp
  simp only [hi, hw, if_true]
  left
  unfold Oper.wp
  rw [hy]
  exact ⟨hS, h⟩
/-- a store that comes up alone -/
theorem hs_store {i : Nat} {S : World → Prop} {oi : Oper} {fuel : Nat} {listed : Array Bool} {a : Act} {w w' : World} (hi : ops[i]? = some oi)
    (hr : Region.ready .any ops listed = [i]) (hw : Region.wanted oi (yielded ops a.tmps) = true) (hy : (execOp a.eval oi).run P w = .ok .skip w') (hdst : oi.dst = none)
    (hS : S w') (h : HeldS P ops Q S fuel (listed.setIfInBounds i true) a w') : HeldS P ops Q S (fuel + 1) listed a w := by
  refine wpAnyH_all hr (by simp) ?_
  intro j hj
  obtain rfl : j = i := by simpa using hj
  unfold wpOp
  simp only [hi, hw, if_true]
  left
  unfold Oper.wp
  rw [hy]
  refine ⟨hS, ?_⟩
  rw [hdst]
  exact h
theorem hs_done {S : World → Prop} {fuel : Nat} {listed : Array Bool} {a : Act} {w : World} (hr : Region.ready .any ops listed = []) (h : Q .normal a w) : HeldS P ops Q S fuel listed a w :=
  wpAnyH_done hr (NoPanic.normal h) fuel
end
end Go.Proofs.Ytfkchnjbbbhmjab
