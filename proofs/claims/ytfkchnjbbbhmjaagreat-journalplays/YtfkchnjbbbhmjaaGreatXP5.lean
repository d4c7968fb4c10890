/- crc24.Next, Sum, Fits: contracts over any slice of bytes.; The document's answer of layer 2 by its own text: Step, Next, Sum of raddleref02.; one block was written: what stays; what tally's texts lean on; math/bits.Len64, by its contract.; Plain mathematics of numbers as bytes: how many bytes a number has, its digits to the base 256, the highest first, and back. Imports nothing of the translation.; tally.width and Size.; tally.roomBehind and Put.; tally.PutText.; The document's own Put, PutText, Size of layer 1.; A reader: its block, Err, left, take, fail, value.; The place a reader is at: number.; A reader reads a number: Num.; slices.Clone over bytes, and Read.; journal.Frame, and the document's; A reader reads a text: next, Text.; What was read, put again; Left. -/
import Derived.Test.YtfkchnjbbbhmjaaGreatXP4
import Derived.Test.YtfkchnjbbbhmjaaGreatXP2
import Derived.Lib.SlBytesConst
import Derived.WalkLawsBesides
import Derived.SliceStrings
import Derived.Lib.BitFns
import Derived.WalkKit
import Derived.WalkSpells
import Derived.Lib.Small
import Derived.Lib.Walk
namespace Go.Proofs.YtfkchnjbbbhmjaaGreat.Cr
open Go.RowKit
open Crc
set_option maxRecDepth 100000 in
set_option maxHeartbeats 2000000 in
theorem next_row (sum : Int) (b off cap : Nat) (zs : List Int) (w : World) (hb : b < w.heap.size) (hm : zs.length ≤ maxLen)
   (hz : ∀ z ∈ zs, 0 ≤ z ∧ z < 256) (hc : ∀ j, j < zs.length → w.cell? ⟨b, off + j, none⟩ = some (.int .u8 (zs.getD j 0))) :
   Calls Tryz.prog 86 #[.int .i64 sum, .slice (some ⟨b, off, none⟩) zs.length cap] w fun e w' => e = .returned (.int .i64 ((crc (BitVec.ofInt 24 sum) zs).toNat : Int)) ∧ Below w.heap.size w w' := by
  unfold maxLen at hm
  have e0 := low_bits sum
  generalize BitVec.ofInt 24 sum = x0 at e0 ⊢
  go_enter Tryz.func86, Tryz.ntmps86
  go_wp2_with fail
  refine (stepsFrom_any _ _ x0 rfl).mono ?_
  rintro e w1 ⟨rfl, hbx, hw1⟩
  unfold fv
  go_wp2
  go_loopw [5, 15] (fun n i wr => ∃ k : Nat, k ≤ zs.length ∧ i = .int .i64 k ∧ n = .int .i64 ((crc x0 (zs.take k)).toNat : Int) ∧ Boxed w.heap.size (crc x0 (zs.take k)) wr ∧ Below w.heap.size w wr) (fun _ i _ => zs.length - (intOf i).toNat)
  case atStart => exact ⟨0, by omega, rfl, rfl, hbx, hw1⟩
  case round =>
    obtain ⟨k, hk, rfl, rfl, hbox, hbel⟩ := hrel
    by_cases hlt : k < zs.length
    · obtain ⟨z, hcx, hz0, hz1, E2⟩ : ∃ z, wr.cell? ⟨b, off + k, none⟩ = some (.int .u8 z) ∧ 0 ≤ z ∧ z < 256 ∧ Hid (crc x0 (zs.take (k + 1)) = stepB (crc x0 (zs.take k)) z) := by
        refine ⟨zs.getD k 0, (hbel.cell (by exact hb)).trans (hc k hlt), ?_, ?_, crc_take x0 zs k hlt⟩ <;> rw [List.getD_eq_getElem?_getD, List.getElem?_eq_getElem hlt]
        · exact (hz _ (List.getElem_mem hlt)).1
        · exact (hz _ (List.getElem_mem hlt)).2
      obtain ⟨hn, hf, ht, hs⟩ := hbox
      go_wp2_with fail
      refine (clos w.heap.size (w.heap.size + 1) (crc x0 (zs.take k)) z _ hz0 hz1 (by omega) hn hf ht).mono ?_
      rintro e w2 ⟨rfl, hn2, hf2, ht2, hb2⟩
      have hbox2 : Boxed w.heap.size (crc x0 (zs.take (k + 1))) w2 := by
        have := hb2.size
        rw [E2.out]; exact ⟨hn2, hf2, ht2, by omega⟩
      clear ht ht2
      go_wp2
      go_roundw
      case rel =>
        exact ⟨k + 1, by omega, by go_num, by rw [E2.out], hbox2, hbel.trans hb2⟩
      case measure => simp [intOf]; omega
    · obtain rfl : k = zs.length := by omega
      go_wp2
      go_ret
      rw [List.take_length]
      exact ⟨rfl, hbel⟩

/-- a slice of bytes whose elements are zs (nil, empty or over memory that lies there) -/
def RowAt (w : World) (a : Option Addr) (zs : List Int) : Prop :=
  zs.length ≤ maxLen ∧ (∀ z ∈ zs, 0 ≤ z ∧ z < 256) ∧ (zs = [] ∨ ∃ b off, a = some ⟨b, off, none⟩ ∧ b < w.heap.size ∧ ∀ j, j < zs.length → w.cell? ⟨b, off + j, none⟩ = some (.int .u8 (zs.getD j 0)))

theorem RowAt.below {w w' : World} {a : Option Addr} {zs : List Int} (h : RowAt w a zs) (hb : Below w.heap.size w w') : RowAt w' a zs := by
  refine ⟨h.1, h.2.1, ?_⟩
  rcases h.2.2 with h | ⟨b, off, rfl, h1, h2⟩
  · exact Or.inl h
  · refine Or.inr ⟨b, off, rfl, Nat.lt_of_lt_of_le h1 hb.size, fun j hj => (hb.cell (p := ⟨b, off + j, none⟩) h1).trans (h2 j hj)⟩

set_option maxRecDepth 100000 in
set_option maxHeartbeats 2000000 in
theorem next_none (sum : Int) (a : Option Addr) (cap : Nat) (w : World) :
   Calls Tryz.prog 86 #[.int .i64 sum, .slice a 0 cap] w fun e w' => e = .returned (.int .i64 ((BitVec.ofInt 24 sum).toNat : Int)) ∧ Below w.heap.size w w' := by
  have e0 := low_bits sum
  generalize BitVec.ofInt 24 sum = x0 at e0 ⊢
  go_enter Tryz.func86, Tryz.ntmps86
  go_wp2_with fail
  refine (stepsFrom_any _ _ x0 rfl).mono ?_
  rintro e w1 ⟨rfl, hbx, hw1⟩
  unfold fv
  go_wp2
  refine wp_loop_rounds 1 ?_
  rw [rounds_succ]
  go_wp2
  go_ret
  exact ⟨rfl, hw1⟩

theorem next_any (sum : Int) (a : Option Addr) (cap : Nat) (zs : List Int) (w : World) (h : RowAt w a zs) :
   Calls Tryz.prog 86 #[.int .i64 sum, .slice a zs.length cap] w fun e w' => e = .returned (.int .i64 ((crc (BitVec.ofInt 24 sum) zs).toNat : Int)) ∧ Below w.heap.size w w' := by
  obtain ⟨h1, h2, rfl | ⟨b, off, rfl, h3, h4⟩⟩ := h
  · exact next_none sum a cap w
  · exact next_row sum b off cap zs w h3 h1 h2 h4

def start : BitVec 24 := BitVec.ofNat 24 11994318
theorem start_of : BitVec.ofInt 24 11994318 = start := by decide
theorem sum_any (a : Option Addr) (cap : Nat) (zs : List Int) (w : World) (h : RowAt w a zs) :
   Calls Tryz.prog 71 #[.slice a zs.length cap] w fun e w' => e = .returned (.int .i64 ((crc start zs).toNat : Int)) ∧ Below w.heap.size w w' := by
  have c := next_any 11994318 a cap zs w h
  rw [start_of] at c
  go_enter Tryz.func71, Tryz.ntmps71
  go_wp2_with fail
  refine c.mono ?_
  rintro e w1 ⟨rfl, hw1⟩
  go_wp2
  go_ret
  exact ⟨rfl, hw1⟩

set_option maxRecDepth 100000 in
set_option maxHeartbeats 2000000 in
theorem fits_any (a : Option Addr) (cap : Nat) (zs : List Int) (sum : Int) (w : World) (h : RowAt w a zs) :
   Calls Tryz.prog 109 #[.slice a zs.length cap, .int .i64 sum] w fun e w' => e = .returned (.bool (((crc start zs).toNat : Int) == sum)) ∧ Below w.heap.size w w' := by
  go_enter Tryz.func109, Tryz.ntmps109
  go_wp2_with fail
  refine (sum_any a cap zs w h).mono ?_
  rintro e w1 ⟨rfl, hw1⟩
  go_wp2
  go_ret
  exact ⟨rfl, hw1⟩
end Go.Proofs.YtfkchnjbbbhmjaaGreat.Cr
namespace Go.Proofs.YtfkchnjbbbhmjaaGreat.Cr
namespace Crc
def Tn : Nat → BitVec 24 → BitVec 24
  | 0, y => y
  | k + 1, y => T (Tn k y)
end Crc
open Go.RowKit
open Crc
namespace Crc
theorem T_nat (z : BitVec 24) : ((T z).toNat : Int) = if 16777215 < (z.toNat : Int) * 2 then bits .xor .i64 ((z.toNat : Int) * 2 - 16777215 - 1) 8801531 else (z.toNat : Int) * 2 := by
  have hz := z.isLt
  have hs : (z <<< 1).toNat = 2 * z.toNat % 16777216 := by
    rw [BitVec.toNat_shiftLeft, Nat.shiftLeft_eq]; congr 1; omega
  by_cases h : 16777215 < (z.toNat : Int) * 2
  · rw [if_pos h]
    have hm : z.msb = true := by rw [BitVec.msb_eq_decide]; simp; omega
    have e : (z.toNat : Int) * 2 - 16777215 - 1 = ((2 * z.toNat - 16777216 : Nat) : Int) := by omega
    have e2 : (8801531 : Int) = ((8801531 : Nat) : Int) := rfl
    rw [e, e2, i64_xor _ _ (by omega) (by omega)]
    unfold T
    rw [if_pos hm, BitVec.toNat_xor, hs]
    have : 2 * z.toNat % 16777216 = 2 * z.toNat - 16777216 := by omega
    rw [this]; rfl
  · rw [if_neg h]
    have hm : z.msb = false := by rw [BitVec.msb_eq_decide]; simp; omega
    unfold T
    simp only [hm]
    simp only [Bool.false_eq_true, if_false, BitVec.xor_zero, BitVec.ofNat_eq_ofNat]
    rw [hs]; omega
end Crc
set_option maxRecDepth 100000 in
set_option maxHeartbeats 2000000 in
theorem refStep_any (x : BitVec 24) (c : Int) (w : World) (hc0 : 0 ≤ c) (hc1 : c < 256) :
   Calls Tryz.prog 102 #[.int .i64 (x.toNat : Int), .int .u8 c] w fun e w' => e = .returned (.int .i64 ((stepB x c).toNat : Int)) ∧ w' = w := by
  have hxl := x.isLt
  have e1 := into_bits x c hc0 hc1
  generalize hy : into x c = y at e1
  have HY : Hid (into x c = y) := hy
  clear hy
  have hyl := y.isLt
  go_enter Tryz.func102, Tryz.ntmps102
  go_wp2
  go_loop [0, 5] (fun s i => ∃ k : Nat, k ≤ 8 ∧ i = .int .i64 k ∧ ∃ z, Hid (Tn k y = z) ∧ s = .int .i64 (z.toNat : Int)) (fun _ i => 8 - (intOf i).toNat)
  case atStart => exact ⟨0, by omega, rfl, y, rfl, rfl⟩
  case round =>
    obtain ⟨k, hk, rfl, z, hz, rfl⟩ := hrel
    have hzl := z.isLt
    have HT : Hid (((T z).toNat : Int) = if 16777215 < (z.toNat : Int) * 2 then bits .xor .i64 ((z.toNat : Int) * 2 - 16777215 - 1) 8801531 else (z.toNat : Int) * 2) := T_nat z
    by_cases hlt : k < 8
    · by_cases h2 : 16777215 < (z.toNat : Int) * 2
      · go_wp2
        go_round
        case rel => exact ⟨k + 1, by omega, by go_num, T z, by show Tn (k + 1) y = T z; rw [← hz.out]; rfl, by rw [HT.out, if_pos h2]⟩
        case measure => simp [intOf]; omega
      · go_wp2
        go_round
        case rel => exact ⟨k + 1, by omega, by go_num, T z, by show Tn (k + 1) y = T z; rw [← hz.out]; rfl, by rw [HT.out, if_neg h2]⟩
        case measure => simp [intOf]; omega
    · obtain rfl : k = 8 := by omega
      go_wp2
      go_ret
      have e : stepB x c = z := by
        have := hz.out; have h2 := HY.out; rw [← this, ← h2]; exact rfl
      rw [e]
      exact ⟨rfl, rfl⟩

set_option maxRecDepth 100000 in
set_option maxHeartbeats 2000000 in
theorem refNext_any (sum : Int) (a : Option Addr) (cap : Nat) (zs : List Int) (w : World) (h : RowAt w a zs) :
   Calls Tryz.prog 92 #[.int .i64 sum, .slice a zs.length cap] w fun e w' => e = .returned (.int .i64 ((crc (BitVec.ofInt 24 sum) zs).toNat : Int)) ∧ w' = w := by
  obtain ⟨hm, hz, hrow⟩ := h
  unfold maxLen at hm
  have e0 := low_bits sum
  generalize BitVec.ofInt 24 sum = x0 at e0 ⊢
  go_enter Tryz.func92, Tryz.ntmps92
  go_wp2_with fail
  go_loop [0, 5] (fun s i => ∃ k : Nat, k ≤ zs.length ∧ i = .int .i64 k ∧ s = .int .i64 ((crc x0 (zs.take k)).toNat : Int)) (fun _ i => zs.length - (intOf i).toNat)
  case atStart => exact ⟨0, by omega, rfl, rfl⟩
  case round =>
    obtain ⟨k, hk, rfl, rfl⟩ := hrel
    by_cases hlt : k < zs.length
    · obtain ⟨b, off, rfl, hbb, hc⟩ : ∃ b off, a = some ⟨b, off, none⟩ ∧ b < w.heap.size ∧ ∀ j, j < zs.length → w.cell? ⟨b, off + j, none⟩ = some (.int .u8 (zs.getD j 0)) := by
        rcases hrow with rfl | h
        · simp at hlt
        · exact h
      obtain ⟨z, hcx, hz0, hz1, E2⟩ : ∃ z, w.cell? ⟨b, off + k, none⟩ = some (.int .u8 z) ∧ 0 ≤ z ∧ z < 256 ∧ Hid (crc x0 (zs.take (k + 1)) = stepB (crc x0 (zs.take k)) z) := by
        refine ⟨zs.getD k 0, hc k hlt, ?_, ?_, crc_take x0 zs k hlt⟩ <;> rw [List.getD_eq_getElem?_getD, List.getElem?_eq_getElem hlt]
        · exact (hz _ (List.getElem_mem hlt)).1
        · exact (hz _ (List.getElem_mem hlt)).2
      clear hc hrow
      go_wp2_with fail
      refine (refStep_any (crc x0 (zs.take k)) z _ hz0 hz1).mono ?_
      rintro e w2 ⟨rfl, rfl⟩
      go_wp2
      go_round
      case rel => exact ⟨k + 1, by omega, by go_num, by rw [E2.out]⟩
      case measure => simp [intOf]; omega
    · obtain rfl : k = zs.length := by omega
      go_wp2
      go_ret
      exact ⟨rfl, rfl⟩

theorem refSum_any (a : Option Addr) (cap : Nat) (zs : List Int) (w : World) (h : RowAt w a zs) :
   Calls Tryz.prog 78 #[.slice a zs.length cap] w fun e w' => e = .returned (.int .i64 ((crc start zs).toNat : Int)) ∧ w' = w := by
  have c := refNext_any 11994318 a cap zs w h
  rw [start_of] at c
  go_enter Tryz.func78, Tryz.ntmps78
  go_wp2_with fail
  refine c.mono ?_
  rintro e w1 ⟨rfl, rfl⟩
  go_wp2
  go_ret
  exact ⟨rfl, rfl⟩
end Go.Proofs.YtfkchnjbbbhmjaaGreat.Cr
namespace Go.Proofs.YtfkchnjbbbhmjaaGreat
open Go.RowKit
theorem gb_refl (w : World) (r : Option Nat) : w.grownBy w r := ⟨rfl, rfl, rfl, Nat.le_refl _, fun _ _ _ => rfl⟩
theorem gb_trans {w w1 w2 : World} {r : Option Nat} (h : w.grownBy w1 r) (k : w1.grownBy w2 r) : w.grownBy w2 r :=
  ⟨k.os.trans h.os, k.tape.trans h.tape, k.output.trans h.output, Nat.le_trans h.size k.size, fun i hi hr => (k.block i (Nat.lt_of_lt_of_le hi h.size) hr).trans (h.block i hi hr)⟩
theorem gb_set (w : World) (R j : Nat) (v : Value) : w.grownBy (w.setCell ⟨R, j, none⟩ v) (some R) :=
  ⟨rfl, rfl, rfl, by simp [World.setCell], fun k _ hk => Below.heap_setCell w _ v k (fun e => hk (by rw [e]))⟩
theorem gb_below {w w' : World} (h : Below w.heap.size w w') (r : Option Nat) : w.grownBy w' r := ⟨h.os, h.tape, h.output, h.size, fun k hk _ => h.block k hk⟩
theorem gb_drew {w w' : World} {r : Option Nat} (h : w.grownBy w' r) : w.grownBy w'.drew r := ⟨h.os, h.tape, h.output, h.size, h.block⟩
theorem gb_drewN {w w' : World} {r : Option Nat} (h : w.grownBy w' r) (n : Nat) : w.grownBy (w'.drewN n) r := ⟨h.os, h.tape, h.output, h.size, h.block⟩
theorem range_gb {w w' : World} {R b o : Nat} {cs : List Value} (h : w.rangeAt b o cs) (g : w.grownBy w' (some R)) (hn : b ≠ R) : w'.rangeAt b o cs := fun j v hv => g.cell (h j v hv) (by simpa using hn)
theorem RowAt.gb {w w' : World} {a : Option Addr} {zs : List Int} {R : Nat} (h : RowAt w a zs) (hb : w.grownBy w' (some R)) (hne : zs = [] ∨ ∀ x, a = some x → x.block ≠ R) : RowAt w' a zs := by
  refine ⟨h.1, h.2.1, ?_⟩
  rcases h.2.2 with h | ⟨b, off, rfl, h1, h2⟩
  · exact Or.inl h
  · rcases hne with hne | hne
    · exact Or.inl hne
    · exact Or.inr ⟨b, off, rfl, Nat.lt_of_lt_of_le h1 hb.size, range_gb h2 hb (hne _ rfl)⟩
theorem gb_sets (R : Nat) : ∀ (vs : List Value) (o : Nat) (w : World), w.grownBy (w.setCells R o vs) (some R)
  | [], _, w => gb_refl w _
  | v :: r, o, w => gb_trans (gb_set w R o v) (gb_sets R r (o + 1) _)
theorem RowAt.get {w : World} {a : Option Addr} {zs : List Int} (h : RowAt w a zs) (k : Nat) (hk : k < zs.length) : ∃ b off, a = some ⟨b, off, none⟩ ∧ b < w.heap.size ∧ w.cell? ⟨b, off + k, none⟩ = some (.int .u8 (zs.getD k 0)) ∧ 0 ≤ zs.getD k 0 ∧ zs.getD k 0 < 256 := by
  rcases h.2.2 with rfl | ⟨b, off, rfl, hb, hr⟩
  · simp at hk
  · refine ⟨b, off, rfl, hb, get8 hr hk, ?_⟩
    rw [List.getD_eq_getElem?_getD, List.getElem?_eq_getElem hk]
    exact h.2.1 _ (List.getElem_mem hk)
end Go.Proofs.YtfkchnjbbbhmjaaGreat
namespace Go.Proofs.YtfkchnjbbbhmjaaGreat.Ty
open Go.RowKit
namespace Tal
end Tal
theorem row_str {w : World} {b off cap : Nat} {zs : List Int} (h : w.rangeAt b off (v8 zs)) : (convert 35 9 (.slice (some ⟨b, off, none⟩) zs.length cap)).run Tryz.prog w = .ok (.string (strOf zs)) w := by
  rw [run_convert_bytes_string w 35 9 5 (some ⟨b, off, none⟩) zs.length cap Tryz.underlying35 Tryz.underlying5 Tryz.underlying9]
  have := run_loadCells_list (P := Tryz.prog) w ⟨b, off, none⟩ (v8 zs) (fun j v hv => by rw [Addr.add_mid]; exact h j v hv)
  rw [v8_length] at this
  exact run_bytesToString w ⟨b, off, none⟩ zs.length cap zs this
end Go.Proofs.YtfkchnjbbbhmjaaGreat.Ty
namespace Go.Proofs.YtfkchnjbbbhmjaaGreat.Ty
open Go.RowKit
/-- what is left of x behind s bits, a byte of it at most: the bits of x are s more -/
theorem len_arm (x s : Nat) (y : Int) (hx : x < 2 ^ 63) (hy0 : 0 ≤ y) (hy1 : y ≤ 255) (hy : y.toNat = x / 2 ^ s) (h : s = 0 ∨ 2 ^ s ≤ x) :
    Lib.len8 y = (Lib.bitLen x : Int) - s ∧ (Lib.bitLen x : Int) - s ≤ 8 ∧ 0 ≤ (Lib.bitLen x : Int) - s := by
  have e : Lib.bitLen x = s + Lib.bitLen (x / 2 ^ s) := by
    rcases h with rfl | h
    · simp
    · exact Lib.bitLen_shift s x h (by omega)
  have l := Lib.bitLen_le8' y hy0 hy1
  rw [Lib.len8_of y hy0 hy1, hy]
  rw [hy] at l
  omega
/-- an index into the table of math/bits, however its text lies in the program -/
theorem wpList_index_len8 {P : Program} {w : World} {ops : Array Oper} {rest : List Oper} {o : Oper} {a : Act} {Q : Exit → Act → World → Prop} (hgd : o.guard = none) (t : TypeId) (tbl : ByteArray) (x : Operand)
    (ho : o.op = .index t (.const (.string tbl)) x) (ht : P.underlying t = some .string) (htbl : tbl = Lib.len8tab) (k : IntKind) (i : Int) (hx : a.eval x = .int k i) (h0 : 0 ≤ i) (h1 : i ≤ 255)
    (h : wpList P ops Q rest (a.put o.dst (.int .u8 (Lib.len8 i))) w) : wpList P ops Q (o :: rest) a w := by
  subst htbl
  refine wpList_plain hgd fun K hK => ?_
  have hr := Lib.run_index_len8tab (P := P) w t k i ht h0 h1
  have hc : a.eval (.const (.string Lib.len8tab)) = .string Lib.len8tab := rfl
  unfold Oper.wp execOp
  simp only [ho, Sem.run_bind, hc, hx, hr, Result.andThen_ok, Sem.run_pure]
  exact hK _ _ h
theorem fold_tab (a b c d : List UInt8) (h : ByteArray.mk ((a.append b).append (c.append d)).toArray = Lib.len8tab) : ByteArray.mk ((a.append b).append (c.append d)).toArray = Lib.len8tab := h
set_option maxHeartbeats 4000000 in
set_option maxRecDepth 100000 in
theorem len64_int (x : Int) (w : World) (h0 : 0 ≤ x) (h1 : x ≤ 9223372036854775807) :
    Calls Tryz.prog 103 #[.int .u64 x] w fun e w' => e = .returned (.int .i64 (Lib.bitLen x.toNat)) ∧ w' = w := by
  go_enter Tryz.func103, Tryz.ntmps103
  rw [fold_tab _ _ _ _ (by kernel_rfl)]
  go_wp2_with (refine wpList_index_len8 rfl 9 Lib.len8tab _ rfl Tryz.underlying9 rfl .u8 _ rfl ?_ ?_ ?_; (omega); (omega))
  all_goals (go_ret; refine ⟨congrArg Ending.returned (congrArg (Value.int IntKind.i64) ?_), rfl⟩)
  all_goals first
    | (obtain ⟨e, l, m⟩ := len_arm x.toNat 56 (x / 4294967296 / 65536 / 256) (by omega) (by omega) (by omega) (by omega) (by omega); rw [e]; simp only [wrap64]; omega)
    | (obtain ⟨e, l, m⟩ := len_arm x.toNat 48 (x / 4294967296 / 65536) (by omega) (by omega) (by omega) (by omega) (by omega); rw [e]; simp only [wrap64]; omega)
    | (obtain ⟨e, l, m⟩ := len_arm x.toNat 40 (x / 4294967296 / 256) (by omega) (by omega) (by omega) (by omega) (by omega); rw [e]; simp only [wrap64]; omega)
    | (obtain ⟨e, l, m⟩ := len_arm x.toNat 32 (x / 4294967296) (by omega) (by omega) (by omega) (by omega) (by omega); rw [e]; simp only [wrap64]; omega)
    | (obtain ⟨e, l, m⟩ := len_arm x.toNat 24 (x / 65536 / 256) (by omega) (by omega) (by omega) (by omega) (by omega); rw [e]; simp only [wrap64]; omega)
    | (obtain ⟨e, l, m⟩ := len_arm x.toNat 16 (x / 65536) (by omega) (by omega) (by omega) (by omega) (by omega); rw [e]; simp only [wrap64]; omega)
    | (obtain ⟨e, l, m⟩ := len_arm x.toNat 8 (x / 256) (by omega) (by omega) (by omega) (by omega) (by omega); rw [e]; simp only [wrap64]; omega)
    | (obtain ⟨e, l, m⟩ := len_arm x.toNat 0 (x) (by omega) (by omega) (by omega) (by omega) (by omega); rw [e]; simp only [wrap64]; omega)
end Go.Proofs.YtfkchnjbbbhmjaaGreat.Ty
namespace Go.Proofs.YtfkchnjbbbhmjaaGreat.Ty
namespace Tal
open Go

/-- how many bytes a number has -/
def wid (n : Nat) : Nat := (Lib.bitLen n + 7) / 8
/-- the lowest k digits, the highest of them first -/
def digK : Nat → Nat → List Int
  | 0, _ => []
  | k + 1, n => digK k (n / 256) ++ [((n % 256 : Nat) : Int)]
def digs (n : Nat) : List Int := digK (wid n) n
/-- a number's bytes -/
def numB (n : Nat) : List Int := (wid n : Int) :: digs n
/-- what Put lays behind -/
def putL (n : Int) : List Int := if n < 0 then [] else numB n.toNat

theorem wid_zero : wid 0 = 0 := by decide
theorem wid_succ (n : Nat) (h0 : 0 < n) (h : n < 2 ^ 63) : wid n = wid (n / 256) + 1 := by
  unfold wid
  by_cases h2 : 256 ≤ n
  · rw [Lib.bitLen_shift8 n h2 (by omega)]; omega
  · have e : n / 256 = 0 := by omega
    have h3 := Lib.bitLen_half n (by omega) (by omega)
    have h4 := Lib.bitLen_le8 ⟨n, by omega⟩
    simp only at h4
    rw [e]
    have : Lib.bitLen 0 = 0 := by decide
    rw [this]
    omega
theorem wid_bounds : ∀ (k n : Nat), n < 2 ^ 63 → n < 256 ^ k → wid n ≤ k ∧ n < 256 ^ wid n ∧ (0 < n → 0 < wid n ∧ 256 ^ (wid n - 1) ≤ n)
  | 0, n, _, h => by
    have : n = 0 := by simpa using h
    subst this
    rw [wid_zero]; simp
  | k + 1, n, hn, h => by
    by_cases h0 : n = 0
    · subst h0; rw [wid_zero]; simp
    · have hs := wid_succ n (by omega) hn
      obtain ⟨a, b, c⟩ := wid_bounds k (n / 256) (by omega) (by rw [Nat.pow_succ] at h; omega)
      rw [hs]
      refine ⟨by omega, by rw [Nat.pow_succ]; omega, fun _ => ⟨by omega, ?_⟩⟩
      rw [Nat.add_sub_cancel]
      by_cases h1 : n / 256 = 0
      · rw [h1, wid_zero]; simp; omega
      · obtain ⟨c1, c2⟩ := c (by omega)
        have : wid (n / 256) = wid (n / 256) - 1 + 1 := by omega
        rw [this, Nat.pow_succ]
        omega
theorem wid_le (n : Nat) (h : n < 2 ^ 63) : wid n ≤ 8 := (wid_bounds 8 n h (by omega)).1

theorem digK_length : ∀ k n, (digK k n).length = k
  | 0, _ => rfl
  | k + 1, n => by simp [digK, digK_length k]
theorem digK_byte : ∀ k n, ∀ z ∈ digK k n, 0 ≤ z ∧ z < 256
  | 0, _, z, h => by simp [digK] at h
  | k + 1, n, z, h => by
    simp only [digK, List.mem_append, List.mem_singleton] at h
    rcases h with h | rfl
    · exact digK_byte k _ z h
    · omega
theorem digK_get : ∀ k n i, i < k → (digK k n).getD i 0 = ((n / 256 ^ (k - 1 - i) % 256 : Nat) : Int)
  | 0, _, _, h => by omega
  | k + 1, n, i, h => by
    simp only [digK, List.getD_eq_getElem?_getD]
    by_cases hi : i < k
    · rw [List.getElem?_append_left (by rw [digK_length]; exact hi), ← List.getD_eq_getElem?_getD, digK_get k (n / 256) i hi, Nat.div_div_eq_div_mul]
      have e : k + 1 - 1 - i = (k - 1 - i) + 1 := by omega
      rw [e, Nat.pow_succ, Nat.mul_comm]
    · have e : i = k := by omega
      subst e
      rw [List.getElem?_append_right (by rw [digK_length]; exact Nat.le_refl _), digK_length]
      simp
theorem digs_zero : digs 0 = [] := by unfold digs; rw [wid_zero]; rfl
theorem digs_succ (n : Nat) (h0 : 0 < n) (h : n < 2 ^ 63) : digs n = digs (n / 256) ++ [((n % 256 : Nat) : Int)] := by
  unfold digs
  rw [wid_succ n h0 h]; rfl
theorem digs_length (n : Nat) : (digs n).length = wid n := digK_length _ _
theorem digs_byte (n : Nat) : ∀ z ∈ digs n, 0 ≤ z ∧ z < 256 := digK_byte _ _
theorem putL_byte (n : Int) (h : n < 2 ^ 63) : ∀ z ∈ putL n, 0 ≤ z ∧ z < 256 := by
  intro z hz
  unfold putL at hz
  split at hz
  · simp at hz
  · simp only [numB, List.mem_cons] at hz
    rcases hz with rfl | hz
    · have := wid_le n.toNat (by omega); omega
    · exact digs_byte _ z hz
theorem putL_length (n : Int) (h : n < 2 ^ 63) : (putL n).length ≤ 9 := by
  unfold putL
  split
  · simp
  · simp only [numB, List.length_cons, digs_length]
    have := wid_le n.toNat (by omega); omega

/-- back -/
def val (l : List Int) : Int := l.foldl (fun a d => a * 256 + d) 0
theorem val_snoc (l : List Int) (d : Int) : val (l ++ [d]) = val l * 256 + d := by simp [val, List.foldl_append]
theorem val_digK : ∀ k n, val (digK k n) = ((n % 256 ^ k : Nat) : Int)
  | 0, n => by simp [digK, val, Nat.mod_one]
  | k + 1, n => by
    rw [digK, val_snoc, val_digK k (n / 256), Nat.pow_succ, Nat.mul_comm (256 ^ k) 256, Nat.mod_mul]
    omega
theorem val_digs (n : Nat) (h : n < 2 ^ 63) : val (digs n) = n := by
  unfold digs
  rw [val_digK, Nat.mod_eq_of_lt (wid_bounds 8 n h (by omega)).2.1]
end Tal
end Go.Proofs.YtfkchnjbbbhmjaaGreat.Ty
namespace Go.Proofs.YtfkchnjbbbhmjaaGreat.Ty
open Go.RowKit
open Tal
theorem bitLen_le64 (x : Nat) (h : x < 2 ^ 63) : Lib.bitLen x ≤ 64 := by
  have := wid_le x h; unfold wid at this; omega
set_option maxRecDepth 20000 in
set_option maxHeartbeats 400000 in
theorem width_any (n : Int) (w : World) (h0 : 0 ≤ n) (h1 : n ≤ 9223372036854775807) :
    Calls Tryz.prog 93 #[.int .i64 n] w fun e w' => e = .returned (.int .i64 (wid n.toNat)) ∧ w' = w := by
  have hl := bitLen_le64 n.toNat (by omega)
  have HW : Hid ((wid n.toNat : Int) = ((Lib.bitLen n.toNat : Int) + 7) / 8) := by show _ = _; unfold wid; omega
  go_enter Tryz.func93, Tryz.ntmps93
  go_wp2_with fail
  refine (len64_int n _ h0 h1).mono ?_
  rintro e w1 ⟨rfl, rfl⟩
  go_wp2
  go_ret
  rw [HW.out]
  exact ⟨rfl, rfl⟩
set_option maxRecDepth 20000 in
set_option maxHeartbeats 400000 in
theorem size_any (n : Int) (w : World) (h1 : n ≤ 9223372036854775807) :
    Calls Tryz.prog 85 #[.int .i64 n] w fun e w' => e = .returned (.int .i64 ((putL n).length : Int)) ∧ w' = w := by
  by_cases h0 : n < 0
  · have HP : Hid (putL n = []) := by show _ = _; simp [putL, h0]
    go_enter Tryz.func85, Tryz.ntmps85
    go_wp2
    go_ret
    rw [HP.out]
    exact ⟨rfl, rfl⟩
  · have hw := wid_le n.toNat (by omega)
    have HP : Hid (((putL n).length : Int) = 1 + (wid n.toNat : Int)) := by show _ = _; simp only [putL, if_neg h0, numB, List.length_cons, digs_length]; omega
    go_enter Tryz.func85, Tryz.ntmps85
    go_wp2_with fail
    refine (width_any n _ (by omega) h1).mono ?_
    rintro e w1 ⟨rfl, rfl⟩
    go_wp2
    go_ret
    rw [HP.out]
    exact ⟨rfl, rfl⟩
end Go.Proofs.YtfkchnjbbbhmjaaGreat.Ty
namespace Go.Proofs.YtfkchnjbbbhmjaaGreat.Ty
open Go.RowKit
open Tal
/-- bytes of the call's own, from block B on -/
def Mine (w : World) (B : Nat) (v : Value) (zs : List Int) : Prop := w.ownsRow B 5 1 v zs.length (zs.map (Value.int .u8)) ∧ ∀ z ∈ zs, 0 ≤ z ∧ z < 256
theorem Mine.below {w w' : World} {B : Nat} {v : Value} {zs : List Int} (h : Mine w B v zs) (hb : Below w.heap.size w w') : Mine w' B v zs := by
  refine ⟨⟨h.1.1, ?_⟩, h.2⟩
  rcases h.1.2 with h | ⟨g, cap, cur, hv, hg, hh, r⟩
  · exact .inl h
  · exact .inr ⟨g, cap, cur, hv, hg, by rw [hb.block g (Array.getElem?_eq_some_iff.1 hh).1]; exact hh, r⟩
theorem Mine.rowAt {w : World} {B : Nat} {v : Value} {zs : List Int} (h : Mine w B v zs) (hm : zs.length ≤ maxLen) : ∃ a cap, v = .slice a zs.length cap ∧ zs.length ≤ cap ∧ cap ≤ maxLen ∧ RowAt w a zs :=
  own_bytes h.1 h.2 hm

set_option maxRecDepth 20000 in
set_option maxHeartbeats 800000 in
theorem room_any (a : Option Addr) (cap : Nat) (zs : List Int) (more : Nat) (w : World) (h : RowAt w a zs) (hm : zs.length + more ≤ 1099511627776) :
    Calls Tryz.prog 84 #[.slice a zs.length cap, .int .i64 (more : Int)] w fun e w' => ∃ v, e = .returned v ∧ Mine w' w.heap.size v zs ∧ Below w.heap.size w w' := by
  obtain ⟨i0, hi, hz0, hz1, hz2⟩ := info_parts info8
  go_enter Tryz.func84, Tryz.ntmps84
  go_wp2_with (first
    | refine wpList_make_own _ rfl _ _ 35 rfl w.heap.size 5 i0 (.int .u8 0) 1 Tryz.underlying35 hi hz0 hz1 .i64 .i64 _ (zs.length + more) rfl rfl ?d1 ?d2 ?d3 ?d4 ?_)
  case d1 => omega
  case d2 => rw [hz2]; omega
  case d3 => unfold maxLen; omega
  case d4 => exact Nat.le_refl _
  intro w1 hown hgrow
  have hb1 : Below w.heap.size w w1 := (Below.refl _ _).grown hgrow (Nat.le_refl _) (fun k hk => by cases hk)
  go_wp2_with (at_builtin; refine wpList_append_own_src _ rfl _ _ 35 35 rfl w.heap.size 5 i0 (.int .u8 0) 1 1 Tryz.underlying35 hi hz0 hz1 hz2 rfl _ 0 [] rfl hown (.slice a zs.length cap) zs.length (zs.map (Value.int .u8)) rfl ((h.below hb1).src cap) ?c1 ?c2 ?c3 ?_)
  case c1 => unfold maxLen; omega
  case c2 => omega
  case c3 => exact hb1.size
  intro v' w2 hown2 hgrow2
  have hb2 := below_grown hb1 hb1.size hown hgrow2
  go_wp2
  go_ret
  exact ⟨_, rfl, ⟨by simpa using hown2, h.2.1⟩, hb2⟩

theorem Mine.mk' {w : World} {B m : Nat} {v : Value} {xs : List Value} (L : List Int) (h : w.ownsRow B 5 1 v m xs) (hm : m = L.length) (hx : xs = L.map (Value.int .u8)) (hb : ∀ z ∈ L, 0 ≤ z ∧ z < 256) : Mine w B v L := by
  subst hm; subst hx; exact ⟨h, hb⟩
theorem dig_shift (n : Int) (K k : Nat) (h0 : 0 ≤ n) (hK : wid n.toNat = K) (hk : k < K) : n / 2 ^ (8 * (K - 1 - k)) % 256 = (digs n.toNat).getD k 0 := by
  unfold digs
  rw [hK, digK_get K n.toNat k hk]
  obtain ⟨m, rfl⟩ := Int.eq_ofNat_of_zero_le h0
  simp only [Int.toNat_natCast]
  have e : ((2 : Int) ^ (8 * (K - 1 - k))) = ((256 ^ (K - 1 - k) : Nat) : Int) := by
    rw [Int.natCast_pow, Int.pow_mul]; rfl
  rw [e, Int.natCast_emod, Int.natCast_ediv]
  rfl
theorem b1_src (w : World) (b : Int) : Src Tryz.prog 1 35 (.slice (some ⟨w.heap.size, 0, none⟩) 1 1) 1 [.int .u8 b] (w.alloc (.cells #[.int .u8 b] 5)) := by
  refine Src.ofSlice _ Tryz.underlying35 ⟨w.heap.size, 0, none⟩ 1 1 [.int .u8 b] rfl (fun j u hu => ?_) (fun u hu => ?_)
  · match j, hu with
    | 0, hu =>
      simp at hu; subst hu
      show (w.alloc (.cells #[.int .u8 b] 5)).cell? ⟨w.heap.size, 0, none⟩ = _
      rw [World.cell?_alloc_at _ _ _ _ rfl]; rfl
  · simp at hu; subst hu; rfl

set_option maxRecDepth 20000 in
set_option maxHeartbeats 800000 in
theorem put_any (a : Option Addr) (cap : Nat) (zs : List Int) (n : Int) (w : World) (h : RowAt w a zs) (hm : zs.length ≤ 549755813888) (hn : n ≤ 9223372036854775807) :
    Calls Tryz.prog 79 #[.slice a zs.length cap, .int .i64 n] w fun e w' => ∃ v, e = .returned v ∧ Mine w' w.heap.size v (zs ++ putL n) ∧ Below w.heap.size w w' := by
  obtain ⟨i0, hi, hz0, hz1, hz2⟩ := info_parts info8
  have hpl := putL_length n (by omega)
  by_cases h0 : n < 0
  · have HP : Hid (putL n = []) := by show _ = _; simp [putL, h0]
    go_enter Tryz.func79, Tryz.ntmps79
    go_wp2_with fail
    refine (size_any n _ hn).mono ?_
    rintro e w1 ⟨rfl, rfl⟩
    go_wp2_with fail
    refine (room_any a cap zs _ w1 h (by omega)).mono ?_
    rintro e w2 ⟨v, rfl, hmine, hb⟩
    go_wp2
    go_ret
    rw [HP.out, List.append_nil]
    exact ⟨_, rfl, hmine, hb⟩
  · have hw := wid_le n.toNat (by omega)
    have HP : Hid (putL n = (wid n.toNat : Int) :: digs n.toNat) := by show _ = _; simp [putL, h0, numB]
    go_enter Tryz.func79, Tryz.ntmps79
    go_wp2_with fail
    refine (size_any n _ hn).mono ?_
    rintro e w1 ⟨rfl, rfl⟩
    go_wp2_with fail
    refine (room_any a cap zs _ w1 h (by omega)).mono ?_
    rintro e w2 ⟨v, rfl, hmine, hb⟩
    clear hpl
    go_wp2_with fail
    refine (width_any n _ (by omega) hn).mono ?_
    rintro e w3 ⟨rfl, rfl⟩
    generalize hK : wid n.toNat = K at hw HP
    go_wp2_with (at_builtin; refine wpList_append_own_src _ rfl _ _ 35 35 rfl w1.heap.size 5 i0 (.int .u8 0) 1 1 Tryz.underlying35 hi hz0 hz1 hz2 rfl _ zs.length _ rfl (hmine.1.alloc _) _ 1 _ rfl (b1_src _ _) ?c1 ?c2 ?c3 ?_)
    case c1 => unfold maxLen; omega
    case c2 => omega
    case c3 => have := hb.size; simp; omega
    intro v2 w4 hown2 hgrow2
    have HK : Hid (wid n.toNat = K) := hK
    have hb4 : Below w1.heap.size w1 w4 := below_grown (hb.alloc hb.size _) (by have := hb.size; simp; omega) (hmine.1.alloc (.cells #[.int .u8 (K : Int)] 5)) hgrow2
    have hM4 : Mine w4 w1.heap.size v2 (zs ++ (K : Int) :: (digs n.toNat).take 0) := by
      refine ⟨by simpa using hown2, fun z hz => ?_⟩
      simp only [List.take_zero, List.mem_append, List.mem_singleton] at hz
      rcases hz with hz | rfl
      · exact hmine.2 z hz
      · omega
    clear hown2 hgrow2 hmine hK
    go_wp2_with fail
    go_loopw [5, 23] (fun o i wr => ∃ k : Nat, k ≤ K ∧ i = .int .i64 k ∧ Mine wr w1.heap.size o (zs ++ (K : Int) :: (digs n.toNat).take k) ∧ Below w1.heap.size w1 wr) (fun _ i _ => K - (intOf i).toNat)
    case atStart => exact ⟨0, by omega, rfl, hM4, hb4⟩
    case round =>
      obtain ⟨k, hk, rfl, hmi, hbr⟩ := hrel
      by_cases hlt : k < K
      · go_wp2_with (at_builtin; refine wpList_append_own_src _ rfl _ _ 35 35 rfl w1.heap.size 5 i0 (.int .u8 0) 1 1 Tryz.underlying35 hi hz0 hz1 hz2 rfl _ _ _ rfl (hmi.1.alloc _) _ 1 _ rfl (b1_src _ _) ?c1 ?c2 ?c3 ?_)
        case c1 => simp only [List.length_append, List.length_cons, List.length_take, digs_length]; unfold maxLen; omega
        case c2 => simp only [List.length_append, List.length_cons, List.length_take, digs_length]; omega
        case c3 => have := hbr.size; simp; omega
        intro v5 w5 hown5 hgrow5
        have hb5 : Below w1.heap.size w1 w5 := below_grown (hbr.alloc hbr.size _) (by have := hbr.size; simp; omega) (hmi.1.alloc (.cells #[.int .u8 (n / 2 ^ (8 * (K - 1 - k)) % 256)] 5)) hgrow5
        have hM5 : Mine w5 w1.heap.size v5 (zs ++ (K : Int) :: (digs n.toNat).take (k + 1)) := by
          have hkd : k < (digs n.toNat).length := by rw [digs_length, HK.out]; exact hlt
          have ed := dig_shift n K k h0 HK.out hlt
          have et : (digs n.toNat).take (k + 1) = (digs n.toNat).take k ++ [n / 2 ^ (8 * (K - 1 - k)) % 256] := by
            rw [ed, List.take_succ_eq_append_getElem hkd, List.getD_eq_getElem?_getD, List.getElem?_eq_getElem hkd]; rfl
          refine Mine.mk' _ hown5 ?_ ?_ (fun z hz => ?_)
          · simp only [List.length_append, List.length_cons, List.length_take]; omega
          · rw [et]; simp
          · simp only [List.mem_append, List.mem_cons] at hz
            rcases hz with hz | rfl | hz
            · exact h.2.1 z hz
            · omega
            · exact digs_byte _ z (List.mem_of_mem_take hz)
        clear hown5 hgrow5 hmi
        go_wp2_with fail
        go_roundw
        case rel => exact ⟨k + 1, by omega, by go_num, hM5, hb5⟩
        case measure => simp [intOf]; omega
      · obtain rfl : k = K := by omega
        have e : zs ++ putL n = zs ++ (k : Int) :: (digs n.toNat).take k := by
          rw [HP.out, List.take_of_length_le (by rw [digs_length, HK.out]; exact Nat.le_refl _)]
        go_wp2_with fail
        go_ret
        rw [e]
        exact ⟨_, rfl, hmi, hbr⟩
end Go.Proofs.YtfkchnjbbbhmjaaGreat.Ty
namespace Go.Proofs.YtfkchnjbbbhmjaaGreat.Ty
open Go.RowKit
open Tal
theorem nil_row (w : World) : RowAt w none [] := ⟨by simp, by simp, Or.inl rfl⟩
/-- a string's bytes as numbers -/
def strL (s : ByteArray) : List Int := s.data.toList.map fun b => (b.toNat : Int)
theorem strL_length (s : ByteArray) : (strL s).length = s.size := by unfold strL; rw [List.length_map, Array.length_toList]; rfl
theorem strL_byte (s : ByteArray) : ∀ z ∈ strL s, 0 ≤ z ∧ z < 256 := by
  intro z hz
  obtain ⟨b, _, rfl⟩ := List.mem_map.1 hz
  have := b.toNat_lt
  omega
theorem str_src (s : ByteArray) (w : World) : Src Tryz.prog 1 9 (.string s) s.size ((strL s).map (Value.int .u8)) w := by
  have := Src.ofString w (P := Tryz.prog) Tryz.underlying9 s
  have e : (strL s).map (Value.int .u8) = byteCells s := by unfold strL byteCells; rw [List.map_map]; rfl
  rw [e]; exact this
/-- what PutText lays behind -/
def textL (s : ByteArray) : List Int := putL s.size ++ strL s
set_option maxRecDepth 20000 in
set_option maxHeartbeats 800000 in
theorem putText_any (a : Option Addr) (cap : Nat) (zs : List Int) (s : ByteArray) (w : World) (h : RowAt w a zs) (hm : zs.length ≤ 1099511627) (hs : s.size ≤ 1099511627) :
    Calls Tryz.prog 70 #[.slice a zs.length cap, .string s] w fun e w' => ∃ v, e = .returned v ∧ Mine w' w.heap.size v (zs ++ textL s) ∧ Below w.heap.size w w' := by
  obtain ⟨i0, hi, hz0, hz1, hz2⟩ := info_parts info8
  have hpl := putL_length (s.size : Int) (by omega)
  have hpb := putL_byte (s.size : Int) (by omega)
  have cs := fun w => size_any (s.size : Int) w (by omega)
  have cp := fun w => put_any none 0 [] (s.size : Int) w (nil_row w) (by simp) (by omega)
  rw [List.nil_append] at cp
  have HT : Hid (textL s = putL s.size ++ strL s) := rfl
  have HSL : Hid ((strL s).length = s.size) := strL_length s
  generalize putL (s.size : Int) = ps at *
  go_enter Tryz.func70, Tryz.ntmps70
  go_wp2_with fail
  refine (cs _).mono ?_
  rintro e w1 ⟨rfl, rfl⟩
  have cr := room_any a cap zs (ps.length + s.size) w1 h (by omega)
  have ec : ((ps.length + s.size : Nat) : Int) = (ps.length : Int) + (s.size : Int) := by omega
  rw [ec] at cr
  clear ec
  go_wp2_with fail
  refine cr.mono ?_
  rintro e w2 ⟨v, rfl, hmine, hb⟩
  clear cr cs
  go_wp2_with fail
  refine (cp _).mono ?_
  rintro e w3 ⟨v3, rfl, hm3, hb3⟩
  clear cp
  obtain ⟨a3, cap3, rfl, hc31, hc32, hr3⟩ := hm3.rowAt (by unfold maxLen; omega)
  have hmine3 := hmine.below hb3
  have hb3' : Below w1.heap.size w1 w3 := hb.trans (hb3.mono hb.size)
  go_wp2_with (at_builtin; refine wpList_append_own_src _ rfl _ _ 35 35 rfl w1.heap.size 5 i0 (.int .u8 0) 1 1 Tryz.underlying35 hi hz0 hz1 hz2 rfl _ zs.length _ rfl hmine3.1 _ ps.length _ rfl (hr3.src cap3) ?c1 ?c2 ?c3 ?_)
  case c1 => unfold maxLen; omega
  case c2 => omega
  case c3 => exact hb3'.size
  intro v4 w4 hown4 hgrow4
  have hb4 := below_grown hb3' hb3'.size hmine3.1 hgrow4
  go_wp2_with (at_builtin; refine wpList_append_own_src _ rfl _ _ 35 9 rfl w1.heap.size 5 i0 (.int .u8 0) 1 1 Tryz.underlying35 hi hz0 hz1 hz2 rfl _ (zs.length + ps.length) _ rfl hown4 _ s.size _ rfl (str_src s _) ?e1 ?e2 ?e3 ?_)
  case e1 => unfold maxLen; omega
  case e2 => omega
  case e3 => exact hb4.size
  intro v5 w5 hown5 hgrow5
  have hb5 := below_grown hb4 hb4.size hown4 hgrow5
  have hM : Mine w5 w1.heap.size v5 (zs ++ textL s) := by
    rw [HT.out]
    refine Mine.mk' _ hown5 ?_ ?_ (fun z hz => ?_)
    · simp only [List.length_append, HSL.out]; omega
    · simp [v8]
    · simp only [List.mem_append] at hz
      rcases hz with hz | hz | hz
      · exact h.2.1 z hz
      · exact hpb z hz
      · exact strL_byte s z hz
  clear hown5 hgrow5 hown4 hgrow4
  go_wp2_with fail
  go_ret
  exact ⟨_, rfl, hM, hb5⟩
end Go.Proofs.YtfkchnjbbbhmjaaGreat.Ty
namespace Go.Proofs.YtfkchnjbbbhmjaaGreat.Ty
open Go.RowKit
open Tal
theorem own_one (w : World) (x : Value) (B : Nat) (hB : B ≤ w.heap.size) : (w.alloc (.cells #[x] 5)).ownsRow B 5 1 (.slice (some ⟨w.heap.size, 0, none⟩) 1 1) 1 [x] :=
  ⟨by simp, .inr ⟨w.heap.size, 1, #[x], rfl, hB, heap_alloc_new w _, Nat.le_refl _, by unfold maxLen; omega, by simp, by simp⟩⟩
set_option maxRecDepth 20000 in
set_option maxHeartbeats 800000 in
theorem digits_any (n : Int) (w : World) (h0 : 0 ≤ n) (h1 : n ≤ 9223372036854775807) :
    Calls Tryz.prog 94 #[.int .i64 n] w fun e w' => ∃ v, e = .returned v ∧ Mine w' w.heap.size v (digs n.toNat) ∧ Below w.heap.size w w' := by
  obtain ⟨i0, hi, hz0, hz1, hz2⟩ := info_parts info8
  have hwl := wid_le n.toNat (by omega)
  have HL : Hid ((digs n.toNat).length ≤ 8) := by show _ ≤ _; rw [digs_length]; exact hwl
  clear hwl
  go_enter Tryz.func94, Tryz.ntmps94
  go_wp2_with fail
  go_loopw [0, 3] (fun q o wr => ∃ (m : Int) (os : List Int), 0 ≤ m ∧ m ≤ 9223372036854775807 ∧ q = .int .i64 m ∧ Hid (digs n.toNat = digs m.toNat ++ os) ∧ Mine wr w.heap.size o os ∧ Below w.heap.size w wr) (fun q _ _ => (intOf q).toNat)
  case atStart => exact ⟨n, [], h0, h1, rfl, by show _ = _; simp, ⟨World.ownsRow_nil _ _ _ _, by simp⟩, Below.refl _ _⟩
  case round =>
    obtain ⟨m, os, hm0, hm1, rfl, hd, hmi, hbr⟩ := hrel
    have hol : os.length ≤ 8 := by
      have := congrArg List.length hd.out
      have := HL.out
      rw [List.length_append] at *
      omega
    obtain ⟨a, cap, rfl, _, _, hro⟩ := hmi.rowAt (by unfold maxLen; omega)
    by_cases hlt : 0 < m
    · have hr' := (hro.below ((Below.refl wr.heap.size wr).alloc (Nat.le_refl _) (.cells #[.int .u8 (m % 256)] 5))).src cap
      go_wp2_with (at_builtin; refine wpList_append_own_src _ rfl _ _ 35 35 rfl w.heap.size 5 i0 (.int .u8 0) 1 1 Tryz.underlying35 hi hz0 hz1 hz2 rfl _ 1 _ rfl (own_one wr _ w.heap.size hbr.size) _ os.length _ rfl hr' ?c1 ?c2 ?c3 ?_)
      case c1 => unfold maxLen; omega
      case c2 => omega
      case c3 => have := hbr.size; simp; omega
      intro v1 w1 hown1 hgrow1
      have hb1 : Below w.heap.size w w1 := (hbr.alloc hbr.size _).grown hgrow1 (by have := hbr.size; simp; omega) (fun k hk => by simp [Value.ownBlock] at hk; have := hbr.size; omega)
      have hM1 : Mine w1 w.heap.size v1 ((m % 256) :: os) := by
        refine Mine.mk' _ hown1 (by simp; omega) rfl (fun z hz => ?_)
        simp only [List.mem_cons] at hz
        rcases hz with rfl | hz
        · omega
        · exact hmi.2 z hz
      have HD : Hid (digs n.toNat = digs (m / 256).toNat ++ (m % 256 :: os)) := by
        show _ = _
        have e1 : m.toNat / 256 = (m / 256).toNat := by omega
        have e2 : ((m.toNat % 256 : Nat) : Int) = m % 256 := by omega
        rw [hd.out, digs_succ m.toNat (by omega) (by omega), e1, e2, List.append_assoc]
        rfl
      clear hown1 hgrow1 hr' hmi
      go_wp2_with fail
      go_roundw
      case rel => exact ⟨m / 256, m % 256 :: os, by omega, by omega, rfl, HD, hM1, hb1⟩
      case measure => simp [intOf]; omega
    · obtain rfl : m = 0 := by omega
      have e : Hid (digs n.toNat = os) := by
        have := hd.out
        show _ = _
        rw [this]; show digs 0 ++ os = os; rw [digs_zero]; rfl
      go_wp2_with fail
      go_ret
      rw [e.out]
      exact ⟨_, rfl, hmi, hbr⟩

set_option maxRecDepth 20000 in
set_option maxHeartbeats 800000 in
theorem refPut_any (a : Option Addr) (cap : Nat) (zs : List Int) (n : Int) (w : World) (h : RowAt w a zs) (hm : zs.length ≤ 1099511627) (hn : n ≤ 9223372036854775807) :
    Calls Tryz.prog 80 #[.slice a zs.length cap, .int .i64 n] w fun e w' => ∃ v, e = .returned v ∧ Mine w' w.heap.size v (zs ++ putL n) ∧ Below w.heap.size w w' := by
  obtain ⟨i0, hi, hz0, hz1, hz2⟩ := info_parts info8
  have hsrc := (h.below ((Below.refl w.heap.size w).alloc (Nat.le_refl _) (.cells #[] 5))).src cap
  by_cases h0 : n < 0
  · have HP : Hid (putL n = []) := by show _ = _; simp [putL, h0]
    go_enter Tryz.func80, Tryz.ntmps80
    go_wp2_with (at_builtin; refine wpList_append_own_src _ rfl _ _ 35 35 rfl w.heap.size 5 i0 (.int .u8 0) 1 1 Tryz.underlying35 hi hz0 hz1 hz2 rfl _ 0 [] rfl (World.ownsRow_made w #[] 0 (Nat.le_refl _) (by simp) (by simp)) _ zs.length _ rfl hsrc ?c1 ?c2 ?c3 ?_)
    case c1 => unfold maxLen; omega
    case c2 => omega
    case c3 => simp
    intro v1 w1 hown1 hgrow1
    have hb1 : Below w.heap.size w w1 := ((Below.refl _ _).alloc (Nat.le_refl _) _).grown hgrow1 (by simp) (fun k hk => by simp [Value.ownBlock] at hk; omega)
    have hM1 : Mine w1 w.heap.size v1 zs := ⟨by simpa [v8] using hown1, h.2.1⟩
    go_wp2_with fail
    go_ret
    rw [HP.out, List.append_nil]
    exact ⟨_, rfl, hM1, hb1⟩
  · have HP : Hid (putL n = (wid n.toNat : Int) :: digs n.toNat) := by show _ = _; simp [putL, h0, numB]
    have hw := wid_le n.toNat (by omega)
    have hdl := digs_length n.toNat
    have hdb := digs_byte n.toNat
    have cd := fun w => digits_any n w (by omega) hn
    generalize digs n.toNat = D at *
    generalize hK : wid n.toNat = K at *
    have hdl' : D.length = K := hdl
    subst hdl'
    clear hK hdl
    go_enter Tryz.func80, Tryz.ntmps80
    go_wp2_with (at_builtin; refine wpList_append_own_src _ rfl _ _ 35 35 rfl w.heap.size 5 i0 (.int .u8 0) 1 1 Tryz.underlying35 hi hz0 hz1 hz2 rfl _ 0 [] rfl (World.ownsRow_made w #[] 0 (Nat.le_refl _) (by simp) (by simp)) _ zs.length _ rfl hsrc ?c1 ?c2 ?c3 ?_)
    case c1 => unfold maxLen; omega
    case c2 => omega
    intro v1 w1 hown1 hgrow1
    have hb1 : Below w.heap.size w w1 := ((Below.refl _ _).alloc (Nat.le_refl _) _).grown hgrow1 (by simp) (fun k hk => by simp [Value.ownBlock] at hk; omega)
    have hM1 : Mine w1 w.heap.size v1 zs := ⟨by simpa [v8] using hown1, h.2.1⟩
    clear hown1 hgrow1 hsrc
    go_wp2_with fail
    refine (cd _).mono ?_
    rintro e w2 ⟨v2, rfl, hM2, hb2⟩
    clear cd
    obtain ⟨a2, cap2, rfl, _, _, hr2⟩ := hM2.rowAt (by unfold maxLen; omega)
    have hM1' := hM1.below hb2
    have hb2' : Below w.heap.size w w2 := hb1.trans (hb2.mono hb1.size)
    go_wp2_with (at_builtin; refine wpList_append_own_src _ rfl _ _ 35 35 rfl w.heap.size 5 i0 (.int .u8 0) 1 1 Tryz.underlying35 hi hz0 hz1 hz2 rfl _ zs.length _ rfl (hM1'.1.alloc _) _ 1 _ rfl (b1_src _ _) ?d1 ?d2 ?d3 ?_)
    case d1 => unfold maxLen; omega
    case d2 => omega
    case d3 => have := hb2'.size; simp; omega
    intro v3 w3 hown3 hgrow3
    have hb3 : Below w.heap.size w w3 := below_grown (hb2'.alloc hb2'.size _) (by have := hb2'.size; simp; omega) (hM1'.1.alloc (.cells #[.int .u8 (D.length : Int)] 5)) hgrow3
    have hr3 : RowAt w3 a2 D := by
      have hga := hr2.below ((Below.refl w2.heap.size w2).alloc (Nat.le_refl _) (.cells #[.int .u8 (D.length : Int)] 5))
      refine ⟨hga.1, hga.2.1, ?_⟩
      rcases hga.2.2 with hx | ⟨b, off, rfl, hb, hc⟩
      · exact Or.inl hx
      · refine Or.inr ⟨b, off, rfl, Nat.lt_of_lt_of_le hb hgrow3.size, fun j u hu => hgrow3.cell (hc j u hu) ?_⟩
        have hl1 := (hM2.1.lt b rfl).1
        intro hcon
        have hl2 := (hM1.1.lt b hcon.symm).2
        have := hM1.1.lt b hcon.symm
        omega
    go_wp2_with (at_builtin; refine wpList_append_own_src _ rfl _ _ 35 35 rfl w.heap.size 5 i0 (.int .u8 0) 1 1 Tryz.underlying35 hi hz0 hz1 hz2 rfl _ (zs.length + 1) _ rfl hown3 _ D.length _ rfl (hr3.src cap2) ?e1 ?e2 ?e3 ?_)
    case e1 => unfold maxLen; omega
    case e2 => omega
    case e3 => exact hb3.size
    intro v4 w4 hown4 hgrow4
    have hb4 := below_grown hb3 hb3.size hown3 hgrow4
    have hM4 : Mine w4 w.heap.size v4 (zs ++ putL n) := by
      rw [HP.out]
      refine Mine.mk' _ hown4 (by simp; omega) (by simp [v8]) (fun z hz => ?_)
      simp only [List.mem_append, List.mem_cons] at hz
      rcases hz with hz | rfl | hz
      · exact h.2.1 z hz
      · omega
      · exact hdb z hz
    clear hown4 hgrow4 hown3 hgrow3
    go_wp2_with fail
    go_ret
    exact ⟨_, rfl, hM4, hb4⟩

set_option maxRecDepth 20000 in
set_option maxHeartbeats 800000 in
theorem refPutText_any (a : Option Addr) (cap : Nat) (zs : List Int) (s : ByteArray) (w : World) (h : RowAt w a zs) (hm : zs.length ≤ 1099511627) (hs : s.size ≤ 1099511627) :
    Calls Tryz.prog 77 #[.slice a zs.length cap, .string s] w fun e w' => ∃ v, e = .returned v ∧ Mine w' w.heap.size v (zs ++ textL s) ∧ Below w.heap.size w w' := by
  obtain ⟨i0, hi, hz0, hz1, hz2⟩ := info_parts info8
  have hpl := putL_length (s.size : Int) (by omega)
  have cp := refPut_any a cap zs (s.size : Int) w h hm (by omega)
  have HT : Hid (zs ++ textL s = (zs ++ putL s.size) ++ strL s) := by show _ = _; unfold textL; rw [List.append_assoc]
  have HSL : Hid ((strL s).length = s.size) := strL_length s
  have hql : (zs ++ putL (s.size : Int)).length ≤ 1099511627 + 9 := by rw [List.length_append]; omega
  generalize zs ++ putL (s.size : Int) = qs at *
  go_enter Tryz.func77, Tryz.ntmps77
  go_wp2_with fail
  refine cp.mono ?_
  rintro e w1 ⟨v1, rfl, hM1, hb1⟩
  clear cp
  go_wp2_with (at_builtin; refine wpList_append_own_src _ rfl _ _ 35 9 rfl w.heap.size 5 i0 (.int .u8 0) 1 1 Tryz.underlying35 hi hz0 hz1 hz2 rfl _ qs.length _ rfl hM1.1 _ s.size _ rfl (str_src s _) ?e1 ?e2 ?e3 ?_)
  case e1 => unfold maxLen; omega
  case e2 => omega
  case e3 => exact hb1.size
  intro v5 w5 hown5 hgrow5
  have hb5 := below_grown hb1 hb1.size hM1.1 hgrow5
  have hM : Mine w5 w.heap.size v5 (zs ++ textL s) := by
    rw [HT.out]
    refine Mine.mk' _ hown5 ?_ ?_ (fun z hz => ?_)
    · simp only [List.length_append, HSL.out]
    · simp
    · simp only [List.mem_append] at hz
      rcases hz with hz | hz
      · exact hM1.2 z hz
      · exact strL_byte s z hz
  clear hown5 hgrow5
  go_wp2_with fail
  go_ret
  exact ⟨_, rfl, hM, hb5⟩
end Go.Proofs.YtfkchnjbbbhmjaaGreat.Ty
namespace Go.Proofs.YtfkchnjbbbhmjaaGreat.Ty
open Go.RowKit
open Tal
theorem row_mine {w : World} {a : Option Addr} {zs : List Int} (h : RowAt w a zs) (cap : Nat) : (convert 35 9 (.slice a zs.length cap)).run Tryz.prog w = .ok (.string (strOf zs)) w := by
  rcases h.2.2 with rfl | ⟨b, off, rfl, _, hr⟩
  · rw [List.length_nil, run_convert_bytes_string w 35 9 5 a 0 cap Tryz.underlying35 Tryz.underlying5 Tryz.underlying9]
    cases a <;> rfl
  · exact row_str hr
/-- a reader's block: its place holds some slice, it was made, its error is e -/
def RdE (w : World) (R : Nat) (e : Int) : Prop :=
  R < w.heap.size ∧ (∃ a n c, w.cell? ⟨R, 0, none⟩ = some (.slice a n c)) ∧ w.cell? ⟨R, 1, none⟩ = some (.bool true) ∧ w.cell? ⟨R, 2, none⟩ = some (.int .i64 e) ∧
  w.frozen? ⟨R, 0, none⟩ = false ∧ w.frozen? ⟨R, 1, none⟩ = false ∧ w.frozen? ⟨R, 2, none⟩ = false
/-- what is ahead of it -/
def Rest (w : World) (R : Nat) (rest : List Int) : Prop :=
  ∃ a cap, w.cell? ⟨R, 0, none⟩ = some (.slice a rest.length cap) ∧ rest.length ≤ cap ∧ cap ≤ maxLen ∧ RowAt w a rest ∧ ∀ x, a = some x → x.block < R
def St (w : World) (R : Nat) (rest : List Int) (e : Int) : Prop := RdE w R e ∧ (e = 0 → Rest w R rest)

theorem RdE.set0 {w : World} {R : Nat} {e : Int} (h : RdE w R e) (a : Option Addr) (n c : Nat) : RdE (w.setCell ⟨R, 0, none⟩ (.slice a n c)) R e := by
  obtain ⟨hR, ⟨a', n', c', h0⟩, h1, h2, f0, f1, f2⟩ := h
  refine ⟨by simpa [World.setCell] using hR, ⟨a, n, c, World.cell?_setCell_same _ _ _ h0⟩, (World.cell?_setCell_other _ _ _ _ (by simp)).trans h1, (World.cell?_setCell_other _ _ _ _ (by simp)).trans h2,
    (World.frozen?_setCell _ _ _ _).trans f0, (World.frozen?_setCell _ _ _ _).trans f1, (World.frozen?_setCell _ _ _ _).trans f2⟩
theorem RdE.set2 {w : World} {R : Nat} {e : Int} (h : RdE w R e) (e' : Int) : RdE (w.setCell ⟨R, 2, none⟩ (.int .i64 e')) R e' := by
  obtain ⟨hR, ⟨a', n', c', h0⟩, h1, h2, f0, f1, f2⟩ := h
  refine ⟨by simpa [World.setCell] using hR, ⟨a', n', c', (World.cell?_setCell_other _ _ _ _ (by simp)).trans h0⟩, (World.cell?_setCell_other _ _ _ _ (by simp)).trans h1, World.cell?_setCell_same _ _ _ h2,
    (World.frozen?_setCell _ _ _ _).trans f0, (World.frozen?_setCell _ _ _ _).trans f1, (World.frozen?_setCell _ _ _ _).trans f2⟩
theorem RowAt.get {w : World} {a : Option Addr} {zs : List Int} (h : RowAt w a zs) (k : Nat) (hk : k < zs.length) : ∃ b off, a = some ⟨b, off, none⟩ ∧ b < w.heap.size ∧ w.cell? ⟨b, off + k, none⟩ = some (.int .u8 (zs.getD k 0)) ∧ 0 ≤ zs.getD k 0 ∧ zs.getD k 0 < 256 := by
  rcases h.2.2 with rfl | ⟨b, off, rfl, hb, hr⟩
  · simp at hk
  · refine ⟨b, off, rfl, hb, get8 hr hk, ?_⟩
    rw [List.getD_eq_getElem?_getD, List.getElem?_eq_getElem hk]
    exact h.2.1 _ (List.getElem_mem hk)
theorem cutA_lt {a : Option Addr} {R cap n : Nat} (h : ∀ x, a = some x → x.block < R) : ∀ x, cutA a cap n = some x → x.block < R := by
  intro x hx
  unfold cutA at hx
  split at hx
  · exact h x hx
  · cases a with
    | none => simp at hx
    | some y =>
      simp only [Option.map_some, Option.some.injEq] at hx
      subst hx
      have := h y rfl
      unfold Addr.add
      split <;> exact this
theorem lt_ne {a : Option Addr} {R : Nat} (h : ∀ x, a = some x → x.block < R) : ∀ x, a = some x → x.block ≠ R := fun x hx => Nat.ne_of_lt (h x hx)
theorem err_made (R : Nat) (e : Int) (w : World) (h : RdE w R e) :
    Calls Tryz.prog 108 #[.pointer (some ⟨R, 0, none⟩)] w fun en w' => en = .returned (.int .i64 e) ∧ w' = w := by
  obtain ⟨hR, ⟨a, n, c, h0⟩, h1, h2, f0, f1, f2⟩ := h
  go_enter Tryz.func108, Tryz.ntmps108
  go_wp2
  go_ret
  exact ⟨rfl, rfl⟩
theorem left_any (R : Nat) (a : Option Addr) (n c : Nat) (w : World) (h0 : w.cell? ⟨R, 0, none⟩ = some (.slice a n c)) :
    Calls Tryz.prog 113 #[.pointer (some ⟨R, 0, none⟩)] w fun en w' => en = .returned (.int .i64 (n : Int)) ∧ w' = w := by
  go_enter Tryz.func113, Tryz.ntmps113
  go_wp2
  go_ret
  exact ⟨rfl, rfl⟩
set_option maxHeartbeats 400000 in
theorem take_any (R : Nat) (a : Option Addr) (n len c : Nat) (w : World) (h0 : w.cell? ⟨R, 0, none⟩ = some (.slice a len c)) (f0 : w.frozen? ⟨R, 0, none⟩ = false) (hn : n ≤ len) (hc : len ≤ c) (hm : c ≤ maxLen) :
    Calls Tryz.prog 116 #[.pointer (some ⟨R, 0, none⟩), .int .i64 (n : Int)] w fun en w' => en = .returned (.slice a n c) ∧ w' = w.setCell ⟨R, 0, none⟩ (.slice (cutA a c n) (len - n) (c - n)) := by
  unfold maxLen at hm
  by_cases h : c = n
  · subst h
    obtain rfl : len = c := by omega
    go_enter Tryz.func116, Tryz.ntmps116
    go_wp2
    go_ret
    exact ⟨rfl, by simp [cutA]⟩
  · go_enter Tryz.func116, Tryz.ntmps116
    go_wp2
    go_ret
    exact ⟨rfl, by simp [cutA, h]⟩
set_option maxHeartbeats 400000 in
theorem fail_any (R : Nat) (e0 e : Int) (w : World) (h : RdE w R e0) :
    Calls Tryz.prog 112 #[.pointer (some ⟨R, 0, none⟩), .int .i64 e] w fun en w' => en = .returned (.tuple #[]) ∧ RdE w' R e ∧ w.grownBy w' (some R) := by
  have hE := (h.set2 e).set0 none 0 0
  have hg := gb_trans (gb_set w R 2 (.int .i64 e)) (gb_set (w.setCell ⟨R, 2, none⟩ (.int .i64 e)) R 0 (.slice none 0 0))
  obtain ⟨hR, ⟨a, n, c, h0⟩, h1, h2, f0, f1, f2⟩ := h
  go_enter Tryz.func112, Tryz.ntmps112
  go_wp2
  go_end0
  exact ⟨rfl, hE, hg⟩

theorem val_bound (l : List Int) (h : ∀ z ∈ l, 0 ≤ z ∧ z < 256) : 0 ≤ val l ∧ val l < 256 ^ l.length := by
  have : ∀ k, k ≤ l.length → 0 ≤ val (l.take k) ∧ val (l.take k) < 256 ^ k := by
    intro k
    induction k with
    | zero => intro _; simp [val]
    | succ k ih =>
      intro hk
      have hlt : k < l.length := by omega
      obtain ⟨i1, i2⟩ := ih (by omega)
      have hz := h l[k] (List.getElem_mem hlt)
      rw [List.take_succ_eq_append_getElem hlt, val_snoc, Int.pow_succ]
      omega
  have := this l.length (Nat.le_refl _)
  rwa [List.take_length] at this
theorem val_take (l : List Int) (k : Nat) (h : k < l.length) : val (l.take (k + 1)) = val (l.take k) * 256 + l.getD k 0 := by
  rw [List.take_succ_eq_append_getElem h, val_snoc, List.getD_eq_getElem?_getD, List.getElem?_eq_getElem h]; rfl
theorem or_join (x d : Int) (h0 : 0 ≤ x) (h1 : x < 72057594037927936) (h2 : 0 ≤ d) (h3 : d < 256) : bits .or .u64 (x * 256) d = x * 256 + d := by
  obtain ⟨m, rfl⟩ := Int.eq_ofNat_of_zero_le h0
  obtain ⟨q, rfl⟩ := Int.eq_ofNat_of_zero_le h2
  have e : ((m : Int) * 256) = ((m * 256 : Nat) : Int) := by omega
  rw [e, u64_or_nat _ _ (by omega) (by omega), nat_join 8 _ _ (by omega) (by omega)]
  omega
/-- what value answers -/
def valR (ds : List Int) : Int × Int := if ds.head? = some 0 ∨ 9223372036854775807 < val ds then (0, 11) else (val ds, 0)
set_option maxHeartbeats 800000 in
theorem value_any (a : Option Addr) (cap : Nat) (ds : List Int) (w : World) (h : RowAt w a ds) (hl : ds.length ≤ 8) :
    Calls Tryz.prog 117 #[.slice a ds.length cap] w fun en w' => en = .returned (.tuple #[.int .i64 (valR ds).1, .int .i64 (valR ds).2]) ∧ w' = w := by
  by_cases hh : ds.head? = some 0
  · have HV : Hid (valR ds = (0, 11)) := by show _ = _; simp [valR, hh]
    obtain ⟨tl, rfl⟩ : ∃ tl, ds = 0 :: tl := by
      cases ds with
      | nil => simp at hh
      | cons x tl => simp at hh; exact ⟨tl, by rw [hh]⟩
    obtain ⟨b, off, rfl, hb, hc, _⟩ := h.get 0 (by simp)
    have hc' : w.cell? ⟨b, off, none⟩ = some (.int .u8 0) := by simpa using hc
    have hp : (0 : Int) < ((0 :: tl : List Int).length : Int) := by simp
    generalize (0 :: tl : List Int) = ds at *
    go_enter Tryz.func117, Tryz.ntmps117
    go_wp2
    go_ret2
    rw [HV.out]
    exact ⟨rfl, rfl⟩
  · have hz := h.2.1
    have hstart : ds = [] ∨ ∃ b off z, a = some ⟨b, off, none⟩ ∧ w.cell? ⟨b, off, none⟩ = some (.int .u8 z) ∧ (z == 0) = false ∧ 0 < ds.length := by
      cases ds with
      | nil => exact Or.inl rfl
      | cons x tl =>
        obtain ⟨b, off, rfl, hb, hc, _⟩ := h.get 0 (by simp)
        exact Or.inr ⟨b, off, x, rfl, by simpa using hc, by simpa using hh, by simp⟩
    have hval := val_bound ds hz
    rcases hstart with rfl | ⟨b, off, z0, rfl, hc0, hne, hpos⟩
    · go_enter Tryz.func117, Tryz.ntmps117
      go_wp2
      refine wp_loop_rounds 1 ?_
      rw [rounds_succ]
      go_wp2
      go_ret2
      exact ⟨rfl, rfl⟩
    · have hp : (0 : Int) < (ds.length : Int) := by omega
      have hc : ∀ j, j < ds.length → w.cell? ⟨b, off + j, none⟩ = some (.int .u8 (ds.getD j 0)) := by
        obtain ⟨_, _, hd | ⟨b', off', hx, _, hc⟩⟩ := h
        · rw [hd] at hpos; simp at hpos
        · simp only [Option.some.injEq, Addr.mk.injEq] at hx
          obtain ⟨rfl, rfl, _⟩ := hx
          exact fun j hj => get8 hc hj
      have HC : Hid (∀ j, j < ds.length → w.cell? ⟨b, off + j, none⟩ = some (.int .u8 (ds.getD j 0))) := hc
      have HR : Hid (valR ds = if 9223372036854775807 < val ds then (0, 11) else (val ds, 0)) := by show _ = _; simp [valR, hh]
      clear hc h hh
      go_enter Tryz.func117, Tryz.ntmps117
      go_wp2
      go_loop [4, 17] (fun n i => ∃ k : Nat, k ≤ ds.length ∧ i = .int .i64 k ∧ n = .int .u64 (val (ds.take k))) (fun _ i => ds.length - (intOf i).toNat)
      case atStart => exact ⟨0, by omega, rfl, rfl⟩
      case round =>
        obtain ⟨k, hk, rfl, rfl⟩ := hrel
        by_cases hlt : k < ds.length
        · obtain ⟨z, hcx, hz0, hz1, HV⟩ : ∃ z, w.cell? ⟨b, off + k, none⟩ = some (.int .u8 z) ∧ 0 ≤ z ∧ z < 256 ∧ Hid (val (ds.take (k + 1)) = val (ds.take k) * 256 + z) := by
            refine ⟨ds.getD k 0, HC.out k hlt, ?_, ?_, val_take ds k hlt⟩ <;> rw [List.getD_eq_getElem?_getD, List.getElem?_eq_getElem hlt]
            · exact (hz _ (List.getElem_mem hlt)).1
            · exact (hz _ (List.getElem_mem hlt)).2
          have hb7 : 0 ≤ val (ds.take k) ∧ val (ds.take k) < 72057594037927936 := by
            have := val_bound (ds.take k) (fun z hz' => hz z (List.mem_of_mem_take hz'))
            rw [List.length_take_of_le (by omega)] at this
            have h7 : 256 ^ k ≤ 72057594037927936 := Nat.le_trans (Nat.pow_le_pow_right (by omega) (show k ≤ 7 by omega)) (by decide)
            have e7 : ((256 ^ k : Nat) : Int) = (256 : Int) ^ k := Int.natCast_pow 256 k
            rw [← e7] at this
            omega
          obtain ⟨hx0, hx1⟩ := hb7
          have ej := or_join (val (ds.take k)) z hx0 hx1 hz0 hz1
          generalize val (ds.take k) = X at *
          go_wp2
          go_round
          case rel => exact ⟨k + 1, by omega, by go_num, by rw [HV.out]⟩
          case measure => simp [intOf]; omega
        · obtain rfl : k = ds.length := by omega
          rw [List.take_length]
          by_cases hbig : 9223372036854775807 < val ds
          · go_wp2
            go_ret2
            rw [HR.out, if_pos hbig]
            exact ⟨rfl, rfl⟩
          · go_wp2
            go_ret2
            rw [HR.out, if_neg (by omega)]
            exact ⟨rfl, rfl⟩
end Go.Proofs.YtfkchnjbbbhmjaaGreat.Ty
namespace Go.Proofs.YtfkchnjbbbhmjaaGreat.Ty
open Go.RowKit
open Tal
/-- what stands at the beginning of bytes: the number, how many bytes it took, the error -/
def numR : List Int → Int × Nat × Int
  | [] => (0, 0, 10)
  | k :: tl => if 8 < k then (0, 0, 11) else if (tl.length : Int) < k then (0, 0, 10) else
      if (valR (tl.take k.toNat)).2 = 0 then ((valR (tl.take k.toNat)).1, 1 + k.toNat, 0) else (0, 0, (valR (tl.take k.toNat)).2)
theorem valR_err (ds : List Int) (h : (valR ds).2 ≠ 0) : valR ds = (0, 11) := by
  unfold valR at h ⊢
  split
  · rfl
  · rename_i hh; rw [if_neg hh] at h; exact absurd rfl h
theorem Rest.cell {w : World} {R : Nat} {rest : List Int} (h : Rest w R rest) : ∃ a cap, w.cell? ⟨R, 0, none⟩ = some (.slice a rest.length cap) ∧ rest.length ≤ cap ∧ cap ≤ maxLen ∧ RowAt w a rest ∧ ∀ x, a = some x → x.block < R := h
set_option maxHeartbeats 1600000 in
theorem number_any (R : Nat) (e0 : Int) (rest : List Int) (w : World) (hE : RdE w R e0) (hR : Rest w R rest) :
    Calls Tryz.prog 111 #[.pointer (some ⟨R, 0, none⟩)] w fun en w' => en = .returned (.tuple #[.int .i64 (numR rest).1, .int .i64 (numR rest).2.2]) ∧ RdE w' R e0 ∧ w.grownBy w' (some R) ∧ ((numR rest).2.2 = 0 → Rest w' R (rest.drop (numR rest).2.1)) := by
  obtain ⟨a, cap, h0, hc, hm, hrow, hlt⟩ := hR
  have hne := lt_ne hlt
  have f0 := hE.2.2.2.2.1
  cases rest with
  | nil =>
    have h0' : w.cell? ⟨R, 0, none⟩ = some (.slice a 0 cap) := h0
    go_enter Tryz.func111, Tryz.ntmps111
    go_wp2_with fail
    refine (left_any R a 0 cap w h0').mono ?_
    rintro e w1 ⟨rfl, rfl⟩
    go_wp2
    go_ret2
    exact ⟨rfl, hE, gb_refl _ _, fun h => by cases h⟩
  | cons k tl =>
    obtain ⟨b, off, rfl, hb, hcb, hk0, hk1⟩ := hrow.get 0 (by simp)
    have hk : (k :: tl).getD 0 0 = k := rfl
    rw [hk] at hcb hk0 hk1
    have hbR : b ≠ R := hne _ rfl
    have hcb1 : (w.setCell ⟨R, 0, none⟩ (.slice (cutA (some ⟨b, off, none⟩) cap 1) ((k :: tl).length - 1) (cap - 1))).cell? ⟨b, off, none⟩ = some (.int .u8 k) :=
      (World.cell?_setCell_other _ _ _ _ (by intro hx; injection hx with hx1; exact hbR hx1.symm)).trans (by simpa using hcb)
    have hE1 := hE.set0 (cutA (some ⟨b, off, none⟩) cap 1) ((k :: tl).length - 1) (cap - 1)
    have hg1 := gb_set w R 0 (.slice (cutA (some ⟨b, off, none⟩) cap 1) ((k :: tl).length - 1) (cap - 1))
    have hr1 := (hrow.drop 1 cap (by simp) hc).gb hg1 (.inr (cutA_ne hne))
    have h01 : (w.setCell ⟨R, 0, none⟩ (.slice (cutA (some ⟨b, off, none⟩) cap 1) ((k :: tl).length - 1) (cap - 1))).cell? ⟨R, 0, none⟩ = some (.slice (cutA (some ⟨b, off, none⟩) cap 1) ((k :: tl).length - 1) (cap - 1)) := World.cell?_setCell_same _ _ _ h0
    have hlen : (k :: tl).length - 1 = tl.length := by simp
    rw [hlen] at hE1 hg1 hr1 h01 hcb1
    generalize hW1 : w.setCell ⟨R, 0, none⟩ (.slice (cutA (some ⟨b, off, none⟩) cap 1) tl.length (cap - 1)) = W1 at *
    have c1 := take_any R (some ⟨b, off, none⟩) 1 (k :: tl).length cap w h0 f0 (by simp) hc hm
    rw [hlen, hW1] at c1
    have HW1 : Hid (w.setCell ⟨R, 0, none⟩ (.slice (cutA (some ⟨b, off, none⟩) cap 1) tl.length (cap - 1)) = W1) := hW1
    clear hW1
    have hpos : (((k :: tl).length : Int) == 0) = false := by simp; omega
    have hnm := cutA_ne (cap := cap) (n := 1) hne
    have hltm := cutA_lt (cap := cap) (n := 1) hlt
    generalize hA1 : cutA (some ⟨b, off, none⟩) cap 1 = A1 at *
    clear hA1
    have cl := left_any R (some ⟨b, off, none⟩) (k :: tl).length cap w h0
    go_enter Tryz.func111, Tryz.ntmps111
    go_wp2_with fail
    refine cl.mono ?_
    rintro e w1 ⟨rfl, rfl⟩
    clear cl
    go_wp2_with fail
    refine c1.mono ?_
    rintro e w2 ⟨rfl, rfl⟩
    clear c1
    by_cases hk8 : 8 < k
    · have HN : Hid (numR (k :: tl) = (0, 0, 11)) := by show _ = _; simp [numR, hk8]
      go_wp2_with fail
      go_ret2
      rw [HN.out]
      exact ⟨rfl, hE1, hg1, fun h => by cases h⟩
    · by_cases hkl : (tl.length : Int) < k
      · have HN : Hid (numR (k :: tl) = (0, 0, 10)) := by show _ = _; simp [numR, hk8, hkl]
        go_wp2_with fail
        refine (left_any R A1 tl.length (cap - 1) w2 h01).mono ?_
        rintro e w3 ⟨rfl, rfl⟩
        go_wp2_with fail
        go_ret2
        rw [HN.out]
        exact ⟨rfl, hE1, hg1, fun h => by cases h⟩
      · obtain ⟨q, hqk⟩ : ∃ q : Nat, k.toNat = q := ⟨_, rfl⟩
        have hkq : (q : Int) = k := by omega
        have hq : q ≤ tl.length := by omega
        have hcl : tl.length ≤ cap - 1 := by simp at hc; omega
        have c2 := take_any R A1 q tl.length (cap - 1) w2 h01 hE1.2.2.2.2.1 hq hcl (by omega)
        rw [hkq] at c2
        have hE2 := hE1.set0 (cutA A1 (cap - 1) q) (tl.length - q) (cap - 1 - q)
        have hg2 := gb_set w2 R 0 (.slice (cutA A1 (cap - 1) q) (tl.length - q) (cap - 1 - q))
        have hr1' : RowAt w2 A1 tl := by simpa using hr1
        have hr2 := (hr1'.take q).gb hg2 (.inr hnm)
        have hr3 := (hr1'.drop q (cap - 1) hq hcl)
        have h02 : (w2.setCell ⟨R, 0, none⟩ (.slice (cutA A1 (cap - 1) q) (tl.length - q) (cap - 1 - q))).cell? ⟨R, 0, none⟩ = some (.slice (cutA A1 (cap - 1) q) (tl.length - q) (cap - 1 - q)) := World.cell?_setCell_same _ _ _ h01
        have hRest : Rest (w2.setCell ⟨R, 0, none⟩ (.slice (cutA A1 (cap - 1) q) (tl.length - q) (cap - 1 - q))) R (tl.drop q) := by
          refine ⟨cutA A1 (cap - 1) q, cap - 1 - q, by rw [List.length_drop]; exact h02, by rw [List.length_drop]; omega, by omega, ?_, ?_⟩
          · exact hr3.gb hg2 (.inr (cutA_ne hnm))
          · exact cutA_lt hltm
        generalize w2.setCell ⟨R, 0, none⟩ (.slice (cutA A1 (cap - 1) q) (tl.length - q) (cap - 1 - q)) = W2 at *
        have hqt : (tl.take q).length = q := List.length_take_of_le hq
        have c3 := value_any A1 (cap - 1) (tl.take q) W2 hr2 (by omega)
        rw [hqt] at c3
        have HN : Hid (numR (k :: tl) = if (valR (tl.take q)).2 = 0 then ((valR (tl.take q)).1, 1 + q, 0) else (0, 0, (valR (tl.take q)).2)) := by
          show _ = _
          simp only [numR, if_neg hk8, if_neg hkl, hqk]
        clear hr1 hr2 hr3 hqt hqk hkq
        go_wp2_with fail
        refine (left_any R A1 tl.length (cap - 1) w2 h01).mono ?_
        rintro e w3 ⟨rfl, rfl⟩
        go_wp2_with fail
        refine c2.mono ?_
        rintro e w4 ⟨rfl, rfl⟩
        clear c2
        go_wp2_with fail
        refine c3.mono ?_
        rintro e w5 ⟨rfl, rfl⟩
        clear c3
        go_wp2_with fail
        go_ret2
        refine ⟨?_, hE2, gb_trans hg1 hg2, ?_⟩
        · rw [HN.out]
          by_cases hv : (valR (tl.take q)).2 = 0
          · rw [if_pos hv, hv]; exact rfl
          · rw [if_neg hv, valR_err _ hv]; exact rfl
        · rw [HN.out]
          by_cases hv : (valR (tl.take q)).2 = 0
          · rw [if_pos hv]; intro _; rw [Nat.add_comm]; exact hRest
          · rw [if_neg hv]; intro h; exact absurd h hv
end Go.Proofs.YtfkchnjbbbhmjaaGreat.Ty
namespace Go.Proofs.YtfkchnjbbbhmjaaGreat.Ty
open Go.RowKit
open Tal
/-- what Num answers, what is ahead then, the error then -/
def numS (rest : List Int) (e most : Int) : Int × List Int × Int :=
  if e = 0 then
    if (numR rest).2.2 = 0 then
      if most < (numR rest).1 then (0, rest, 3) else ((numR rest).1, rest.drop (numR rest).2.1, 0)
    else (0, rest, (numR rest).2.2)
  else (0, rest, e)
set_option maxHeartbeats 1600000 in
theorem num_any (R : Nat) (rest : List Int) (e most : Int) (w : World) (h : St w R rest e) :
    Calls Tryz.prog 97 #[.pointer (some ⟨R, 0, none⟩), .int .i64 most] w fun en w' => en = .returned (.int .i64 (numS rest e most).1) ∧ St w' R (numS rest e most).2.1 (numS rest e most).2.2 ∧ w.grownBy w' (some R) := by
  obtain ⟨hE, hR⟩ := h
  by_cases he : e = 0
  · subst he
    have hR := hR rfl
    have cn := number_any R 0 rest w hE hR
    have HS : Hid (numS rest 0 most = if (numR rest).2.2 = 0 then (if most < (numR rest).1 then (0, rest, 3) else ((numR rest).1, rest.drop (numR rest).2.1, 0)) else (0, rest, (numR rest).2.2)) := by show _ = _; simp [numS]
    generalize (numR rest).1 = v at *
    generalize (numR rest).2.1 = c at *
    generalize (numR rest).2.2 = er at *
    by_cases her : er = 0
    · subst her
      rw [if_pos rfl] at HS
      by_cases hmost : most < v
      · rw [if_pos hmost] at HS
        go_enter Tryz.func97, Tryz.ntmps97
        go_wp2_with fail
        refine (err_made R 0 w hE).mono ?_
        rintro e w1 ⟨rfl, rfl⟩
        go_wp2_with fail
        refine cn.mono ?_
        rintro e w2 ⟨rfl, hE2, hg2, hR2⟩
        go_wp2_with fail
        refine (fail_any R 0 3 w2 hE2).mono ?_
        rintro e w3 ⟨rfl, hE3, hg3⟩
        go_wp2_with fail
        go_ret
        rw [HS.out]
        exact ⟨rfl, ⟨hE3, fun h => by cases h⟩, gb_trans hg2 hg3⟩
      · rw [if_neg hmost] at HS
        go_enter Tryz.func97, Tryz.ntmps97
        go_wp2_with fail
        refine (err_made R 0 w hE).mono ?_
        rintro e w1 ⟨rfl, rfl⟩
        go_wp2_with fail
        refine cn.mono ?_
        rintro e w2 ⟨rfl, hE2, hg2, hR2⟩
        have hR3 := hR2 (by trivial)
        clear hR2 cn
        go_wp2_with fail
        go_ret
        rw [HS.out]
        exact ⟨rfl, ⟨hE2, fun _ => hR3⟩, hg2⟩
    · have her' : (er == 0) = false := by simpa using her
      rw [if_neg her] at HS
      go_enter Tryz.func97, Tryz.ntmps97
      go_wp2_with fail
      refine (err_made R 0 w hE).mono ?_
      rintro e w1 ⟨rfl, rfl⟩
      go_wp2_with fail
      refine cn.mono ?_
      rintro e w2 ⟨rfl, hE2, hg2, hR2⟩
      clear hR2 cn
      go_wp2_with fail
      refine (fail_any R 0 er w2 hE2).mono ?_
      rintro e w3 ⟨rfl, hE3, hg3⟩
      go_wp2_with fail
      go_ret
      rw [HS.out]
      exact ⟨rfl, ⟨hE3, fun h => absurd h her⟩, gb_trans hg2 hg3⟩
  · have HS : Hid (numS rest e most = (0, rest, e)) := by show _ = _; simp [numS, he]
    have he' : (e == 0) = false := by simpa using he
    go_enter Tryz.func97, Tryz.ntmps97
    go_wp2_with fail
    refine (err_made R e w hE).mono ?_
    rintro en w1 ⟨rfl, rfl⟩
    go_wp2_with fail
    go_ret
    rw [HS.out]
    exact ⟨rfl, ⟨hE, fun h => absurd h he⟩, gb_refl _ _⟩
end Go.Proofs.YtfkchnjbbbhmjaaGreat.Ty
namespace Go.Proofs.YtfkchnjbbbhmjaaGreat.Ty
open Go.RowKit
open Tal
theorem _root_.Go.Proofs.YtfkchnjbbbhmjaaGreat.RowAt.none_nil {w : World} {zs : List Int} (h : RowAt w none zs) : zs = [] := by
  rcases h.2.2 with h | ⟨b, off, hx, _⟩
  · exact h
  · cases hx
theorem _root_.Go.Proofs.YtfkchnjbbbhmjaaGreat.RowAt.str {w : World} {a : Option Addr} {zs : List Int} (h : RowAt w a zs) (cap : Nat) : (convert 35 9 (.slice a zs.length cap)).run Tryz.prog w = .ok (.string (strOf zs)) w := row_mine h cap
theorem Mine.str {w : World} {B : Nat} {v : Value} {zs : List Int} (h : Mine w B v zs) (hm : zs.length ≤ maxLen) : (convert 35 9 v).run Tryz.prog w = .ok (.string (strOf zs)) w := by
  obtain ⟨a, cap, rfl, _, _, hr⟩ := h.rowAt hm
  exact hr.str cap
set_option maxHeartbeats 800000 in
theorem clone_any (a : Option Addr) (cap : Nat) (zs : List Int) (w : World) (h : RowAt w a zs) (hm : zs.length ≤ 549755813888) :
    Calls Tryz.prog 81 #[.slice a zs.length cap] w fun e w' => ∃ v, e = .returned v ∧ Mine w' w.heap.size v zs ∧ Below w.heap.size w w' := by
  obtain ⟨i0, hi, hz0, hz1, hz2⟩ := info_parts info8
  cases a with
  | none =>
    obtain rfl := h.none_nil
    have hn := fun w => Lib.run_eql_slice_nil (P := Tryz.prog) w 35 5 none 0 cap 0 0 Tryz.underlying35
    go_enter Tryz.func81, Tryz.ntmps81
    go_wp2
    go_ret
    exact ⟨_, rfl, ⟨World.ownsRow_nil _ _ _ _, by simp⟩, Below.refl _ _⟩
  | some x =>
    have hn := fun w => Lib.run_eql_slice_nil (P := Tryz.prog) w 35 5 (some x) zs.length cap 0 0 Tryz.underlying35
    go_enter Tryz.func81, Tryz.ntmps81
    go_wp2_with (at_builtin; refine wpList_append_own_src _ rfl _ _ 35 35 rfl w.heap.size 5 i0 (.int .u8 0) 1 1 Tryz.underlying35 hi hz0 hz1 hz2 rfl _ 0 [] rfl (World.ownsRow_made w #[] 0 (Nat.le_refl _) (by simp) (by simp)) (.slice (some x) zs.length cap) zs.length (zs.map (Value.int .u8)) rfl ((h.below ((Below.refl _ _).alloc (Nat.le_refl _) _)).src cap) ?c1 ?c2 ?c3 ?_)
    case c1 => unfold maxLen; omega
    case c2 => omega
    case c3 => simp
    intro v' w1 hown hgrow
    have hb1 : Below w.heap.size w w1 := ((Below.refl _ _).alloc (Nat.le_refl _) _).grown hgrow (by simp) (fun k hk => by simp [Value.ownBlock] at hk; omega)
    go_wp2
    go_ret
    exact ⟨_, rfl, ⟨by simpa using hown, h.2.1⟩, hb1⟩

set_option maxHeartbeats 800000 in
theorem read_any (a : Option Addr) (cap : Nat) (zs : List Int) (w : World) (h : RowAt w a zs) (hm : zs.length ≤ 549755813888) :
    Calls Tryz.prog 96 #[.slice a zs.length cap] w fun e w' => ∃ R, e = .returned (.pointer (some ⟨R, 0, none⟩)) ∧ w.heap.size ≤ R ∧ St w' R zs 0 ∧ Below w.heap.size w w' := by
  go_enter Tryz.func96, Tryz.ntmps96
  go_wp2_with fail
  refine (clone_any a cap zs w h hm).mono ?_
  rintro e w1 ⟨v, rfl, hmine, hb⟩
  obtain ⟨a', cap', rfl, hc1, hc2, hr⟩ := hmine.rowAt (by unfold maxLen; omega)
  have hblk : ∀ x, a' = some x → x.block < w1.heap.size := fun x hx => (hmine.1.lt x.block (by simp [hx, Value.ownBlock])).2
  have hb2 : Below w1.heap.size w1 (w1.alloc (.cells #[.slice a' zs.length cap', .bool true, .int .i64 0] 130)) := (Below.refl _ _).alloc (Nat.le_refl _) _
  have hSt : St (w1.alloc (.cells #[.slice a' zs.length cap', .bool true, .int .i64 0] 130)) w1.heap.size zs 0 := by
    have cs : ∀ j, (w1.alloc (.cells #[.slice a' zs.length cap', .bool true, .int .i64 0] 130)).cell? ⟨w1.heap.size, j, none⟩ = (#[.slice a' zs.length cap', .bool true, .int .i64 0] : Array Value)[j]? := fun j => World.cell?_alloc_at _ _ _ _ rfl
    have fs : ∀ j, (w1.alloc (.cells #[.slice a' zs.length cap', .bool true, .int .i64 0] 130)).frozen? ⟨w1.heap.size, j, none⟩ = false := fun j => World.frozen?_alloc_at _ _ _ _ rfl
    exact ⟨⟨by simp, ⟨a', zs.length, cap', cs 0⟩, cs 1, cs 2, fs 0, fs 1, fs 2⟩, fun _ => ⟨a', cap', cs 0, hc1, hc2, hr.below hb2, hblk⟩⟩
  go_wp2_with fail
  go_ret
  exact ⟨_, rfl, hb.size, hSt, hb.trans (hb2.mono hb.size)⟩
end Go.Proofs.YtfkchnjbbbhmjaaGreat.Ty
namespace Go.Proofs.YtfkchnjbbbhmjaaGreat.Ty
open Go.RowKit
open Tal
theorem cr_row {w : World} {a : Option Addr} {zs : List Int} (h : RowAt w a zs) : Cr.RowAt w a zs := by
  refine ⟨h.1, h.2.1, ?_⟩
  rcases h.2.2 with q | ⟨b, off, rfl, h1, h2⟩
  · exact .inl q
  · exact .inr ⟨b, off, rfl, h1, fun j hj => get8 h2 hj⟩
/-- the sum of bytes -/
def crcN (zs : List Int) : Int := ((Cr.Crc.crc Cr.start zs).toNat : Int)
theorem crcN_lt (zs : List Int) : 0 ≤ crcN zs ∧ crcN zs < 16777216 := by
  unfold crcN
  have := (Cr.Crc.crc Cr.start zs).isLt
  omega
theorem csum_any (a : Option Addr) (cap : Nat) (zs : List Int) (w : World) (h : RowAt w a zs) :
    Calls Tryz.prog 71 #[.slice a zs.length cap] w fun e w' => e = .returned (.int .i64 (crcN zs)) ∧ Below w.heap.size w w' := Cr.sum_any a cap zs w (cr_row h)
theorem xcsum_any (a : Option Addr) (cap : Nat) (zs : List Int) (w : World) (h : RowAt w a zs) :
    Calls Tryz.prog 78 #[.slice a zs.length cap] w fun e w' => e = .returned (.int .i64 (crcN zs)) ∧ w' = w := Cr.refSum_any a cap zs w (cr_row h)
/-- a frame's bytes behind its sum -/
def kindL (kind : Int) (s : ByteArray) : List Int := kind :: textL s
def sumL (b : List Int) : List Int := [crcN b / 65536, crcN b / 256 % 256, crcN b % 256]
def frameL (kind : Int) (s : ByteArray) : List Int := sumL (kindL kind s) ++ kindL kind s
theorem sumL_ok (b : List Int) : ∀ z ∈ sumL b, 0 ≤ z ∧ z < 256 := by
  have := crcN_lt b
  intro z hz
  simp only [sumL, List.mem_cons, List.not_mem_nil, or_false] at hz
  rcases hz with rfl | rfl | rfl <;> omega
theorem one_row (w : World) (k : Int) (hk : 0 ≤ k ∧ k < 256) : RowAt (w.alloc (.cells #[.int .u8 k] 5)) (some ⟨w.heap.size, 0, none⟩) [k] := by
  have hr := range_new w #[.int .u8 k] 5
  exact ⟨by unfold maxLen; simp, by simpa using hk, .inr ⟨w.heap.size, 0, rfl, by simp, hr⟩⟩
theorem three_row (w : World) (a b c : Int) (ha : 0 ≤ a ∧ a < 256) (hb : 0 ≤ b ∧ b < 256) (hc : 0 ≤ c ∧ c < 256) : RowAt (w.alloc (.cells #[.int .u8 a, .int .u8 b, .int .u8 c] 5)) (some ⟨w.heap.size, 0, none⟩) [a, b, c] := by
  have hr := range_new w #[.int .u8 a, .int .u8 b, .int .u8 c] 5
  refine ⟨by unfold maxLen; simp, ?_, .inr ⟨w.heap.size, 0, rfl, by simp, hr⟩⟩
  intro z hz
  simp only [List.mem_cons, List.not_mem_nil, or_false] at hz
  rcases hz with rfl | rfl | rfl
  · exact ha
  · exact hb
  · exact hc
theorem Mine.row {w : World} {B : Nat} {v : Value} {zs : List Int} (h : Mine w B v zs) (hm : zs.length ≤ 1099511627776) : ∃ a cap, v = .slice a zs.length cap ∧ zs.length ≤ cap ∧ cap ≤ maxLen ∧ RowAt w a zs := own_bytes h.1 h.2 (by unfold maxLen; omega)
theorem strOf_size (zs : List Int) : (strOf zs).size = zs.length := by
  have e : ∀ (zs : List Int) (r : ByteArray), (zs.foldl (fun r n => r.push (UInt8.ofNat n.toNat)) r).size = r.size + zs.length := by
    intro zs
    induction zs with
    | nil => intro r; simp
    | cons z zs ih => intro r; rw [List.foldl_cons, ih]; simp [ByteArray.size_push]; omega
  have := e zs ByteArray.empty
  unfold strOf
  rw [this]
  simp
set_option maxRecDepth 100000 in
set_option maxHeartbeats 4000000 in
theorem frame_any (kind : Int) (a : Option Addr) (cap : Nat) (zs : List Int) (w : World) (h : RowAt w a zs) (hk : 0 ≤ kind ∧ kind < 256) (hl : zs.length ≤ 100000000) :
    Calls Tryz.prog 48 #[.int .u8 kind, .slice a zs.length cap] w fun e w' => ∃ v, e = .returned v ∧ Mine w' w.heap.size v (frameL kind (strOf zs)) ∧ Below w.heap.size w w' := by
  obtain ⟨i0, hi, hz0, hz1, hz2⟩ := info_parts info8
  have hB1 : Below w.heap.size w (w.alloc (.cells #[.int .u8 kind] 5)) := (Below.refl _ _).alloc (Nat.le_refl _) _
  have kr := _root_.Go.Proofs.YtfkchnjbbbhmjaaGreat.row_str (cap := cap) (h.below hB1)
  have hs : (strOf zs).size ≤ 100000000 := by rw [strOf_size]; exact hl
  obtain ⟨s, hse⟩ : ∃ s, Hid (strOf zs = s) := ⟨_, hide rfl⟩
  rw [hse.out] at kr hs ⊢
  have cP := putText_any (some ⟨w.heap.size, 0, none⟩) 1 [kind] s _ (one_row w kind hk) (by simp) (by omega)
  have hpl := putL_length (s.size : Int) (by omega)
  obtain ⟨bs, hbs⟩ : ∃ bs, Hid (kindL kind s = bs) := ⟨_, hide rfl⟩
  have hbe : [kind] ++ textL s = bs := hbs.out
  rw [hbe] at cP
  have hbl : bs.length ≤ 100000020 := by
    rw [← hbs.out]
    simp only [kindL, textL, List.length_cons, List.length_append, strL_length]
    omega
  have HF : Hid (frameL kind s = sumL bs ++ bs) := hide (by rw [← hbs.out]; rfl)
  rw [HF.out]
  clear hse hbs hbe HF
  go_enter Tryz.func48, Tryz.ntmps48
  go_wp2_with fail
  refine cP.mono ?_
  rintro e w2 ⟨v2, rfl, hM2, hB2⟩
  clear cP kr
  obtain ⟨a2, c2, rfl, -, -, hR2⟩ := hM2.row (by omega)
  have hBw2 := hB1.trans (hB2.mono hB1.size)
  have cC := csum_any a2 c2 bs w2 hR2
  have hcl := crcN_lt bs
  have HS : Hid (sumL bs = [crcN bs / 65536, crcN bs / 256 % 256, crcN bs % 256]) := hide rfl
  obtain ⟨cs, hcs⟩ : ∃ cs, Hid (crcN bs = cs) := ⟨_, hide rfl⟩
  rw [hcs.out] at cC hcl HS
  clear hcs hM2
  go_wp2_with fail
  refine cC.mono ?_
  rintro e w3 ⟨rfl, hB3⟩
  clear cC
  have hR3 := hR2.below hB3
  have hbb : bs = [] ∨ ∀ x, a2 = some x → x.block < w3.heap.size := by
    rcases hR3.2.2 with q | ⟨b, off, rfl, h1, _⟩
    · exact .inl q
    · exact .inr (fun x hx => by cases hx; exact h1)
  have hBw3 := hBw2.trans (hB3.mono hBw2.size)
  go_wp2_with (first
    | refine wpList_make_own _ rfl _ _ 35 rfl w.heap.size 5 i0 (.int .u8 0) 1 Tryz.underlying35 hi hz0 hz1 .i64 .i64 _ (3 + bs.length) rfl rfl ?d1 ?d2 ?d3 ?d4 ?_)
  case d1 => omega
  case d2 => rw [hz2]; omega
  case d3 => unfold maxLen; omega
  case d4 => exact hBw3.size
  intro w4 hown4 hgrow4
  have hb4 : Below w.heap.size w w4 := hBw3.grown hgrow4 hBw3.size (fun k hk => by cases hk)
  have hb34 : Below w3.heap.size w3 w4 := ⟨hgrow4.os, hgrow4.tape, hgrow4.output, hgrow4.size, fun k hk => hgrow4.block k hk (by simp)⟩
  have hR4 := hR3.below hb34
  have hb45 : Below w4.heap.size w4 (w4.alloc (.cells #[.int .u8 (cs / 65536), .int .u8 (cs / 256 % 256), .int .u8 (cs % 256)] 5)) := (Below.refl _ _).alloc (Nat.le_refl _) _
  have hsrc5 := (three_row w4 (cs / 65536) (cs / 256 % 256) (cs % 256) (by omega) (by omega) (by omega)).src 3
  have hown5 := owns_below hown4 hb45
  have hb5 := hb4.trans (hb45.mono hb4.size)
  have hR5 := hR4.below hb45
  clear hR3 hR2 hgrow4 hR4 hown4
  go_wp2_with (at_builtin; refine wpList_append_own_src _ rfl _ _ 35 35 rfl w.heap.size 5 i0 (.int .u8 0) 1 1 Tryz.underlying35 hi hz0 hz1 hz2 rfl _ 0 [] rfl hown5 (.slice (some ⟨w4.heap.size, 0, none⟩) 3 3) 3 (v8 [cs / 65536, cs / 256 % 256, cs % 256]) rfl hsrc5 ?c1 ?c2 ?c3 ?_)
  case c1 => unfold maxLen; omega
  case c2 => omega
  case c3 => exact hb5.size
  intro v6 w6 hown6 hgrow6
  have hb6 : Below w.heap.size w w6 := hb5.grown hgrow6 hb5.size (fun k hk => (hown5.lt k hk).1)
  have hR6 : RowAt w6 a2 bs := by
    refine ⟨hR5.1, hR5.2.1, ?_⟩
    by_cases hnil : bs = []
    · exact .inl hnil
    rcases hR5.2.2 with q | ⟨b, off, rfl, h1, h2⟩
    · exact .inl q
    · refine .inr ⟨b, off, rfl, Nat.lt_of_lt_of_le h1 hgrow6.size, range_at h2 (hgrow6.block b h1 ?_)⟩
      have hbl3 : b < w3.heap.size := by
        rcases hbb with q | q
        · rw [q] at hnil; exact absurd rfl hnil
        · exact q _ rfl
      intro e
      have : w3.heap.size = b := by simpa [Value.ownBlock] using e.symm
      omega
  have hsrc6 := hR6.src c2
  obtain ⟨va6, vc6, rfl⟩ := owns_slice hown6
  clear hown5 hgrow6 hR5 hsrc5
  go_wp2_with (at_builtin; refine wpList_append_own_src _ rfl _ _ 35 35 rfl w.heap.size 5 i0 (.int .u8 0) 1 1 Tryz.underlying35 hi hz0 hz1 hz2 rfl _ 3 _ rfl hown6 (.slice a2 bs.length c2) bs.length (v8 bs) rfl hsrc6 ?e1 ?e2 ?e3 ?_)
  case e1 => unfold maxLen; omega
  case e2 => omega
  case e3 => exact hb6.size
  intro v7 w7 hown7 hgrow7
  have hb7 : Below w.heap.size w w7 := hb6.grown hgrow7 hb6.size (fun k hk => (hown6.lt k hk).1)
  have HM : Hid (Mine w7 w.heap.size v7 (sumL bs ++ bs)) := hide (by
    refine Mine.mk' (sumL bs ++ bs) hown7 (by rw [HS.out]; simp; omega) (by rw [HS.out]; simp [v8]) ?_
    intro z hz
    rcases List.mem_append.1 hz with q | q
    · exact sumL_ok bs z q
    · exact hR6.2.1 z q)
  obtain ⟨va7, vc7, rfl⟩ := owns_slice hown7
  clear hown7 hgrow7 hown6 hsrc6
  go_wp2_with fail
  go_ret
  exact ⟨_, rfl, HM.out, hb7⟩
set_option maxRecDepth 100000 in
set_option maxHeartbeats 4000000 in
theorem xframe_any (kind : Int) (a : Option Addr) (cap : Nat) (zs : List Int) (w : World) (h : RowAt w a zs) (hk : 0 ≤ kind ∧ kind < 256) (hl : zs.length ≤ 100000000) :
    Calls Tryz.prog 62 #[.int .u8 kind, .slice a zs.length cap] w fun e w' => ∃ v, e = .returned v ∧ Mine w' w.heap.size v (frameL kind (strOf zs)) ∧ Below w.heap.size w w' := by
  obtain ⟨i0, hi, hz0, hz1, hz2⟩ := info_parts info8
  have hB1 : Below w.heap.size w (w.alloc (.cells #[.int .u8 kind] 5)) := (Below.refl _ _).alloc (Nat.le_refl _) _
  have kr := _root_.Go.Proofs.YtfkchnjbbbhmjaaGreat.row_str (cap := cap) (h.below hB1)
  have hs : (strOf zs).size ≤ 100000000 := by rw [strOf_size]; exact hl
  obtain ⟨s, hse⟩ : ∃ s, Hid (strOf zs = s) := ⟨_, hide rfl⟩
  rw [hse.out] at kr hs ⊢
  have cP := refPutText_any (some ⟨w.heap.size, 0, none⟩) 1 [kind] s _ (one_row w kind hk) (by simp) (by omega)
  have hpl := putL_length (s.size : Int) (by omega)
  obtain ⟨bs, hbs⟩ : ∃ bs, Hid (kindL kind s = bs) := ⟨_, hide rfl⟩
  have hbe : [kind] ++ textL s = bs := hbs.out
  rw [hbe] at cP
  have hbl : bs.length ≤ 100000020 := by
    rw [← hbs.out]
    simp only [kindL, textL, List.length_cons, List.length_append, strL_length]
    omega
  have HF : Hid (frameL kind s = sumL bs ++ bs) := hide (by rw [← hbs.out]; rfl)
  rw [HF.out]
  clear hse hbs hbe HF
  go_enter Tryz.func62, Tryz.ntmps62
  go_wp2_with fail
  refine cP.mono ?_
  rintro e w2 ⟨v2, rfl, hM2, hB2⟩
  clear cP kr
  obtain ⟨a2, c2, rfl, -, -, hR2⟩ := hM2.row (by omega)
  have hBw2 := hB1.trans (hB2.mono hB1.size)
  have cC := xcsum_any a2 c2 bs w2 hR2
  have hcl := crcN_lt bs
  have HS : Hid (sumL bs = [crcN bs / 65536, crcN bs / 256 % 256, crcN bs % 256]) := hide rfl
  obtain ⟨cs, hcs⟩ : ∃ cs, Hid (crcN bs = cs) := ⟨_, hide rfl⟩
  rw [hcs.out] at cC hcl HS
  clear hcs hM2
  go_wp2_with fail
  refine cC.mono ?_
  rintro e w3 ⟨rfl, hx⟩
  obtain rfl := hx.symm
  clear cC hx
  have d1 : cs.tdiv 65536 = cs / 65536 := Int.tdiv_eq_ediv_of_nonneg hcl.1
  have d2 : cs.tdiv 256 = cs / 256 := Int.tdiv_eq_ediv_of_nonneg hcl.1
  have d3 : cs.tmod 256 = cs % 256 := Int.tmod_eq_emod_of_nonneg hcl.1
  have d4 : (cs / 256).tmod 256 = cs / 256 % 256 := Int.tmod_eq_emod_of_nonneg (by omega)
  have d5 : cs / 65536 % 256 = cs / 65536 := by omega
  have d6 : cs / 256 % 256 % 256 = cs / 256 % 256 := by omega
  have d7 : cs % 256 % 256 = cs % 256 := by omega
  have hown5 : (w2.alloc (.cells #[.int .u8 (cs / 65536), .int .u8 (cs / 256 % 256), .int .u8 (cs % 256)] 5)).ownsRow w2.heap.size 5 1 (.slice (some ⟨w2.heap.size, 0, none⟩) 3 3) 3 (v8 [cs / 65536, cs / 256 % 256, cs % 256]) :=
    ⟨rfl, .inr ⟨w2.heap.size, 3, _, rfl, Nat.le_refl _, heap_alloc_new w2 _, Nat.le_refl _, by unfold maxLen; omega, rfl, rfl⟩⟩
  have hb45 : Below w2.heap.size w2 (w2.alloc (.cells #[.int .u8 (cs / 65536), .int .u8 (cs / 256 % 256), .int .u8 (cs % 256)] 5)) := (Below.refl _ _).alloc (Nat.le_refl _) _
  have hb5 := hBw2.trans (hb45.mono hBw2.size)
  have hsrc6 := (hR2.below hb45).src c2
  go_wp2_with (at_builtin; refine wpList_append_own_src _ rfl _ _ 35 35 rfl w2.heap.size 5 i0 (.int .u8 0) 1 1 Tryz.underlying35 hi hz0 hz1 hz2 rfl _ 3 _ rfl hown5 (.slice a2 bs.length c2) bs.length (v8 bs) rfl hsrc6 ?e1 ?e2 ?e3 ?_)
  case e1 => unfold maxLen; omega
  case e2 => omega
  case e3 => exact hb45.size
  intro v7 w7 hown7 hgrow7
  have hb7 : Below w.heap.size w w7 := hb5.grown hgrow7 hb5.size (fun k hk => Nat.le_trans hBw2.size (hown5.lt k hk).1)
  have HM : Hid (Mine w7 w.heap.size v7 (sumL bs ++ bs)) := hide (by
    have hm : Mine w7 w2.heap.size v7 (sumL bs ++ bs) := by
      refine Mine.mk' (sumL bs ++ bs) hown7 (by rw [HS.out]; simp; omega) (by rw [HS.out]; simp [v8]) ?_
      intro z hz
      rcases List.mem_append.1 hz with q | q
      · exact sumL_ok bs z q
      · exact hR2.2.1 z q
    refine ⟨⟨hm.1.1, ?_⟩, hm.2⟩
    rcases hm.1.2 with q | ⟨g, c, cur, q1, q2, q3⟩
    · exact .inl q
    · exact .inr ⟨g, c, cur, q1, Nat.le_trans hBw2.size q2, q3⟩)
  obtain ⟨va7, vc7, rfl⟩ := owns_slice hown7
  clear hown7 hgrow7 hown5 hsrc6
  go_wp2_with fail
  go_ret
  exact ⟨_, rfl, HM.out, hb7⟩
end Go.Proofs.YtfkchnjbbbhmjaaGreat.Ty
namespace Go.Proofs.YtfkchnjbbbhmjaaGreat.Ty
open Go.RowKit
open Tal
set_option maxHeartbeats 800000 in
theorem next_few (R : Nat) (rest : List Int) (n : Int) (w : World) (h : St w R rest 0) (hn : (rest.length : Int) < n) :
    Calls Tryz.prog 115 #[.pointer (some ⟨R, 0, none⟩), .int .i64 n] w fun en w' => en = .returned (.slice none 0 0) ∧ St w' R rest 10 ∧ w.grownBy w' (some R) := by
  obtain ⟨hE, hR⟩ := h
  obtain ⟨a, cap, h0, hc, hm, hrow, hne⟩ := hR rfl
  go_enter Tryz.func115, Tryz.ntmps115
  go_wp2_with fail
  refine (left_any R a rest.length cap w h0).mono ?_
  rintro en w1 ⟨rfl, rfl⟩
  go_wp2_with fail
  refine (fail_any R 0 10 w1 hE).mono ?_
  rintro en w2 ⟨rfl, hE2, hg2⟩
  go_wp2_with fail
  go_ret
  exact ⟨rfl, ⟨hE2, fun h => by cases h⟩, hg2⟩
set_option maxHeartbeats 800000 in
theorem next_there (R : Nat) (rest : List Int) (n : Int) (w : World) (h : St w R rest 0) (hn0 : 0 ≤ n) (hn : n ≤ (rest.length : Int)) :
    Calls Tryz.prog 115 #[.pointer (some ⟨R, 0, none⟩), .int .i64 n] w fun en w' => ∃ a cap, en = .returned (.slice a n.toNat cap) ∧ n.toNat ≤ cap ∧ RowAt w' a (rest.take n.toNat) ∧ St w' R (rest.drop n.toNat) 0 ∧ w.grownBy w' (some R) := by
  obtain ⟨hE, hR⟩ := h
  obtain ⟨a, cap, h0, hc, hm, hrow, hlt⟩ := hR rfl
  have hne := lt_ne hlt
  obtain ⟨q, hq⟩ : ∃ q : Nat, n.toNat = q := ⟨_, rfl⟩
  have hqn : (q : Int) = n := by omega
  rw [hq]
  have ct := take_any R a q rest.length cap w h0 hE.2.2.2.2.1 (by omega) hc hm
  rw [hqn] at ct
  have hE2 := hE.set0 (cutA a cap q) (rest.length - q) (cap - q)
  have hg2 := gb_set w R 0 (.slice (cutA a cap q) (rest.length - q) (cap - q))
  have hr2 := (hrow.take q).gb hg2 (.inr hne)
  have h02 : (w.setCell ⟨R, 0, none⟩ (.slice (cutA a cap q) (rest.length - q) (cap - q))).cell? ⟨R, 0, none⟩ = some (.slice (cutA a cap q) (rest.length - q) (cap - q)) := World.cell?_setCell_same _ _ _ h0
  have hRest : Rest (w.setCell ⟨R, 0, none⟩ (.slice (cutA a cap q) (rest.length - q) (cap - q))) R (rest.drop q) :=
    ⟨cutA a cap q, cap - q, by rw [List.length_drop]; exact h02, by rw [List.length_drop]; omega, by omega, (hrow.drop q cap (by omega) hc).gb hg2 (.inr (cutA_ne hne)), cutA_lt hlt⟩
  have hqc : q ≤ cap := by omega
  generalize w.setCell ⟨R, 0, none⟩ (.slice (cutA a cap q) (rest.length - q) (cap - q)) = W2 at *
  have hnn : ¬ ((rest.length : Int) < n) := by omega
  clear hq hqn
  go_enter Tryz.func115, Tryz.ntmps115
  go_wp2_with fail
  refine (left_any R a rest.length cap w h0).mono ?_
  rintro en w1 ⟨rfl, rfl⟩
  go_wp2_with fail
  refine ct.mono ?_
  rintro en w2 ⟨rfl, rfl⟩
  go_wp2_with fail
  go_ret
  exact ⟨a, cap, rfl, hqc, hr2, ⟨hE2, fun _ => hRest⟩, hg2⟩
/-- what Text answers (as bytes), what is ahead then, the error then -/
def textS (rest : List Int) (e most : Int) : List Int × List Int × Int :=
  if (numS rest e 9223372036854775807).2.2 = 0 then
    if most < (numS rest e 9223372036854775807).1 then ([], rest, 3)
    else if ((numS rest e 9223372036854775807).2.1.length : Int) < (numS rest e 9223372036854775807).1 then ([], rest, 10)
    else ((numS rest e 9223372036854775807).2.1.take (numS rest e 9223372036854775807).1.toNat, (numS rest e 9223372036854775807).2.1.drop (numS rest e 9223372036854775807).1.toNat, 0)
  else ([], rest, (numS rest e 9223372036854775807).2.2)
theorem St.other {w : World} {R : Nat} {rest : List Int} {e : Int} (h : St w R rest e) (he : e ≠ 0) (rest' : List Int) : St w R rest' e := ⟨h.1, fun h0 => absurd h0 he⟩
set_option maxHeartbeats 1600000 in
theorem text_any (R : Nat) (rest : List Int) (e most : Int) (w : World) (h : St w R rest e) (hpos : 0 ≤ (numS rest e 9223372036854775807).1) :
    Calls Tryz.prog 107 #[.pointer (some ⟨R, 0, none⟩), .int .i64 most] w fun en w' => en = .returned (.string (strOf (textS rest e most).1)) ∧ St w' R (textS rest e most).2.1 (textS rest e most).2.2 ∧ w.grownBy w' (some R) := by
  have cn := num_any R rest e 9223372036854775807 w h
  have HT : Hid (textS rest e most = if (numS rest e 9223372036854775807).2.2 = 0 then
    (if most < (numS rest e 9223372036854775807).1 then ([], rest, 3)
    else if ((numS rest e 9223372036854775807).2.1.length : Int) < (numS rest e 9223372036854775807).1 then ([], rest, 10)
    else ((numS rest e 9223372036854775807).2.1.take (numS rest e 9223372036854775807).1.toNat, (numS rest e 9223372036854775807).2.1.drop (numS rest e 9223372036854775807).1.toNat, 0))
    else ([], rest, (numS rest e 9223372036854775807).2.2)) := rfl
  generalize (numS rest e 9223372036854775807).1 = n at *
  generalize (numS rest e 9223372036854775807).2.1 = r1 at *
  generalize (numS rest e 9223372036854775807).2.2 = e1 at *
  have hs0 : strOf [] = ⟨#[]⟩ := rfl
  by_cases he : e1 = 0
  · subst he
    rw [if_pos rfl] at HT
    by_cases hmost : most < n
    · rw [if_pos hmost] at HT
      go_enter Tryz.func107, Tryz.ntmps107
      go_wp2_with fail
      refine cn.mono ?_
      rintro en w1 ⟨rfl, hS1, hg1⟩
      clear cn
      go_wp2_with fail
      refine (err_made R 0 w1 hS1.1).mono ?_
      rintro en w2 ⟨rfl, rfl⟩
      go_wp2_with fail
      refine (fail_any R 0 3 w2 hS1.1).mono ?_
      rintro en w3 ⟨rfl, hE3, hg3⟩
      go_wp2_with fail
      go_ret
      rw [HT.out]
      exact ⟨rfl, ⟨hE3, fun h => by cases h⟩, gb_trans hg1 hg3⟩
    · rw [if_neg hmost] at HT
      by_cases hlen : (r1.length : Int) < n
      · rw [if_pos hlen] at HT
        have sn : ∀ w : World, (convert 35 9 (.slice none 0 0)).run Tryz.prog w = .ok (.string ⟨#[]⟩) w := fun w => (nil_row w).str 0
        go_enter Tryz.func107, Tryz.ntmps107
        go_wp2_with fail
        refine cn.mono ?_
        rintro en w1 ⟨rfl, hS1, hg1⟩
        clear cn
        go_wp2_with fail
        refine (err_made R 0 w1 hS1.1).mono ?_
        rintro en w2 ⟨rfl, rfl⟩
        go_wp2_with fail
        refine (next_few R r1 n w2 hS1 hlen).mono ?_
        rintro en w3 ⟨rfl, hS3, hg3⟩
        have s3 := sn w3
        go_wp2_with fail
        go_ret
        rw [HT.out]
        exact ⟨rfl, hS3.other (by omega) _, gb_trans hg1 hg3⟩
      · rw [if_neg hlen] at HT
        go_enter Tryz.func107, Tryz.ntmps107
        go_wp2_with fail
        refine cn.mono ?_
        rintro en w1 ⟨rfl, hS1, hg1⟩
        clear cn
        go_wp2_with fail
        refine (err_made R 0 w1 hS1.1).mono ?_
        rintro en w2 ⟨rfl, rfl⟩
        go_wp2_with fail
        refine (next_there R r1 n w2 hS1 hpos (by omega)).mono ?_
        rintro en w3 ⟨a, cap, rfl, hca, hra, hS3, hg3⟩
        have s3 := hra.str cap
        rw [List.length_take_of_le (by omega)] at s3
        go_wp2_with fail
        go_ret
        rw [HT.out]
        exact ⟨rfl, hS3, gb_trans hg1 hg3⟩
  · rw [if_neg he] at HT
    have he' : (e1 == 0) = false := by simpa using he
    go_enter Tryz.func107, Tryz.ntmps107
    go_wp2_with fail
    refine cn.mono ?_
    rintro en w1 ⟨rfl, hS1, hg1⟩
    clear cn
    go_wp2_with fail
    refine (err_made R e1 w1 hS1.1).mono ?_
    rintro en w2 ⟨rfl, rfl⟩
    go_wp2_with fail
    go_ret
    rw [HT.out]
    exact ⟨rfl, hS1.other he _, hg1⟩
end Go.Proofs.YtfkchnjbbbhmjaaGreat.Ty
namespace Go.Proofs.YtfkchnjbbbhmjaaGreat.Ty
open Go.RowKit
namespace Tal
theorem digs_val (ds : List Int) (hz : ∀ z ∈ ds, 0 ≤ z ∧ z < 256) (hh : ds.head? ≠ some 0) (hv : val ds ≤ 9223372036854775807) : digs (val ds).toNat = ds := by
  have key : ∀ k, k ≤ ds.length → val (ds.take k) ≤ 9223372036854775807 → digs (val (ds.take k)).toNat = ds.take k := by
    intro k
    induction k with
    | zero => intro _ _; simp [val, digs_zero]
    | succ k ih =>
      intro hk hle
      have hlt : k < ds.length := by omega
      have e := val_take ds k hlt
      have hb := val_bound (ds.take k) (fun z h => hz z (List.mem_of_mem_take h))
      have hd : 0 ≤ ds.getD k 0 ∧ ds.getD k 0 < 256 := by
        rw [List.getD_eq_getElem?_getD, List.getElem?_eq_getElem hlt]; exact hz _ (List.getElem_mem hlt)
      have hi := ih (by omega) (by omega)
      have hpos : 0 < val (ds.take (k + 1)) := by
        by_cases h0 : k = 0
        · subst h0
          have : val (ds.take 0) = 0 := by simp [val]
          rw [e, this]
          cases ds with
          | nil => simp at hlt
          | cons x tl => simp at hh hd ⊢; omega
        · have : 0 < val (ds.take k) := by
            rcases Int.lt_or_eq_of_le hb.1 with h | h
            · exact h
            · rw [← h] at hi
              have hl := congrArg List.length hi
              rw [List.length_take_of_le (by omega)] at hl
              have : (digs (0 : Int).toNat).length = 0 := by decide
              omega
          omega
      have ht : ds.take (k + 1) = ds.take k ++ [ds.getD k 0] := by
        rw [List.take_succ_eq_append_getElem hlt, List.getD_eq_getElem?_getD, List.getElem?_eq_getElem hlt]; rfl
      have e1 : (val (ds.take (k + 1))).toNat / 256 = (val (ds.take k)).toNat := by omega
      have e2 : ((((val (ds.take (k + 1))).toNat % 256 : Nat)) : Int) = ds.getD k 0 := by omega
      rw [digs_succ _ (by omega) (by omega), e1, e2, hi, ht]
  have := key ds.length (Nat.le_refl _)
  rw [List.take_length] at this
  exact this hv
/-- what was read as a number, put again, is what was read -/
theorem numR_form (zs : List Int) (hz : ∀ z ∈ zs, 0 ≤ z ∧ z < 256) (h : (numR zs).2.2 = 0) :
    putL (numR zs).1 = zs.take (numR zs).2.1 ∧ (numR zs).2.1 ≤ zs.length ∧ 0 ≤ (numR zs).1 ∧ (numR zs).1 ≤ 9223372036854775807 := by
  cases zs with
  | nil => simp [numR] at h
  | cons k tl =>
    have hk := hz k (by simp)
    by_cases h8 : 8 < k
    · simp [numR, h8] at h
    · by_cases hl : (tl.length : Int) < k
      · simp [numR, h8, hl] at h
      · by_cases hv : (valR (tl.take k.toNat)).2 = 0
        · have e : numR (k :: tl) = ((valR (tl.take k.toNat)).1, 1 + k.toNat, 0) := by simp only [numR, if_neg h8, if_neg hl, if_pos hv]
          rw [e]
          have hds : ∀ z ∈ tl.take k.toNat, 0 ≤ z ∧ z < 256 := fun z h => hz z (by simp [List.mem_of_mem_take h])
          have hb := val_bound _ hds
          have hnot : ¬ ((tl.take k.toNat).head? = some 0 ∨ 9223372036854775807 < val (tl.take k.toNat)) := by
            intro hc; unfold valR at hv; rw [if_pos hc] at hv; cases hv
          have e1 : (valR (tl.take k.toNat)).1 = val (tl.take k.toNat) := by unfold valR; rw [if_neg hnot]
          have hlen : (tl.take k.toNat).length = k.toNat := List.length_take_of_le (by omega)
          have hd := digs_val (tl.take k.toNat) hds (fun h => hnot (Or.inl h)) (by omega)
          have hw : (wid (val (tl.take k.toNat)).toNat : Int) = k := by
            rw [← digs_length, hd, hlen]; omega
          simp only [e1]
          refine ⟨?_, by simp; omega, hb.1, by omega⟩
          unfold putL
          rw [if_neg (by omega), numB, hd, hw, Nat.add_comm]
          rfl
        · simp only [numR, if_neg h8, if_neg hl, if_neg hv] at h
          exact absurd h hv
end Tal
open Tal
set_option maxHeartbeats 400000 in
theorem leftR_any (R : Nat) (rest : List Int) (e : Int) (w : World) (h : St w R rest e) :
    Calls Tryz.prog 106 #[.pointer (some ⟨R, 0, none⟩)] w fun en w' => en = .returned (.int .i64 (if e = 0 then (rest.length : Int) else 0)) ∧ w' = w := by
  obtain ⟨hE, hR⟩ := h
  by_cases he : e = 0
  · subst he
    obtain ⟨a, cap, h0, _⟩ := hR rfl
    go_enter Tryz.func106, Tryz.ntmps106
    go_wp2_with fail
    refine (err_made R 0 w hE).mono ?_
    rintro en w1 ⟨rfl, rfl⟩
    go_wp2_with fail
    refine (left_any R a rest.length cap w1 h0).mono ?_
    rintro en w2 ⟨rfl, rfl⟩
    go_wp2_with fail
    go_ret
    exact ⟨rfl, rfl⟩
  · have he' : (e == 0) = false := by simpa using he
    go_enter Tryz.func106, Tryz.ntmps106
    go_wp2_with fail
    refine (err_made R e w hE).mono ?_
    rintro en w1 ⟨rfl, rfl⟩
    go_wp2_with fail
    go_ret
    exact ⟨rfl, rfl⟩
end Go.Proofs.YtfkchnjbbbhmjaaGreat.Ty
