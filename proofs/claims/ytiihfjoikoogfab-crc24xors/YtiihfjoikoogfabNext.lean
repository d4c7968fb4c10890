/- crc24.Next, Sum, Fits: contracts over any slice of bytes. -/
import Derived.Test.YtiihfjoikoogfabFrom
namespace Go.Proofs.Ytiihfjoikoogfab
open Go.RowKit
open Crc
set_option maxHeartbeats 400000 in
theorem next_row (sum : Int) (b off cap : Nat) (zs : List Int) (w : World) (hb : b < w.heap.size) (hm : zs.length ≤ maxLen)
   (hz : ∀ z ∈ zs, 0 ≤ z ∧ z < 256) (hc : ∀ j, j < zs.length → w.cell? ⟨b, off + j, none⟩ = some (.int .u8 (zs.getD j 0))) :
   Calls Try.prog 10 #[.int .i64 sum, .slice (some ⟨b, off, none⟩) zs.length cap] w fun e w' => e = .returned (.int .i64 ((crc (BitVec.ofInt 24 sum) zs).toNat : Int)) ∧ Below w.heap.size w w' := by
  unfold maxLen at hm
  have e0 := low_bits sum
  generalize BitVec.ofInt 24 sum = x0 at e0 ⊢
  go_enter Try.func10, Try.ntmps10
  go_wp2_with fail
  refine (stepsFrom_any _ _ x0 rfl).mono ?_
  rintro e w1 ⟨rfl, hbx, hw1⟩
  unfold fv
  go_wp2
  go_loopw [5, 15] (fun n i wr => ∃ k : Nat, k ≤ zs.length ∧ i = .int .i64 k ∧ n = .int .i64 ((crc x0 (zs.take k)).toNat : Int) ∧ Boxed w.heap.size (crc x0 (zs.take k)) wr ∧ Below w.heap.size w wr) (fun _ i _ => zs.length - (intOf i).toNat)
  case atStart => exact ⟨0, by omega, rfl, rfl, hbx, hw1⟩
  case round =>
    obtain ⟨k, hk, rfl, rfl, hbox, hbel⟩ := hrel
    by_cases hlt : k < zs.length
    · obtain ⟨z, hcx, hz0, hz1, E2⟩ : ∃ z, wr.cell? ⟨b, off + k, none⟩ = some (.int .u8 z) ∧ 0 ≤ z ∧ z < 256 ∧ Hid (crc x0 (zs.take (k + 1)) = stepB (crc x0 (zs.take k)) z) := by
        refine ⟨zs.getD k 0, (hbel.cell (by exact hb)).trans (hc k hlt), ?_, ?_, crc_take x0 zs k hlt⟩ <;> rw [List.getD_eq_getElem?_getD, List.getElem?_eq_getElem hlt]
        · exact (hz _ (List.getElem_mem hlt)).1
        · exact (hz _ (List.getElem_mem hlt)).2
      obtain ⟨hn, hf, ht, hs⟩ := hbox
      go_wp2_with fail
      refine (clos w.heap.size (w.heap.size + 1) (crc x0 (zs.take k)) z _ hz0 hz1 (by omega) hn hf ht).mono ?_
      rintro e w2 ⟨rfl, hn2, hf2, ht2, hb2⟩
      have hbox2 : Boxed w.heap.size (crc x0 (zs.take (k + 1))) w2 := by
        have := hb2.size
        rw [E2.out]; exact ⟨hn2, hf2, ht2, by omega⟩
      clear ht ht2
      go_wp2
      go_roundw
      case rel =>
        exact ⟨k + 1, by omega, by go_num, by rw [E2.out], hbox2, hbel.trans hb2⟩
      case measure => simp [intOf]; omega
    · obtain rfl : k = zs.length := by omega
      go_wp2
      go_ret
      rw [List.take_length]
      exact ⟨rfl, hbel⟩

/-- a slice of bytes whose elements are zs (nil, empty or over memory that lies there) -/
def RowAt (w : World) (a : Option Addr) (zs : List Int) : Prop :=
  zs.length ≤ maxLen ∧ (∀ z ∈ zs, 0 ≤ z ∧ z < 256) ∧ (zs = [] ∨ ∃ b off, a = some ⟨b, off, none⟩ ∧ b < w.heap.size ∧ ∀ j, j < zs.length → w.cell? ⟨b, off + j, none⟩ = some (.int .u8 (zs.getD j 0)))

theorem RowAt.below {w w' : World} {a : Option Addr} {zs : List Int} (h : RowAt w a zs) (hb : Below w.heap.size w w') : RowAt w' a zs := by
  refine ⟨h.1, h.2.1, ?_⟩
  rcases h.2.2 with h | ⟨b, off, rfl, h1, h2⟩
  · exact Or.inl h
  · refine Or.inr ⟨b, off, rfl, Nat.lt_of_lt_of_le h1 hb.size, fun j hj => (hb.cell (p := ⟨b, off + j, none⟩) h1).trans (h2 j hj)⟩

set_option maxHeartbeats 400000 in
theorem next_none (sum : Int) (a : Option Addr) (cap : Nat) (w : World) :
   Calls Try.prog 10 #[.int .i64 sum, .slice a 0 cap] w fun e w' => e = .returned (.int .i64 ((BitVec.ofInt 24 sum).toNat : Int)) ∧ Below w.heap.size w w' := by
  have e0 := low_bits sum
  generalize BitVec.ofInt 24 sum = x0 at e0 ⊢
  go_enter Try.func10, Try.ntmps10
  go_wp2_with fail
  refine (stepsFrom_any _ _ x0 rfl).mono ?_
  rintro e w1 ⟨rfl, hbx, hw1⟩
  unfold fv
  go_wp2
  refine wp_loop_rounds 1 ?_
  rw [rounds_succ]
  go_wp2
  go_ret
  exact ⟨rfl, hw1⟩

theorem next_any (sum : Int) (a : Option Addr) (cap : Nat) (zs : List Int) (w : World) (h : RowAt w a zs) :
   Calls Try.prog 10 #[.int .i64 sum, .slice a zs.length cap] w fun e w' => e = .returned (.int .i64 ((crc (BitVec.ofInt 24 sum) zs).toNat : Int)) ∧ Below w.heap.size w w' := by
  obtain ⟨h1, h2, rfl | ⟨b, off, rfl, h3, h4⟩⟩ := h
  · exact next_none sum a cap w
  · exact next_row sum b off cap zs w h3 h1 h2 h4

def start : BitVec 24 := BitVec.ofNat 24 11994318
theorem start_of : BitVec.ofInt 24 11994318 = start := by decide
theorem sum_any (a : Option Addr) (cap : Nat) (zs : List Int) (w : World) (h : RowAt w a zs) :
   Calls Try.prog 8 #[.slice a zs.length cap] w fun e w' => e = .returned (.int .i64 ((crc start zs).toNat : Int)) ∧ Below w.heap.size w w' := by
  have c := next_any 11994318 a cap zs w h
  rw [start_of] at c
  go_enter Try.func8, Try.ntmps8
  go_wp2_with fail
  refine c.mono ?_
  rintro e w1 ⟨rfl, hw1⟩
  go_wp2
  go_ret
  exact ⟨rfl, hw1⟩

set_option maxHeartbeats 400000 in
theorem fits_any (a : Option Addr) (cap : Nat) (zs : List Int) (sum : Int) (w : World) (h : RowAt w a zs) :
   Calls Try.prog 12 #[.slice a zs.length cap, .int .i64 sum] w fun e w' => e = .returned (.bool (((crc start zs).toNat : Int) == sum)) ∧ Below w.heap.size w w' := by
  go_enter Try.func12, Try.ntmps12
  go_wp2_with fail
  refine (sum_any a cap zs w h).mono ?_
  rintro e w1 ⟨rfl, hw1⟩
  go_wp2
  go_ret
  exact ⟨rfl, hw1⟩
end Go.Proofs.Ytiihfjoikoogfab
