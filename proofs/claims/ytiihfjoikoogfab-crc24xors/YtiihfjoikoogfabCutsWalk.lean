/- The cuts' law: the walk where it goes on to the pieces. -/
import Derived.Test.YtiihfjoikoogfabArgs
namespace Go.Proofs.Ytiihfjoikoogfab
open Go.RowKit
open Crc
theorem next_on (x : BitVec 24) (a : Option Addr) (cap : Nat) (zs : List Int) (w : World) (h : RowAt w a zs) :
   Calls Try.prog 10 #[.int .i64 (x.toNat : Int), .slice a zs.length cap] w fun e w' => e = .returned (.int .i64 ((crc x zs).toNat : Int)) ∧ Below w.heap.size w w' := by
  have c := next_any (x.toNat : Int) a cap zs w h
  have e : BitVec.ofInt 24 (x.toNat : Int) = x := by
    rw [BitVec.ofInt_natCast]; simp
  rw [e] at c; exact c
theorem umod (z : Int) (r : Nat) (hr : r ≤ 20000) : ∃ n : Nat, n ≤ r ∧ wrap64 ((IntKind.u64.wrap z).tmod ((r : Int) + 1)) = (n : Int) := by
  rw [IntKind.wrap_u64]
  have h0 : 0 ≤ z % 18446744073709551616 := Int.emod_nonneg _ (by decide)
  generalize z % 18446744073709551616 = q at h0
  rw [Int.tmod_eq_emod_of_nonneg h0]
  have h1 := Int.emod_nonneg q (b := (r : Int) + 1) (by omega)
  have h2 := Int.emod_lt_of_pos q (b := (r : Int) + 1) (by omega)
  refine ⟨(q % ((r : Int) + 1)).toNat, by omega, ?_⟩
  generalize q % ((r : Int) + 1) = m at h1 h2
  simp only [wrap64]
  omega
set_option maxHeartbeats 800000 in
theorem cuts_walk (a0 : Option Addr) (cap0 : Nat) (zs : List Int) (a1 : Option Addr) (cap1 : Nat) (ys : List Int) (w : World) (h0 : RowAt w a0 zs) (hc0 : zs.length ≤ cap0) (_hm0 : cap0 ≤ maxLen) (h1 : RowI w a1 ys) (hy : ∀ z ∈ ys, (Lit.int .i64 z).wf = true)
   (hl0 : zs.length ≤ 20000) (hl1 : ys.length ≤ 500) :
    Calls Try.prog 4 #[.slice a0 zs.length cap0, .slice a1 ys.length cap1] w fun e w' => e = .returned (.bool true) ∧ Below w.heap.size w w' := by
  unfold maxLen at _hm0
  have c0 := sum_any none 0 [] w ⟨by simp, by simp, Or.inl rfl⟩
  have k1 : ¬ (20000 : Int) < zs.length := by omega
  have k2 : ¬ (500 : Int) < ys.length := by omega
  go_enter Try.func4, Try.ntmps4
  go_wp2_with fail
  refine c0.mono ?_
  rintro e w1 ⟨rfl, hw1⟩
  have e1 : (crc start []) = start := rfl
  rw [e1]
  clear e1 c0
  go_wp2_with fail
  go_loopw [5, 6, 23] (fun s r i wr => ∃ (k : Nat) (pre rest : List Int) (a' : Option Addr) (cap' : Nat), k ≤ ys.length ∧ i = .int .i64 k ∧ Hid (zs = pre ++ rest) ∧ s = .int .i64 ((crc start pre).toNat : Int) ∧ r = .slice a' rest.length cap' ∧ rest.length ≤ cap' ∧ cap' ≤ cap0 ∧ rest.length ≤ 20000 ∧ RowAt wr a' rest ∧ Below w.heap.size w wr) (fun _ _ i _ => ys.length - (intOf i).toNat)
  case atStart => exact ⟨0, [], zs, a0, cap0, by omega, rfl, rfl, rfl, rfl, hc0, by omega, hl0, h0.below hw1, hw1⟩
  case round =>
    obtain ⟨k, pre, rest, a', cap', hk, rfl, hzs, rfl, rfl, hr1, hr2, hr3, hra, hbel⟩ := hrel
    by_cases hlt : k < ys.length
    · obtain ⟨b, off, rfl, hbb, hcc⟩ : ∃ b off, a1 = some ⟨b, off, none⟩ ∧ b < w.heap.size ∧ ∀ j, j < ys.length → w.cell? ⟨b, off + j, none⟩ = some (.int .i64 (ys.getD j 0)) := by
        rcases h1.2 with rfl | h
        · simp at hlt
        · exact h
      obtain ⟨z, hcx, hz⟩ : ∃ z, wr.cell? ⟨b, off + k, none⟩ = some (.int .i64 z) ∧ (Lit.int .i64 z).wf = true := by
        refine ⟨ys.getD k 0, (hbel.cell (by exact hbb)).trans (hcc k hlt), hy _ ?_⟩
        rw [List.getD_eq_getElem?_getD, List.getElem?_eq_getElem hlt]; exact List.getElem_mem hlt
      obtain ⟨n, hn, en⟩ := umod z rest.length hr3
      have c := next_on (crc start pre) a' cap' (rest.take n) wr (hra.take n)
      rw [List.length_take_of_le hn] at c
      go_wp2_with fail
      refine c.mono ?_
      rintro e w2 ⟨rfl, hw2⟩
      clear c
      go_wp2_with fail
      go_roundw
      case rel =>
        refine ⟨k + 1, pre ++ rest.take n, rest.drop n, cutA a' cap' n, cap' - n, by omega, by go_num, ?_, by rw [crc_append], by simp [cutA], by simp; omega, by omega, by simp; omega, (hra.drop n cap' hn hr1).below hw2, hbel.trans (hw2.mono hbel.size)⟩
        have := hzs.out
        show zs = _
        rw [List.append_assoc, List.take_append_drop]; exact this
      case measure => simp [intOf]; omega
    · have c := next_on (crc start pre) a' cap' rest wr hra
      rw [← crc_append, ← hzs.out] at c
      go_wp2_with fail
      refine c.mono ?_
      rintro e w2 ⟨rfl, hw2⟩
      clear c
      go_wp2_with fail
      have hb2 := hbel.trans (hw2.mono hbel.size)
      refine (sum_any a0 cap0 zs w2 (h0.below hb2)).mono ?_
      rintro e w3 ⟨rfl, hw3⟩
      have hb3 := hb2.trans (hw3.mono hb2.size)
      go_wp2_with fail
      refine (lives_any _).mono ?_
      rintro e w4 ⟨rfl, hw4⟩
      go_wp2
      go_ret
      exact ⟨rfl, hb3.trans (hw4.mono hb3.size)⟩
end Go.Proofs.Ytiihfjoikoogfab
