/- raddlelaw05.chosen: as many nodes as a quorum has. -/
import Derived.Test.YtbfhpgneaklgoaaQArgs
namespace Go.Proofs.Ytbfhpgneaklgoaa
open Go.RowKit
theorem info4 : (Try.prog.info? 4).map (fun i => (i.zero, i.size, i.bytes)) = some (some (.bool false), 1, 1) := by kernel_rfl
theorem umodn (z : Int) (m : Nat) (h0 : 0 < m) (hm : m ≤ 64) : ∃ p : Nat, p < m ∧ wrap64 ((IntKind.u64.wrap z).tmod (m : Int)) = (p : Int) := by
  rw [IntKind.wrap_u64]
  have h0' : 0 ≤ z % 18446744073709551616 := Int.emod_nonneg _ (by decide)
  generalize z % 18446744073709551616 = q at h0'
  rw [Int.tmod_eq_emod_of_nonneg h0']
  have h1 := Int.emod_nonneg q (b := (m : Int)) (by omega)
  have h2 := Int.emod_lt_of_pos q (b := (m : Int)) (by omega)
  refine ⟨(q % (m : Int)).toNat, by omega, ?_⟩
  generalize q % (m : Int) = r at h1 h2
  simp only [wrap64]
  omega
theorem most_le {m : Nat} (h : goodB (m : Int) = true) : mostI m ≤ m ∧ 0 ≤ mostI m := by
  obtain ⟨h1, h2, h3⟩ := goodB_true h
  rw [mostI_g h]; omega
theorem getD_set_true (xs : List Bool) (p q : Nat) (h : xs[q]?.getD false = true) : (xs.set p true)[q]?.getD false = true := by
  rw [List.getElem?_set]
  split
  · rename_i e; subst e
    split
    · rfl
    · rename_i hn; rw [List.getElem?_eq_none (by omega)] at h; simp at h
  · exact h
theorem getD_set_self (xs : List Bool) (p : Nat) (h : p < xs.length) : (xs.set p true)[p]?.getD false = true := by
  rw [List.getElem?_set, if_pos rfl, if_pos h]; rfl
theorem row_set {w : World} {b t m : Nat} {xs : List Bool} (hl : xs.length = m) (h : w.rowIs b t m fun j => .bool (xs[j]?.getD false)) (p : Nat) : (w.setCell ⟨b, p, none⟩ (.bool true)).rowIs b t m fun j => .bool ((xs.set p true)[j]?.getD false) := by
  refine (h.set p (.bool true)).congr ?_
  intro j hj
  show (if j = p then _ else _) = _
  rw [List.getElem?_set]
  by_cases e : p = j
  · subst e; rw [if_pos rfl, if_pos rfl, if_pos (by omega)]; rfl
  · rw [if_neg (fun q => e q.symm), if_neg e]
theorem covered {xs : List Bool} {m la i k : Nat} (hl : xs.length = m) (hk : k = xs.count true) (hc : ∀ j, la ≤ j → j < i → xs[j % m]?.getD false = true) (hi : i ≤ la + m) (hlt : k < m) : i < la + m := by
  rcases Nat.lt_or_eq_of_le hi with h | h
  · exact h
  · exfalso
    have : xs.count true = xs.length := by
      refine all_true_count xs fun r hr => ?_
      obtain ⟨j, h1, h2, h3⟩ := residue la m r (by omega)
      have := hc j h1 (by omega)
      rw [h3, List.getElem?_eq_getElem hr] at this
      exact this
    omega
set_option maxHeartbeats 1000000 in
theorem chosen_nat (m : Nat) (hg : goodB (m : Int) = true) (a : Option Addr) (cap : Nat) (ys : List Int) (w : World) (hy : RowI w a ys) (hl : ys.length ≤ 500) :
    Calls Try.prog 23 #[.int .i64 (m : Int), .slice a ys.length cap] w fun e w' => ∃ xs : List Bool, xs.length = m ∧ (xs.count true : Int) = mostI m ∧ e = .returned (.slice (some ⟨w.heap.size, 0, none⟩) m m) ∧ w'.rowIs w.heap.size 4 m (fun j => .bool (xs[j]?.getD false)) ∧ Below w.heap.size w w' := by
  obtain ⟨g1, g2, _⟩ := goodB_true hg
  obtain ⟨q1, q2⟩ := most_le hg
  have cm := most_any (m : Int)
  clear hg
  obtain ⟨M, hM⟩ : ∃ M, mostI (m : Int) = M := ⟨_, rfl⟩
  rw [hM] at q1 q2 cm ⊢
  have hmk := run_make_row' (P := Try.prog) 39 4 (.bool false) 1 Try.underlying39 info4 rfl .i64 .i64 m (by omega) (by omega) w
  have hrow0 := World.rowIs_made w (.bool false) m 4
  have hB0 : Below w.heap.size w (w.alloc (.cells (madeCells #[.bool false] m) 4)) := (Below.refl _ _).alloc (Nat.le_refl _) _
  clear hM
  go_enter Try.func23, Try.ntmps23
  go_wp2_with fail
  go_loopw [6, 7] (fun kv iv wr => ∃ (k i : Nat) (xs : List Bool), kv = .int .i64 (k : Int) ∧ iv = .int .i64 (i : Int) ∧ xs.length = m ∧ k = xs.count true ∧ (k : Int) ≤ M ∧ (∀ j, ys.length ≤ j → j < i → xs[j % m]?.getD false = true) ∧ i ≤ ys.length + m ∧ wr.rowIs w.heap.size 4 m (fun j => .bool (xs[j]?.getD false)) ∧ Below w.heap.size w wr) (fun _ iv _ => ys.length + m - (intOf iv).toNat)
  case atStart =>
    refine ⟨0, 0, List.replicate m false, rfl, rfl, by simp, by simp [List.count_replicate], by omega, by omega, by omega, ?_, hB0⟩
    refine hrow0.congr fun j hj => ?_
    rw [List.getElem?_replicate, if_pos hj]; rfl
  case round =>
    clear hrow0 hB0 hmk
    obtain ⟨k, i, xs, rfl, rfl, hxl, hk, hkM, hcov, hi, hrow, hbel⟩ := hrel
    have HK := hide hk
    have HX := hide hxl
    clear hk hxl
    by_cases hlt : (k : Int) < M
    · have hin := covered HX.out HK.out hcov hi (by omega)
      have HC := hide hcov
      clear hcov
      have hfr := fun p => hrow.frozen p
      by_cases hia : i < ys.length
      · obtain ⟨b, off, rfl, hbb, hcc⟩ : ∃ b off, a = some ⟨b, off, none⟩ ∧ b < w.heap.size ∧ ∀ j, j < ys.length → w.cell? ⟨b, off + j, none⟩ = some (.int .i64 (ys[j]?.getD 0)) := by
          rcases hy.2 with rfl | h
          · simp at hia
          · exact h
        obtain ⟨z, hcx⟩ : ∃ z, wr.cell? ⟨b, off + i, none⟩ = some (.int .i64 z) := ⟨_, (hbel.cell (by exact hbb)).trans (hcc i hia)⟩
        clear hcc
        obtain ⟨p, hp, ep⟩ := umodn z m (by omega) (by omega)
        have hpl : p < xs.length := by have := HX.out; omega
        have hcp : wr.cell? ⟨w.heap.size, p, none⟩ = some (.bool xs[p]) := by
          rw [hrow.cell hp, List.getElem?_eq_getElem hpl]; rfl
        cases hb : xs[p]
        · rw [hb] at hcp
          have HB := hide hb
          clear hb
          go_wp2_with (go_at_call 13; refine (cm _).mono ?_; rintro e w1 ⟨rfl, rfl⟩)
          go_roundw
          case rel =>
            refine ⟨k + 1, i + 1, xs.set p true, by go_num, by go_num, by simp [HX.out], by rw [count_set_true xs p hpl HB.out, HK.out], by omega, fun j h1 h2 => by omega, by omega, row_set HX.out hrow p, hbel.setCell (p := ⟨w.heap.size, p, none⟩) (Nat.le_refl _) _⟩
          case measure => simp [intOf]; omega
        · rw [hb] at hcp
          clear hb
          go_wp2_with (go_at_call 13; refine (cm _).mono ?_; rintro e w1 ⟨rfl, rfl⟩)
          go_roundw
          case rel =>
            exact ⟨k, i + 1, xs, rfl, by go_num, HX.out, HK.out, by omega, fun j h1 h2 => by omega, by omega, hrow, hbel⟩
          case measure => simp [intOf]; omega
      · obtain ⟨p, hp, ep⟩ : ∃ p : Nat, p < m ∧ (i : Int) % (m : Int) = (p : Int) := ⟨i % m, Nat.mod_lt _ (by omega), by rw [Int.natCast_emod]⟩
        have hpe : Hid (i % m = p) := by
          have : ((i % m : Nat) : Int) = (p : Int) := by rw [Int.natCast_emod]; exact ep
          show i % m = p
          omega
        have hpl : p < xs.length := by have := HX.out; omega
        have hcp : wr.cell? ⟨w.heap.size, p, none⟩ = some (.bool xs[p]) := by
          rw [hrow.cell hp, List.getElem?_eq_getElem hpl]; rfl
        cases hb : xs[p]
        · rw [hb] at hcp
          have HB := hide hb
          clear hb
          go_wp2_with (go_at_call 13; refine (cm _).mono ?_; rintro e w1 ⟨rfl, rfl⟩)
          go_roundw
          case rel =>
            refine ⟨k + 1, i + 1, xs.set p true, by go_num, by go_num, by simp [HX.out], by rw [count_set_true xs p hpl HB.out, HK.out], by omega, fun j h1 h2 => ?_, by omega, row_set HX.out hrow p, hbel.setCell (p := ⟨w.heap.size, p, none⟩) (Nat.le_refl _) _⟩
            rcases Nat.lt_or_eq_of_le (Nat.lt_succ_iff.1 h2) with h | rfl
            · exact getD_set_true _ _ _ (HC.out j h1 h)
            · rw [hpe.out]; exact getD_set_self _ _ hpl
          case measure => simp [intOf]; omega
        · rw [hb] at hcp
          have HB := hide hb
          clear hb
          go_wp2_with (go_at_call 13; refine (cm _).mono ?_; rintro e w1 ⟨rfl, rfl⟩)
          go_roundw
          case rel =>
            refine ⟨k, i + 1, xs, rfl, by go_num, HX.out, HK.out, by omega, fun j h1 h2 => ?_, by omega, hrow, hbel⟩
            rcases Nat.lt_or_eq_of_le (Nat.lt_succ_iff.1 h2) with h | rfl
            · exact HC.out j h1 h
            · rw [hpe.out, List.getElem?_eq_getElem hpl, HB.out]; rfl
          case measure => simp [intOf]; omega
    · have HC := hide hcov
      clear hcov
      go_wp2_with (go_at_call 13; refine (cm _).mono ?_; rintro e w1 ⟨rfl, rfl⟩)
      go_ret
      exact ⟨xs, HX.out, by have := HK.out; omega, rfl, hrow, hbel⟩
theorem chosen_any (n : Int) (hg : goodB n = true) (a : Option Addr) (cap : Nat) (ys : List Int) (w : World) (hy : RowI w a ys) (hl : ys.length ≤ 500) :
    Calls Try.prog 23 #[.int .i64 n, .slice a ys.length cap] w fun e w' => ∃ xs : List Bool, xs.length = n.toNat ∧ (xs.count true : Int) = mostI n ∧ e = .returned (.slice (some ⟨w.heap.size, 0, none⟩) n.toNat n.toNat) ∧ w'.rowIs w.heap.size 4 n.toNat (fun j => .bool (xs[j]?.getD false)) ∧ Below w.heap.size w w' := by
  obtain ⟨m, rfl⟩ := Int.eq_ofNat_of_zero_le (show 0 ≤ n by have := goodB_true hg; omega)
  rw [Int.toNat_natCast]
  exact chosen_nat m hg a cap ys w hy hl
end Go.Proofs.Ytbfhpgneaklgoaa
