/- The xors' law: the walk. -/
import Derived.Test.YtiihfjoikoogfabBurstsWalk
import Derived.Test.YtiihfjoikoogfabQuiet
import Derived.WalkLawsBesides
import Derived.Deep.OwnRows
namespace Go.Proofs.Ytiihfjoikoogfab
open Go.RowKit
open Crc
def n4 (a b c : Nat) : Nat := min (min (min a b) c) 5000
theorem n4_run (ts : Array TypeId) (t : TypeId) (a b c : Nat) (w : World) : (Builtin.min_ ts t #[.int .i64 a, .int .i64 b, .int .i64 c, .int .i64 5000]).run Try.prog w = .ok (.int .i64 (n4 a b c : Nat)) w := by
  simp [Builtin.min_, Builtin.min2, n4]
  omega
/-- xor of three bytes, as the walk has it -/
def x3 (a b c : Int) : Int := bits .xor .u8 (bits .xor .u8 a b) c
theorem x3_nat (a b c : Int) (ha : 0 ≤ a ∧ a < 256) (hb : 0 ≤ b ∧ b < 256) (hc : 0 ≤ c ∧ c < 256) : 0 ≤ x3 a b c ∧ x3 a b c < 256 ∧ (x3 a b c).toNat = a.toNat ^^^ b.toNat ^^^ c.toNat := by
  have h1 : a.toNat ^^^ b.toNat < 2 ^ 8 := Nat.xor_lt_two_pow (by omega) (by omega)
  have h2 : a.toNat ^^^ b.toNat ^^^ c.toNat < 2 ^ 8 := Nat.xor_lt_two_pow h1 (by omega)
  unfold x3
  rw [u8_xor a b ha.1 ha.2 hb.1 hb.2, u8_xor _ c (by omega) (by omega) hc.1 hc.2]
  simp only [Int.toNat_natCast]
  exact ⟨by omega, by omega, trivial⟩
theorem crc_three (ps bs cs xs : List Int) (hb : bs.length = ps.length) (hc : cs.length = ps.length) (hx : xs.length = ps.length)
    (ha' : ∀ z ∈ ps, 0 ≤ z ∧ z < 256) (hb' : ∀ z ∈ bs, 0 ≤ z ∧ z < 256) (hc' : ∀ z ∈ cs, 0 ≤ z ∧ z < 256) (hx' : ∀ z ∈ xs, 0 ≤ z ∧ z < 256)
    (h : ∀ j, j < ps.length → (xs.getD j 0).toNat = (ps.getD j 0).toNat ^^^ (bs.getD j 0).toNat ^^^ (cs.getD j 0).toNat) :
    crc start xs = crc start ps ^^^ crc start bs ^^^ crc start cs := by
  rw [crc_bits start ps ha', crc_bits start bs hb', crc_bits start cs hc', crc_bits start xs hx', hb, hc, hx, ← crcB_xor, ← crcB_xor]
  have e : start ^^^ start ^^^ start = start := by rw [BitVec.xor_self, BitVec.zero_xor]
  rw [e]
  apply crcB_congr
  intro p hp
  unfold bitAt
  rw [h (p / 8) (by omega), Nat.testBit_xor, Nat.testBit_xor]
theorem crc_three_int (ps bs cs xs : List Int) (h : crc start xs = crc start ps ^^^ crc start bs ^^^ crc start cs) :
    (((crc start xs).toNat : Int) == bits .xor .i64 (bits .xor .i64 ((crc start ps).toNat : Int) ((crc start bs).toNat : Int)) ((crc start cs).toNat : Int)) = true := by
  have h1 := (crc start ps).isLt
  have h2 := (crc start bs).isLt
  have h3 := (crc start cs).isLt
  have h4 : (crc start ps).toNat ^^^ (crc start bs).toNat < 2 ^ 24 := Nat.xor_lt_two_pow h1 h2
  rw [i64_xor _ _ (by omega) (by omega), i64_xor _ _ (by omega) (by omega), h, BitVec.toNat_xor, BitVec.toNat_xor]
  simp
theorem RowAt.get {w : World} {a : Option Addr} {zs : List Int} (h : RowAt w a zs) (k : Nat) (hk : k < zs.length) : ∃ b off, a = some ⟨b, off, none⟩ ∧ b < w.heap.size ∧ w.cell? ⟨b, off + k, none⟩ = some (.int .u8 (zs.getD k 0)) ∧ 0 ≤ zs.getD k 0 ∧ zs.getD k 0 < 256 := by
  obtain ⟨h1, h2, rfl | ⟨b, off, rfl, hb, hc⟩⟩ := h
  · simp at hk
  · refine ⟨b, off, rfl, hb, hc k hk, ?_⟩
    rw [List.getD_eq_getElem?_getD, List.getElem?_eq_getElem hk]; exact h2 _ (List.getElem_mem hk)
set_option maxHeartbeats 1600000 in
theorem xors_walk (a0 a1 a2 : Option Addr) (c0 c1 c2 : Nat) (z0 z1 z2 : List Int) (w : World) (h0 : RowAt w a0 z0) (h1 : RowAt w a1 z1) (h2 : RowAt w a2 z2) (k0 : z0.length ≤ c0) (k1 : z1.length ≤ c1) (k2 : z2.length ≤ c2) :
    Calls Try.prog 6 #[.slice a0 z0.length c0, .slice a1 z1.length c1, .slice a2 z2.length c2] w fun e w' => e = .returned (.bool true) ∧ Below w.heap.size w w' := by
  obtain ⟨n, hn0, hn1, hn2, hn3, hmin⟩ : ∃ n : Nat, n ≤ z0.length ∧ n ≤ z1.length ∧ n ≤ z2.length ∧ n ≤ 5000 ∧ ∀ ts t w, (Builtin.min_ ts t #[.int .i64 z0.length, .int .i64 z1.length, .int .i64 z2.length, .int .i64 5000]).run Try.prog w = .ok (.int .i64 (n : Int)) w :=
    ⟨n4 z0.length z1.length z2.length, by unfold n4; omega, by unfold n4; omega, by unfold n4; omega, by unfold n4; omega, fun ts t w => n4_run ts t _ _ _ w⟩
  have hmk := fun w => run_make_row' (P := Try.prog) 22 5 (.int .u8 0) 1 Try.underlying22 info5 rfl .i64 .i64 n (by omega) (by omega) w
  go_enter Try.func6, Try.ntmps6
  go_wp2_with fail
  have hbW : Below w.heap.size w (w.alloc (.cells (madeCells #[.int .u8 0] n) 5)) := (Below.refl _ _).alloc (Nat.le_refl _) _
  go_loopw [21] (fun i wr => ∃ (k : Nat) (xs : List Int), k ≤ n ∧ i = .int .i64 k ∧ Hid (xs.length = n ∧ (∀ z ∈ xs, 0 ≤ z ∧ z < 256) ∧ ∀ j, j < k → xs.getD j 0 = x3 (z0.getD j 0) (z1.getD j 0) (z2.getD j 0)) ∧ RowW wr w.heap.size xs ∧ Below w.heap.size w wr) (fun i _ => n - (intOf i).toNat)
  case atStart =>
    refine ⟨0, List.replicate n 0, by omega, rfl, ⟨by simp, fun z hz => ?_, fun j hj => by omega⟩, ⟨by simp, fun j hj => ?_, fun j hj => ?_⟩, hbW⟩
    · rw [List.mem_replicate] at hz; omega
    · rw [List.length_replicate] at hj
      rw [World.cell?_alloc_at _ _ _ _ rfl, ← Array.getElem?_toList, toList_madeCells_one, List.getElem?_replicate_of_lt hj, List.getD_eq_getElem?_getD, List.getElem?_replicate_of_lt hj]
      rfl
    · exact World.frozen?_alloc_at _ _ _ _ rfl
  case round =>
    obtain ⟨k, xs, hk, rfl, hxs, hrw, hbel⟩ := hrel
    by_cases hlt : k < n
    · obtain ⟨b0, o0, rfl, hb0, e0, hz0⟩ := h0.get k (by omega)
      obtain ⟨b1, o1, rfl, hb1, e1, hz1⟩ := h1.get k (by omega)
      obtain ⟨b2, o2, rfl, hb2, e2, hz2⟩ := h2.get k (by omega)
      obtain ⟨q0, f0, E0⟩ : ∃ q, wr.cell? ⟨b0, o0 + k, none⟩ = some (.int .u8 q) ∧ Hid (z0.getD k 0 = q) := ⟨_, (hbel.cell (by exact hb0)).trans e0, rfl⟩
      obtain ⟨q1, f1, E1⟩ : ∃ q, wr.cell? ⟨b1, o1 + k, none⟩ = some (.int .u8 q) ∧ Hid (z1.getD k 0 = q) := ⟨_, (hbel.cell (by exact hb1)).trans e1, rfl⟩
      obtain ⟨q2, f2, E2⟩ : ∃ q, wr.cell? ⟨b2, o2 + k, none⟩ = some (.int .u8 q) ∧ Hid (z2.getD k 0 = q) := ⟨_, (hbel.cell (by exact hb2)).trans e2, rfl⟩
      have hkx : k < xs.length := by rw [hxs.out.1]; exact hlt
      have hcx : ∃ v, wr.cell? ⟨w.heap.size, k, none⟩ = some v := ⟨_, hrw.2.1 k hkx⟩
      obtain ⟨v, hcx⟩ := hcx
      have hfx := hrw.2.2 k hkx
      have g0 : (k : Int) < z0.length := by omega
      have g1 : (k : Int) < z1.length := by omega
      have g2 : (k : Int) < z2.length := by omega
      clear hkx e0 e1 e2
      go_wp2_with fail
      go_region
      go_wp2_with fail
      go_roundw
      case rel =>
        obtain ⟨x1, x2, x3'⟩ := hxs.out
        have y0 := E0.out
        have y1 := E1.out
        have y2 := E2.out
        have y3 := x3_nat (z0.getD k 0) (z1.getD k 0) (z2.getD k 0) hz0 hz1 hz2
        have y4 : bits .xor .u8 (bits .xor .u8 q0 q1) q2 = x3 (z0.getD k 0) (z1.getD k 0) (z2.getD k 0) := by rw [y0, y1, y2]; rfl
        rw [y4]
        refine ⟨k + 1, xs.set k _, by omega, by go_num, ⟨by rw [List.length_set]; exact x1, fun z hz => ?_, fun j hj => ?_⟩, hrw.set k (by omega) _, (hbel.setCell (p := ⟨w.heap.size, k, none⟩) (Nat.le_refl _) _).drew⟩
        · rcases List.mem_or_eq_of_mem_set hz with hz | rfl
          · exact x2 z hz
          · exact ⟨y3.1, y3.2.1⟩
        · by_cases hjk : j = k
          · subst hjk
            rw [List.getD_eq_getElem?_getD, List.getElem?_set_self (by omega)]; rfl
          · rw [List.getD_eq_getElem?_getD, List.getElem?_set_ne (by omega), ← List.getD_eq_getElem?_getD]
            exact x3' j (by omega)
      case measure => simp [intOf]; omega
    · obtain rfl : k = n := by omega
      obtain ⟨x1, x2, x3'⟩ := hxs.out
      have hfin := crc_three_int (z0.take k) (z1.take k) (z2.take k) xs (crc_three _ _ _ _ (by simp only [List.length_take]; omega) (by simp only [List.length_take]; omega) (by simp only [List.length_take]; omega)
        (fun z hz => h0.2.1 z (List.mem_of_mem_take hz)) (fun z hz => h1.2.1 z (List.mem_of_mem_take hz)) (fun z hz => h2.2.1 z (List.mem_of_mem_take hz)) x2 (fun j hj => by
          rw [List.length_take] at hj
          have hj0 := (h0.get j (by omega))
          have hj1 := (h1.get j (by omega))
          have hj2 := (h2.get j (by omega))
          obtain ⟨_, _, _, _, _, q0⟩ := hj0
          obtain ⟨_, _, _, _, _, q1⟩ := hj1
          obtain ⟨_, _, _, _, _, q2⟩ := hj2
          rw [x3' j (by omega), (x3_nat _ _ _ q0 q1 q2).2.2]
          simp only [List.getD_eq_getElem?_getD, List.getElem?_take, if_pos (show j < k by omega)]))
      have e0 : (z0.take k).length = k := List.length_take_of_le (by omega)
      have e1 : (z1.take k).length = k := List.length_take_of_le (by omega)
      have e2 : (z2.take k).length = k := List.length_take_of_le (by omega)
      have cx := fun u : After wr => sum_any (some ⟨w.heap.size, 0, none⟩) k xs u.val ((hrw.rowAt (by rw [x1]; unfold maxLen; omega) x2).below u.ok)
      have ca := fun u : After wr => sum_any a0 c0 (z0.take k) u.val (((h0.take k).below hbel).below u.ok)
      have cb := fun u : After wr => sum_any a1 c1 (z1.take k) u.val (((h1.take k).below hbel).below u.ok)
      have cc := fun u : After wr => sum_any a2 c2 (z2.take k) u.val (((h2.take k).below hbel).below u.ok)
      rw [x1] at cx
      rw [e0] at ca
      rw [e1] at cb
      rw [e2] at cc
      have hne := After.some wr
      clear x1 x2 x3' e0 e1 e2 hmk hmin
      go_wp2_with fail
      refine wp_region_after (by kernel_rfl) (by kernel_rfl) ?_
      go_big_quiet_step (fail)
      go_big_quiet_want
      go_big_quiet_op
      refine ⟨_, fun u => after_call (cx u), ?_⟩
      go_big_quiet_on
      go_big_quiet_step (fail)
      go_big_quiet_step (fail)
      go_big_quiet_step (fail)
      go_big_quiet_want
      go_big_quiet_op
      refine ⟨_, fun u => after_call (ca u), ?_⟩
      go_big_quiet_on
      go_big_quiet_step (fail)
      go_big_quiet_step (fail)
      go_big_quiet_step (fail)
      go_big_quiet_want
      go_big_quiet_op
      refine ⟨_, fun u => after_call (cb u), ?_⟩
      go_big_quiet_on
      go_big_quiet_step (fail)
      go_big_quiet_step (fail)
      go_big_quiet_step (fail)
      go_big_quiet_step (fail)
      go_big_quiet_want
      go_big_quiet_op
      refine ⟨_, fun u => after_call (cc u), ?_⟩
      go_big_quiet_on
      go_big_quiet_step (fail)
      go_big_quiet_step (fail)
      go_big_quiet_step (fail)
      go_big_quiet_want
      go_big_quiet_op
      refine ⟨_, fun u => after_call (lives_any u.val), ?_⟩
      go_big_quiet_on
      go_big_quiet_step (fail)
      go_big_quiet_step (fail)
      refine wpQuiet_nil ?_
      rintro _ ⟨u, rfl⟩
      go_wp2
      go_ret
      exact ⟨rfl, hbel.trans (u.ok.mono hbel.size)⟩
end Go.Proofs.Ytiihfjoikoogfab
