/- The bursts' law: the walk where it goes on to the bits. -/
import Derived.Test.YtiihfjoikoogfabOwn
namespace Go.Proofs.Ytiihfjoikoogfab
open Go.RowKit
open Crc
/-- a row that may be written: block g from place 0 on -/
def RowW (w : World) (g : Nat) (ys : List Int) : Prop := g < w.heap.size ∧ (∀ j, j < ys.length → w.cell? ⟨g, j, none⟩ = some (.int .u8 (ys.getD j 0))) ∧ (∀ j, j < ys.length → w.frozen? ⟨g, j, none⟩ = false)

theorem own_rowW {w : World} {base : Nat} {v : Value} {zs : List Int} (h : w.ownsRow base 5 1 v zs.length (zs.map (Value.int .u8))) (hpos : 0 < zs.length) :
    ∃ g cap, v = .slice (some ⟨g, 0, none⟩) zs.length cap ∧ base ≤ g ∧ zs.length ≤ cap ∧ cap ≤ maxLen ∧ RowW w g zs := by
  rcases h.2 with ⟨rfl, h0⟩ | ⟨g, cap, cur, rfl, hb, hg, hn, hcm, hcs, ht⟩
  · omega
  · refine ⟨g, cap, rfl, hb, hn, hcm, (Array.getElem?_eq_some_iff.1 hg).1, fun j hj => ?_, fun j hj => ?_⟩
    · have := h.cells (g := g) rfl j (.int .u8 (zs.getD j 0)) (by rw [List.getElem?_map, List.getElem?_eq_getElem hj, List.getD_eq_getElem?_getD, List.getElem?_eq_getElem hj]; rfl)
      by_cases h0 : j = 0
      · subst h0; simpa [Addr.add] using this
      · simpa [Addr.add, h0] using this
    · simp [World.frozen?, hg]
theorem RowW.set {w : World} {g : Nat} {ys : List Int} (h : RowW w g ys) (q : Nat) (hq : q < ys.length) (z : Int) : RowW (w.setCell ⟨g, q, none⟩ (.int .u8 z)).drew g (ys.set q z) := by
  obtain ⟨h1, h2, h3⟩ := h
  refine ⟨by simpa [World.setCell] using h1, fun j hj => ?_, fun j hj => ?_⟩
  · rw [List.length_set] at hj
    show (w.setCell ⟨g, q, none⟩ (.int .u8 z)).cell? ⟨g, j, none⟩ = _
    by_cases hjq : j = q
    · subst hjq
      rw [World.cell?_setCell_same _ _ _ (h2 j hj), List.getD_eq_getElem?_getD, List.getElem?_set_self hj]
      rfl
    · rw [World.cell?_setCell_other _ _ _ _ (by simp), h2 j hj, List.getD_eq_getElem?_getD, List.getD_eq_getElem?_getD, List.getElem?_set_ne (by omega)]
  · rw [List.length_set] at hj
    exact (World.frozen?_setCell _ _ _ _).trans (h3 j hj)
theorem RowW.rowAt {w : World} {g : Nat} {ys : List Int} (h : RowW w g ys) (hm : ys.length ≤ maxLen) (hz : ∀ z ∈ ys, 0 ≤ z ∧ z < 256) : RowAt w (some ⟨g, 0, none⟩) ys :=
  ⟨hm, hz, Or.inr ⟨g, 0, rfl, h.1, fun j hj => by rw [Nat.zero_add]; exact h.2.1 j hj⟩⟩
theorem and_one (B k : Nat) : bits .and .i64 ((B : Int) / 2 ^ k) 1 = if B.testBit k then 1 else 0 := by
  have e : ((B : Int) / 2 ^ k) = ((B / 2 ^ k : Nat) : Int) := by
    rw [Int.natCast_ediv, Int.natCast_pow]; rfl
  have h1 : (BitVec.ofInt 64 1).toNat = 1 := by decide
  rw [e]
  show IntKind.i64.wrap ((BitVec.ofInt 64 ((B / 2 ^ k : Nat) : Int) &&& BitVec.ofInt 64 1).toNat : Int) = _
  rw [BitVec.toNat_and, h1, Nat.and_one_is_mod, BitVec.toNat_ofInt, wrap_i64_small _ (by omega), Nat.testBit_eq_decide_div_mod_eq]
  by_cases h : B / 2 ^ k % 2 = 1
  · simp [h]; omega
  · simp [h]; omega
theorem xor_u8 (z : Int) (r : Nat) (h0 : 0 ≤ z) (h1 : z < 256) : bits .xor .u8 z (128 / 2 ^ r) = ((z.toNat ^^^ (128 / 2 ^ r) : Nat) : Int) := by
  have e : ((128 : Int) / 2 ^ r) = ((128 / 2 ^ r : Nat) : Int) := by
    rw [Int.natCast_ediv, Int.natCast_pow]; rfl
  have hle : 128 / 2 ^ r ≤ 128 := Nat.div_le_self _ _
  generalize 128 / 2 ^ r = m at hle e
  rw [e, u8_xor _ _ h0 h1 (by omega) (by omega)]
  rfl
theorem tog_out {B n k p : Nat} (h : ¬ (n ≤ p ∧ p < n + k)) : tog B n k p = false := by simp [tog, h]
theorem burst_end (zs ys : List Int) (B n k : Nat) (s : Bool) (hz : ∀ z ∈ zs, 0 ≤ z ∧ z < 256) (hk : k ≤ 24) (hnk : n + k ≤ 8 * zs.length)
    (h : ys.length = zs.length ∧ (∀ z ∈ ys, 0 ≤ z ∧ z < 256) ∧ (∀ p, p < 8 * zs.length → bitAt ys p = (bitAt zs p ^^ tog B n k p)) ∧ (s = true ↔ ∀ j, j < k → B.testBit j = false)) :
    (((crc start ys).toNat : Int) == ((crc start zs).toNat : Int)) = s := by
  obtain ⟨h1, h2, h3, h4⟩ := h
  have e1 : crc start ys = crc start zs ^^^ crcB 0 (tog B n k) (8 * zs.length) := by
    rw [crc_bits start ys h2, crc_bits start zs hz, h1, ← crcB_xor]
    simp only [BitVec.ofNat_eq_ofNat, BitVec.xor_zero]
    exact crcB_congr _ _ _ _ h3
  have hb := burst (tog B n k) n k (8 * zs.length) hk hnk (fun p hp => tog_out (by omega)) (fun p hp => tog_out (by omega))
  have ht : (∀ i, i < k → tog B n k (n + i) = false) ↔ ∀ j, j < k → B.testBit j = false := by
    constructor
    · intro h i hi
      have := h i hi
      have e : n + i - n = i := by omega
      simpa [tog, hi, e] using this
    · intro h i hi
      have e : n + i - n = i := by omega
      simp [tog, e, h i hi]
  rw [ht, ← h4] at hb
  rw [Bool.eq_iff_iff, ← hb, e1]
  simp only [beq_iff_eq, Int.natCast_inj]
  constructor
  · intro h
    have := BitVec.eq_of_toNat_eq h
    have h5 := congrArg (fun y => crc start zs ^^^ y) this
    simp only [xor_cancel, BitVec.xor_self] at h5
    exact h5
  · intro h
    rw [h]; simp
theorem umod8 (z : Int) (r : Nat) (hr : r ≤ 20000) (h0 : 0 < r) : ∃ n : Nat, n < 8 * r ∧ wrap64 ((IntKind.u64.wrap z).tmod (8 * (r : Int))) = (n : Int) := by
  rw [IntKind.wrap_u64]
  have h0 : 0 ≤ z % 18446744073709551616 := Int.emod_nonneg _ (by decide)
  generalize z % 18446744073709551616 = q at h0
  rw [Int.tmod_eq_emod_of_nonneg h0]
  have h1 := Int.emod_nonneg q (b := 8 * (r : Int)) (by omega)
  have h2 := Int.emod_lt_of_pos q (b := 8 * (r : Int)) (by omega)
  refine ⟨(q % (8 * (r : Int))).toNat, by omega, ?_⟩
  generalize q % (8 * (r : Int)) = m at h1 h2
  simp only [wrap64]
  omega
set_option maxHeartbeats 800000 in
theorem bursts_walk (a0 : Option Addr) (cap0 : Nat) (zs : List Int) (at' turn : Int) (w : World) (h0 : RowAt w a0 zs) 
   (hl0 : zs.length ≤ 20000) (hpos : 0 < zs.length) :
    Calls Try.prog 5 #[.slice a0 zs.length cap0, .int .i64 at', .int .i64 turn] w fun e w' => e = .returned (.bool true) ∧ Below w.heap.size w w' := by
  have k1 : ¬ (20000 : Int) < zs.length := by omega
  have k2 : ((zs.length : Int) == 0) = false := by simp; intro h; simp [h] at hpos
  obtain ⟨i0, hi, hz0, hz1, hz2⟩ := info_parts info5
  obtain ⟨n, hn, en⟩ := umod8 at' zs.length hl0 hpos
  have eB := low_bits turn
  have hBl := (BitVec.ofInt 24 turn).isLt
  generalize (BitVec.ofInt 24 turn).toNat = B at eB hBl
  go_enter Try.func5, Try.ntmps5
  go_wp2_with (at_builtin; refine wpList_append_own_src _ rfl _ _ 22 22 rfl w.heap.size 5 i0 (.int .u8 0) 1 1 Try.underlying22 hi hz0 hz1 hz2 rfl _ 0 [] rfl (World.ownsRow_made w #[] 0 (Nat.le_refl _) (by simp) (by simp)) (.slice a0 zs.length cap0) zs.length (zs.map (Value.int .u8)) rfl ((h0.below ((Below.refl _ _).alloc (Nat.le_refl _) _)).src cap0) ?c1 ?c2 ?c3 ?_)
  case c1 => unfold maxLen; omega
  case c2 => omega
  intro v' w1 hown hgrow
  have hb1 : Below w.heap.size w w1 := ((Below.refl _ _).alloc (Nat.le_refl _) _).grown hgrow (by simp) (fun k hk => by simp [Value.ownBlock] at hk; omega)
  obtain ⟨g, cap', rfl, hg, hcap, hcap2, hW⟩ : ∃ g cap', v' = .slice (some ⟨g, 0, none⟩) zs.length cap' ∧ w.heap.size ≤ g ∧ zs.length ≤ cap' ∧ cap' ≤ maxLen ∧ RowW w1 g zs := own_rowW hown hpos
  clear hown hgrow
  go_wp2_with fail
  go_loopw [10, 11] (fun same i wr => ∃ (k : Nat) (ys : List Int) (s : Bool), k ≤ 24 ∧ n + k ≤ 8 * zs.length ∧ i = .int .i64 k ∧ same = .bool s ∧ 
      Hid (ys.length = zs.length ∧ (∀ z ∈ ys, 0 ≤ z ∧ z < 256) ∧ (∀ p, p < 8 * zs.length → bitAt ys p = (bitAt zs p ^^ tog B n k p)) ∧ (s = true ↔ ∀ j, j < k → B.testBit j = false)) ∧ RowW wr g ys ∧ Below w.heap.size w wr) (fun _ i _ => 24 - (intOf i).toNat)
  case atStart => exact ⟨0, zs, true, by omega, by omega, rfl, rfl, ⟨rfl, h0.2.1, fun p _ => by rw [tog_out (by omega)]; simp, by simp⟩, hW, hb1⟩
  case round =>
    obtain ⟨k, ys, s, hk, hnk, rfl, rfl, hrl, hrw, hbel⟩ := hrel
    by_cases hlt : k < 24 
    · by_cases hn2 : n + k < 8 * zs.length
      · have hand := and_one B k
        by_cases hb : B.testBit k = true
        · have hb' : (bits .and .i64 ((B : Int) / 2 ^ k) 1 == 1) = true := by rw [hand, if_pos hb]; rfl
          clear hand
          have hq : (n + k) / 8 < zs.length := by omega
          have hq2 : (n + k) / 8 < ys.length := by rw [hrl.out.1]; exact hq
          obtain ⟨z, hcx, hfx, hz0, hz1, HZ⟩ : ∃ z, wr.cell? ⟨g, (n + k) / 8, none⟩ = some (.int .u8 z) ∧ wr.frozen? ⟨g, (n + k) / 8, none⟩ = false ∧ 0 ≤ z ∧ z < 256 ∧ Hid (ys.getD ((n + k) / 8) 0 = z) := by
            refine ⟨_, hrw.2.1 _ hq2, hrw.2.2 _ hq2, ?_, ?_, rfl⟩ <;> rw [List.getD_eq_getElem?_getD, List.getElem?_eq_getElem hq2]
            · exact (hrl.out.2.1 _ (List.getElem_mem hq2)).1
            · exact (hrl.out.2.1 _ (List.getElem_mem hq2)).2
          have ex := xor_u8 z ((n + k) % 8) hz0 hz1
          have hR : RowW (wr.setCell ⟨g, (n + k) / 8, none⟩ (.int .u8 ((z.toNat ^^^ (128 / 2 ^ ((n + k) % 8)) : Nat) : Int))).drew g (ys.set ((n + k) / 8) ((z.toNat ^^^ (128 / 2 ^ ((n + k) % 8)) : Nat) : Int)) := hrw.set _ hq2 _
          have hB2 : Below w.heap.size w (wr.setCell ⟨g, (n + k) / 8, none⟩ (.int .u8 ((z.toNat ^^^ (128 / 2 ^ ((n + k) % 8)) : Nat) : Int))).drew := (hbel.setCell (p := ⟨g, (n + k) / 8, none⟩) hg _).drew
          clear hq2
          go_wp2_with fail
          go_region
          go_wp2_with fail
          go_roundw
          case rel =>
            refine ⟨k + 1, _, false, by omega, by omega, by go_num, rfl, ?_, hR, hB2⟩
            obtain ⟨e1, e2, e3, e4⟩ := hrl.out
            have e5 := HZ.out
            refine ⟨by rw [List.length_set]; exact e1, fun x hx => ?_, fun p hp => ?_, ?_⟩
            · rcases List.mem_or_eq_of_mem_set hx with hx | rfl
              · exact e2 x hx
              · have hle : 128 / 2 ^ ((n + k) % 8) ≤ 128 := Nat.div_le_self _ _
                have : z.toNat ^^^ (128 / 2 ^ ((n + k) % 8)) < 2 ^ 8 := Nat.xor_lt_two_pow (by omega) (by omega)
                omega
            · rw [flip_bit ys (n + k) _ (by rw [e1]; exact hq) (by rw [e5]; rfl), e3 p hp, tog_succ, hb, Bool.xor_assoc]
              simp
            · simp only [Bool.false_eq_true, false_iff]
              intro h
              have := h k (by omega)
              rw [hb] at this
              cases this
          case measure => simp [intOf]; omega
        · have hb' : (bits .and .i64 ((B : Int) / 2 ^ k) 1 == 1) = false := by rw [hand, if_neg hb]; rfl
          clear hand
          go_wp2_with fail
          go_roundw
          case rel =>
            refine ⟨k + 1, ys, s, by omega, by omega, by go_num, rfl, ?_, hrw, hbel⟩
            obtain ⟨e1, e2, e3, e4⟩ := hrl.out
            have hb0 : B.testBit k = false := by simpa using hb
            refine ⟨e1, e2, fun p hp => ?_, ?_⟩
            · rw [e3 p hp, tog_succ, hb0]; simp
            · rw [e4]
              constructor
              · intro h j hj
                by_cases hjk : j = k
                · rw [hjk]; exact hb0
                · exact h j (by omega)
              · intro h j hj
                exact h j (by omega)
          case measure => simp [intOf]; omega
      · have hn3 : ¬ ((n : Int) + k < 8 * zs.length) := by omega
        have hfin := burst_end zs ys B n k s h0.2.1 hk hnk hrl.out
        have hys := hrl.out.1
        have r1 := hrw.rowAt (by unfold maxLen; omega) hrl.out.2.1
        have c1 := sum_any (some ⟨g, 0, none⟩) cap' ys wr r1
        rw [hys] at c1
        clear hys r1
        go_wp2_with fail
        refine c1.mono ?_
        rintro e w2 ⟨rfl, hw2⟩
        clear c1
        have hb2 := hbel.trans (hw2.mono hbel.size)
        go_wp2_with fail
        refine (sum_any a0 cap0 zs w2 (h0.below hb2)).mono ?_
        rintro e w3 ⟨rfl, hw3⟩
        have hb3 := hb2.trans (hw3.mono hb2.size)
        go_wp2_with fail
        refine (lives_any _).mono ?_
        rintro e w4 ⟨rfl, hw4⟩
        go_wp2
        go_ret
        exact ⟨rfl, hb3.trans (hw4.mono hb3.size)⟩
    · have hlt3 : ¬ ((k : Int) < 24) := by omega
      have hfin := burst_end zs ys B n k s h0.2.1 hk hnk hrl.out
      have hys := hrl.out.1
      have r1 := hrw.rowAt (by unfold maxLen; omega) hrl.out.2.1
      have c1 := sum_any (some ⟨g, 0, none⟩) cap' ys wr r1
      rw [hys] at c1
      clear hys r1
      go_wp2_with fail
      refine c1.mono ?_
      rintro e w2 ⟨rfl, hw2⟩
      clear c1
      have hb2 := hbel.trans (hw2.mono hbel.size)
      go_wp2_with fail
      refine (sum_any a0 cap0 zs w2 (h0.below hb2)).mono ?_
      rintro e w3 ⟨rfl, hw3⟩
      have hb3 := hb2.trans (hw3.mono hb2.size)
      go_wp2_with fail
      refine (lives_any _).mono ?_
      rintro e w4 ⟨rfl, hw4⟩
      go_wp2
      go_ret
      exact ⟨rfl, hb3.trans (hw4.mono hb3.size)⟩
end Go.Proofs.Ytiihfjoikoogfab
