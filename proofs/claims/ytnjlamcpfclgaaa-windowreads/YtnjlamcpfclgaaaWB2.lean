/- window.Put: its contract. -/
import Derived.Test.YtnjlamcpfclgaaaWB1
namespace Go.Proofs.Ytnjlamcpfclgaaa
open Go.RowKit
open Ty Ty.Tal
theorem and_low (m : Nat) (hm : m < 2 ^ 64) : bits BinOp.and IntKind.u64 (m : Int) 4294967295 = ((m % 4294967296 : Nat) : Int) := by
  have := and_nat m 4294967295 hm (by decide)
  rw [show ((4294967295 : Nat) : Int) = (4294967295 : Int) from rfl] at this
  rw [this]
  congr 1
  have := Nat.and_two_pow_sub_one_eq_mod m 32
  exact this
theorem nil_rowT (w : World) : RowAt w none [] := ⟨by simp, by simp, Or.inl rfl⟩
theorem slice_of {w : World} {b : Nat} {e : TypeId} {v : Value} {n : Nat} {xs : List Value} (h : w.ownsRow b e 1 v n xs) : ∃ a cp, v = .slice a n cp := by
  rcases h.2 with ⟨rfl, h0⟩ | ⟨g, cp, cur, rfl, _⟩
  · exact ⟨none, 0, by rw [h0]⟩
  · exact ⟨_, _, rfl⟩
set_option maxHeartbeats 2000000 in
theorem wput_any (a : Option Addr) (cap : Nat) (zs : List Int) (B : Int) (m : Nat) (w : World) (h : RowAt w a zs) (hz : zs.length ≤ 1000000) (hm : m < 2 ^ 64) (hB : B ≤ 9223372036854775807) :
    Calls Try.prog 22 #[.slice a zs.length cap, winV B (m : Int)] w fun e w' => ∃ v, e = .returned v ∧ Mine w' w.heap.size v (zs ++ winL B m) ∧ Below w.heap.size w w' := by
  obtain ⟨i0, hi, hz0, hz1, hz2⟩ := info_parts info5
  have hb0 := one_box (Below.refl (w.alloc (.cells #[.int .i64 B, .int .u64 (m : Int)] 24)).heap.size _)
  have hand := and_low m hm
  obtain ⟨H, hH⟩ : ∃ H, m / 4294967296 = H := ⟨_, rfl⟩
  obtain ⟨L, hL⟩ : ∃ L, m % 4294967296 = L := ⟨_, rfl⟩
  have hHb : H < 4294967296 := by omega
  have hLb : L < 4294967296 := by omega
  have hHi : (m : Int) / 4294967296 = (H : Int) := by omega
  have HW : Hid (winL B m = putL B ++ putL (H : Int) ++ putL (L : Int)) := hide (by unfold winL; rw [hH, hL])
  rw [hL] at hand
  have wH : IntKind.i64.wrap (H : Int) = (H : Int) := wrap_id _ (by omega) (by omega)
  have wL : IntKind.i64.wrap (L : Int) = (L : Int) := wrap_id _ (by omega) (by omega)
  have l1 := putL_length B (by omega)
  have l2 := putL_length (H : Int) (by omega)
  have l3 := putL_length (L : Int) (by omega)
  have c1 := fun w0 => put_any none 0 [] B w0 (nil_rowT w0) (by simp) hB
  have c2 := fun a cap w0 h0 => put_any a cap (putL B) (H : Int) w0 h0 (by omega) (by omega)
  have c3 := fun a cap w0 h0 => put_any a cap (putL B ++ putL (H : Int)) (L : Int) w0 h0 (by rw [List.length_append]; omega) (by omega)
  simp only [List.nil_append, List.length_nil] at c1
  obtain ⟨P1, hP1⟩ : ∃ P1, Hid (putL B = P1) := ⟨_, rfl⟩
  rw [hP1.out] at HW l1
  simp only [hP1.out] at c1 c2 c3
  obtain ⟨P2, hP2⟩ : ∃ P2, Hid (P1 ++ putL (H : Int) = P2) := ⟨_, rfl⟩
  have l4 : P2.length = P1.length + (putL (H : Int)).length := by rw [← hP2.out, List.length_append]
  rw [hP2.out] at HW
  simp only [hP2.out] at c2 c3
  obtain ⟨P3, hP3⟩ : ∃ P3, Hid (P2 ++ putL (L : Int) = P3) := ⟨_, rfl⟩
  have l5 : P3.length = P2.length + (putL (L : Int)).length := by rw [← hP3.out, List.length_append]
  rw [hP3.out] at HW
  simp only [hP3.out] at c3
  rw [HW.out]
  have lP3 : P3.length ≤ 27 := by omega
  have lP1 : P1.length ≤ 9 := by omega
  have lP2 : P2.length ≤ 18 := by omega
  clear HW hH hL hm l1 l2 l3 l4 l5
  go_enter Try.func22, Try.ntmps22
  go_wp2_with fail
  obtain ⟨w0, hw0⟩ : ∃ w0, w.alloc (.cells #[.int .i64 B, .int .u64 (m : Int)] 24) = w0 := ⟨_, rfl⟩
  rw [hw0] at hb0 ⊢
  clear hw0
  obtain ⟨hA, hB0, hsz⟩ := hb0
  refine (c1 w0).mono ?_
  rintro e w1 ⟨v1, rfl, m1, hb1⟩
  have hA1 := range_below hA hb1 hsz
  have hB1 := hB0.trans (hb1.mono hB0.size)
  have hs1 : w.heap.size < w1.heap.size := by have := hb1.size; omega
  obtain ⟨a1, cap1, rfl, _, _, row1⟩ := m1.rowAt (by unfold maxLen; omega)
  clear c1 m1 hA hB0 hb1 hsz
  have q1 : w1.cell? ⟨w.heap.size, 1, none⟩ = some (.int .u64 (m : Int)) := hA1 1 _ rfl
  go_wp2_with fail
  refine (c2 a1 cap1 w1 row1).mono ?_
  rintro e w2 ⟨v2, rfl, m2, hb2⟩
  have hA2 := range_below hA1 hb2 hs1
  have hB2 := hB1.trans (hb2.mono hB1.size)
  have hs2 : w.heap.size < w2.heap.size := by have := hb2.size; omega
  obtain ⟨a2, cap2, rfl, _, _, row2⟩ := m2.rowAt (by unfold maxLen; omega)
  clear c2 m2 hA1 hB1 hb2 hs1 q1
  have q1 : w2.cell? ⟨w.heap.size, 1, none⟩ = some (.int .u64 (m : Int)) := hA2 1 _ rfl
  go_wp2_with fail
  refine (c3 a2 cap2 w2 row2).mono ?_
  rintro e w3 ⟨v3, rfl, m3, hb3⟩
  have hB3 := hB2.trans (hb3.mono hB2.size)
  have mF := m3.2
  obtain ⟨a3, cap3, rfl, _, _, row3⟩ := m3.rowAt (by unfold maxLen; omega)
  clear c3 m3 hA2 hB2 hb3 hs2 q1
  go_wp2_with (first
    | refine wpList_make_own _ rfl _ _ 38 rfl w3.heap.size 5 i0 (.int .u8 0) 1 Try.underlying38 hi hz0 hz1 .i64 .i64 _ (zs.length + P3.length) rfl rfl ?d1 ?d2 ?d3 ?d4 ?_)
  case d1 => omega
  case d2 => rw [hz2]; omega
  case d3 => unfold maxLen; omega
  case d4 => exact Nat.le_refl _
  intro w4 hown4 hgrow4
  have hb4 : Below w3.heap.size w3 w4 := (Below.refl _ _).grown hgrow4 (Nat.le_refl _) (fun k hk => by cases hk)
  go_wp2_with (at_builtin; refine Ty.wpList_append_own_src _ rfl _ _ 38 38 rfl w3.heap.size 5 i0 (.int .u8 0) 1 1 Try.underlying38 hi hz0 hz1 hz2 rfl _ 0 [] rfl hown4 (.slice a zs.length cap) zs.length (zs.map (Value.int .u8)) rfl ((h.below (hB3.trans (hb4.mono hB3.size))).src cap) ?c1 ?c2 ?c3 ?_)
  case c1 => unfold maxLen; omega
  case c2 => omega
  case c3 => exact hb4.size
  intro v5 w5 hown5 hgrow5
  have hb5 := below_grown hb4 hb4.size hown4 hgrow5
  have hown5' : w5.ownsRow w3.heap.size 5 1 v5 zs.length (zs.map (Value.int .u8)) := by simpa using hown5
  obtain ⟨b5, cp5, rfl⟩ := slice_of hown5'
  clear hown4 hgrow4 hown5 hgrow5 hb4
  go_wp2_with (at_builtin; refine Ty.wpList_append_own_src _ rfl _ _ 38 38 rfl w3.heap.size 5 i0 (.int .u8 0) 1 1 Try.underlying38 hi hz0 hz1 hz2 rfl _ zs.length (zs.map (Value.int .u8)) rfl hown5' (.slice a3 P3.length cap3) P3.length (P3.map (Value.int .u8)) rfl ((row3.below hb5).src cap3) ?c1 ?c2 ?c3 ?_)
  case c1 => unfold maxLen; omega
  case c2 => omega
  case c3 => exact hb5.size
  intro v6 w6 hown6 hgrow6
  have hb6 := below_grown hb5 hb5.size hown5' hgrow6
  obtain ⟨b6, cp6, rfl⟩ := slice_of hown6
  have hB6 := hB3.trans (hb6.mono hB3.size)
  have M6 : Mine w6 w.heap.size (.slice b6 (zs.length + P3.length) cp6) (zs ++ P3) := (Mine.mk' (zs ++ P3) hown6 (by simp) (by simp) (fun z hz => by rcases List.mem_append.1 hz with q | q; exact h.2.1 z q; exact mF z q)).mono' hB3.size
  go_wp2_with fail
  go_ret
  exact ⟨_, rfl, M6, hB6⟩
end Go.Proofs.Ytnjlamcpfclgaaa
