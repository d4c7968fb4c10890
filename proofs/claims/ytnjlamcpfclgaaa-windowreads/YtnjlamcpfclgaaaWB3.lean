/- The document's Put and Get of windows: contracts. -/
import Derived.Test.YtnjlamcpfclgaaaWB2
import Derived.Deep.Cut
namespace Go.Proofs.Ytnjlamcpfclgaaa
open Go.RowKit
open Ty Ty.Tal
theorem RSt.lt {D : Nat} {w : World} {R : Nat} {rest : List Int} {e : Int} (h : RSt D w R rest e) : R < w.heap.size := by
  obtain ⟨zs, p, hR, _⟩ := h
  exact hR.1
theorem RSt.cell2 {D : Nat} {w : World} {R : Nat} {rest : List Int} {e : Int} (h : RSt D w R rest e) : w.cell? ⟨R, 2, none⟩ = some (.int .i64 e) := by
  obtain ⟨zs, p, hR, _⟩ := h
  exact hR.2.2.2.1
theorem RSt.bytes {D : Nat} {w : World} {R : Nat} {rest : List Int} {e : Int} (h : RSt D w R rest e) : ByteL e rest := by
  intro he
  obtain ⟨zs, p, hR, hd⟩ := h
  obtain ⟨a, cap, _, _, _, hrow, _⟩ := hR.2.1
  rw [← hd he]
  exact fun z hz => hrow.2.1 z (List.mem_of_mem_drop hz)
set_option maxHeartbeats 2000000 in
theorem refWPut_any (a : Option Addr) (cap : Nat) (zs : List Int) (B : Int) (m : Nat) (w : World) (h : RowAt w a zs) (hz : zs.length ≤ 1000000) (hm : m < 2 ^ 64) (hB : B ≤ 9223372036854775807) :
    Calls Try.prog 23 #[.slice a zs.length cap, winV B (m : Int)] w fun e w' => ∃ v, e = .returned v ∧ Mine w' w.heap.size v (zs ++ winL B m) ∧ Below w.heap.size w w' := by
  have hb0 := one_box (Below.refl (w.alloc (.cells #[.int .i64 B, .int .u64 (m : Int)] 24)).heap.size _)
  obtain ⟨H, hH⟩ : ∃ H, m / 4294967296 = H := ⟨_, rfl⟩
  obtain ⟨L, hL⟩ : ∃ L, m % 4294967296 = L := ⟨_, rfl⟩
  have hHb : H < 4294967296 := by omega
  have hLb : L < 4294967296 := by omega
  have d1 : (m : Int).tdiv 4294967296 = (H : Int) := by rw [Int.tdiv_eq_ediv_of_nonneg (by omega)]; omega
  have d2 : (m : Int).tmod 4294967296 = (L : Int) := by rw [Int.tmod_eq_emod_of_nonneg (by omega)]; omega
  have d3 : (m : Int) / 4294967296 = (H : Int) := by omega
  have d4 : (m : Int) % 4294967296 = (L : Int) := by omega
  have HW : Hid (winL B m = putL B ++ putL (H : Int) ++ putL (L : Int)) := hide (by unfold winL; rw [hH, hL])
  have wH : IntKind.i64.wrap (H : Int) = (H : Int) := wrap_id _ (by omega) (by omega)
  have wL : IntKind.i64.wrap (L : Int) = (L : Int) := wrap_id _ (by omega) (by omega)
  have uH : IntKind.u64.wrap (H : Int) = (H : Int) := by rw [IntKind.wrap_u64]; omega
  have uL : IntKind.u64.wrap (L : Int) = (L : Int) := by rw [IntKind.wrap_u64]; omega
  have l1 := putL_length B (by omega)
  have l2 := putL_length (H : Int) (by omega)
  have c1 := fun w0 h0 => refPut_any a cap zs B w0 h0 (by omega) hB
  have c2 := fun a cap w0 h0 => refPut_any a cap (zs ++ putL B) (H : Int) w0 h0 (by rw [List.length_append]; omega) (by omega)
  have c3 := fun a cap w0 h0 => refPut_any a cap (zs ++ putL B ++ putL (H : Int)) (L : Int) w0 h0 (by rw [List.length_append, List.length_append]; omega) (by omega)
  obtain ⟨P1, hP1⟩ : ∃ P1, Hid (zs ++ putL B = P1) := ⟨_, rfl⟩
  have lP1 : P1.length ≤ 1000009 := by rw [← hP1.out, List.length_append]; omega
  simp only [hP1.out] at c1 c2 c3
  obtain ⟨P2, hP2⟩ : ∃ P2, Hid (P1 ++ putL (H : Int) = P2) := ⟨_, rfl⟩
  have lP2 : P2.length ≤ 1000018 := by rw [← hP2.out, List.length_append]; omega
  simp only [hP2.out] at c2 c3
  have HW2 : Hid (zs ++ winL B m = P2 ++ putL (L : Int)) := hide (by rw [HW.out, ← hP2.out, ← hP1.out]; simp only [List.append_assoc])
  have lP3 : (P2 ++ putL (L : Int)).length ≤ 1000027 := by have l3 := putL_length (L : Int) (by omega); rw [List.length_append]; omega
  rw [HW2.out]
  obtain ⟨P3, hP3⟩ : ∃ P3, Hid (P2 ++ putL (L : Int) = P3) := ⟨_, rfl⟩
  simp only [hP3.out] at c3
  rw [hP3.out] at lP3 ⊢
  clear HW HW2 hH hL hm l1 l2 hP1 hP2
  go_enter Try.func23, Try.ntmps23
  go_wp2_with fail
  obtain ⟨w0, hw0⟩ : ∃ w0, w.alloc (.cells #[.int .i64 B, .int .u64 (m : Int)] 24) = w0 := ⟨_, rfl⟩
  rw [hw0] at hb0 ⊢
  clear hw0
  obtain ⟨hA, hB0, hsz⟩ := hb0
  refine (c1 w0 (h.below hB0)).mono ?_
  rintro e w1 ⟨v1, rfl, m1, hb1⟩
  have hA1 := range_below hA hb1 hsz
  have hB1 := hB0.trans (hb1.mono hB0.size)
  have hs1 : w.heap.size < w1.heap.size := by have := hb1.size; omega
  obtain ⟨a1, cap1, rfl, _, _, row1⟩ := m1.rowAt (by unfold maxLen; omega)
  clear c1 m1 hA hB0 hb1 hsz
  have q1 : w1.cell? ⟨w.heap.size, 1, none⟩ = some (.int .u64 (m : Int)) := hA1 1 _ rfl
  go_wp2_with fail
  refine (c2 a1 cap1 w1 row1).mono ?_
  rintro e w2 ⟨v2, rfl, m2, hb2⟩
  have hA2 := range_below hA1 hb2 hs1
  have hB2 := hB1.trans (hb2.mono hB1.size)
  have hs2 : w.heap.size < w2.heap.size := by have := hb2.size; omega
  obtain ⟨a2, cap2, rfl, _, _, row2⟩ := m2.rowAt (by unfold maxLen; omega)
  clear c2 m2 hA1 hB1 hb2 hs1 q1
  have q1 : w2.cell? ⟨w.heap.size, 1, none⟩ = some (.int .u64 (m : Int)) := hA2 1 _ rfl
  go_wp2_with fail
  refine (c3 a2 cap2 w2 row2).mono ?_
  rintro e w3 ⟨v3, rfl, m3, hb3⟩
  have hB3 := hB2.trans (hb3.mono hB2.size)
  have m4 := m3.mono' (B' := w.heap.size) (by omega)
  clear c3 m3 hA2 hB2 hb3 hs2 q1
  obtain ⟨a3, cap3, rfl, _, _, row3⟩ := m4.rowAt (by unfold maxLen; omega)
  go_wp2_with fail
  go_ret
  exact ⟨.slice a3 P3.length cap3, rfl, m4, hB3⟩
set_option maxHeartbeats 2000000 in
theorem refWGet_any (D R : Nat) (rest : List Int) (e : Int) (w : World) (h : RSt D w R rest e) :
    Calls Try.prog 25 #[.pointer (some ⟨R, 0, none⟩)] w fun en w' => en = .returned (winV (getB (getR rest e)) (getM (getR rest e) : Int)) ∧ RSt D w' R (getR rest e).rest (getR rest e).err ∧ w.grownBy w' (some R) := by
  have hRw := RSt.lt h
  have hz := RSt.bytes h
  have p1 := numS_pos 1099511627777 hz
  have u1 := numS_le rest e 1099511627777 (by decide)
  have hz1 := numS_bytes 1099511627777 hz
  have bA : Below w.heap.size w (w.alloc (.cells #[.int .i64 0, .int .u64 0] 24)) := (Below.refl _ _).alloc (Nat.le_refl _) _
  have tA := there_new w #[.int .i64 0, .int .u64 0] 24
  have sA : (w.alloc (.cells #[.int .i64 0, .int .u64 0] 24)).heap.size = w.heap.size + 1 := World.size_alloc _ _
  have c1 := refNum_any R rest e 1099511627777 _ (h.below bA)
  have g0 := gb_below bA (some R)
  obtain ⟨G, hG⟩ : ∃ G, Hid (getR rest e = G) := ⟨_, rfl⟩
  have G1 : Hid (G.base = (numS rest e 1099511627777).1) := hide (by rw [← hG.out]; rfl)
  have G2 : Hid (G.high = (numS (numS rest e 1099511627777).2.1 (numS rest e 1099511627777).2.2 4294967295).1.toNat) := hide (by rw [← hG.out]; rfl)
  have G3 : Hid (G.low = (numS (numS (numS rest e 1099511627777).2.1 (numS rest e 1099511627777).2.2 4294967295).2.1 (numS (numS rest e 1099511627777).2.1 (numS rest e 1099511627777).2.2 4294967295).2.2 4294967295).1.toNat) := hide (by rw [← hG.out]; rfl)
  have G4 : Hid (G.rest = (numS (numS (numS rest e 1099511627777).2.1 (numS rest e 1099511627777).2.2 4294967295).2.1 (numS (numS rest e 1099511627777).2.1 (numS rest e 1099511627777).2.2 4294967295).2.2 4294967295).2.1) := hide (by rw [← hG.out]; rfl)
  have G5 : Hid (G.err = (numS (numS (numS rest e 1099511627777).2.1 (numS rest e 1099511627777).2.2 4294967295).2.1 (numS (numS rest e 1099511627777).2.1 (numS rest e 1099511627777).2.2 4294967295).2.2 4294967295).2.2) := hide (by rw [← hG.out]; rfl)
  rw [hG.out]
  clear hG
  obtain ⟨b0, hb0⟩ : ∃ x, Hid ((numS rest e 1099511627777).1 = x) := ⟨_, rfl⟩
  obtain ⟨r1, hr1⟩ : ∃ x, Hid ((numS rest e 1099511627777).2.1 = x) := ⟨_, rfl⟩
  obtain ⟨e1, he1⟩ : ∃ x, Hid ((numS rest e 1099511627777).2.2 = x) := ⟨_, rfl⟩
  rw [hb0.out] at p1 u1 G1
  rw [hr1.out, he1.out] at hz1 G2 G3 G4 G5
  rw [hb0.out, hr1.out, he1.out] at c1
  have p2 := numS_pos 4294967295 hz1
  have u2 := numS_le r1 e1 4294967295 (by decide)
  have hz2 := numS_bytes 4294967295 hz1
  obtain ⟨b1, hb1⟩ : ∃ x, Hid ((numS r1 e1 4294967295).1 = x) := ⟨_, rfl⟩
  obtain ⟨r2, hr2⟩ : ∃ x, Hid ((numS r1 e1 4294967295).2.1 = x) := ⟨_, rfl⟩
  obtain ⟨e2, he2⟩ : ∃ x, Hid ((numS r1 e1 4294967295).2.2 = x) := ⟨_, rfl⟩
  rw [hb1.out] at p2 u2 G2
  rw [hr2.out, he2.out] at hz2 G3 G4 G5
  have p3 := numS_pos 4294967295 hz2
  have u3 := numS_le r2 e2 4294967295 (by decide)
  obtain ⟨b2, hb2⟩ : ∃ x, Hid ((numS r2 e2 4294967295).1 = x) := ⟨_, rfl⟩
  obtain ⟨r3, hr3⟩ : ∃ x, Hid ((numS r2 e2 4294967295).2.1 = x) := ⟨_, rfl⟩
  obtain ⟨e3, he3⟩ : ∃ x, Hid ((numS r2 e2 4294967295).2.2 = x) := ⟨_, rfl⟩
  rw [hb2.out] at p3 u3 G3
  rw [hr3.out] at G4
  rw [he3.out] at G5
  clear hz hz1 hz2 h
  go_enter Try.func25, Try.ntmps25
  go_wp2_with fail
  obtain ⟨w0, hw0⟩ : ∃ w0, w.alloc (.cells #[.int .i64 0, .int .u64 0] 24) = w0 := ⟨_, rfl⟩
  rw [hw0] at c1 g0 tA sA
  rw [hw0]
  clear hw0 bA
  refine c1.mono ?_
  rintro en w1 ⟨rfl, s1, g1⟩
  have t1 := there_gb tA g1 (by omega) (by omega)
  have z1 := g1.size
  have gg1 := gb_trans g0 g1
  have c2 := refNum_any R r1 e1 4294967295 w1 s1
  rw [hb1.out, hr2.out, he2.out] at c2
  clear c1 g1 g0 tA
  go_wp2_with fail
  refine c2.mono ?_
  rintro en w2 ⟨rfl, s2, g2⟩
  have t2 := there_gb t1 g2 (by omega) (by omega)
  have z2 := g2.size
  have gg2 := gb_trans gg1 g2
  have c3 := refNum_any R r2 e2 4294967295 w2 s2
  rw [hb2.out, hr3.out, he3.out] at c3
  clear c2 g2 gg1 t1 s1
  go_wp2_with fail
  refine c3.mono ?_
  rintro en w3 ⟨rfl, s3, g3⟩
  have t3 := there_gb t2 g3 (by omega) (by omega)
  have z3 := g3.size
  have gg3 := gb_trans gg2 g3
  clear c3 g3 gg2 t2 s2
  obtain ⟨hi, rfl⟩ := Int.eq_ofNat_of_zero_le p2
  obtain ⟨lo, rfl⟩ := Int.eq_ofNat_of_zero_le p3
  have hadd : IntKind.u64.wrap ((hi : Int) * 4294967296 + (lo : Int)) = (hi : Int) * 4294967296 + (lo : Int) := by rw [IntKind.wrap_u64]; omega
  have uh : IntKind.u64.wrap (hi : Int) = (hi : Int) := by rw [IntKind.wrap_u64]; omega
  have ul : IntKind.u64.wrap (lo : Int) = (lo : Int) := by rw [IntKind.wrap_u64]; omega
  have us : IntKind.u64.wrap ((hi : Int) * 4294967296) = (hi : Int) * 4294967296 := by rw [IntKind.wrap_u64]; omega
  go_upto_region 5 with fail
  obtain ⟨M, hM⟩ : ∃ M : Nat, Hid (M = hi * 4294967296 + lo) := ⟨_, rfl⟩
  have hMi : (hi : Int) * 4294967296 + (lo : Int) = (M : Int) := by rw [hM.out]; omega
  have hMlt : M < 2 ^ 64 := by rw [hM.out]; omega
  rw [hMi]
  have hok : Hid (getOk G = (decide (e3 = 0) && goodW b0 M)) := hide (by unfold getOk; rw [G1.out, G2.out, G3.out, G5.out, hM.out]; rfl)
  have hbs : Hid (getB G = if getOk G then b0 else 0) := hide (by unfold getB; rw [G1.out])
  have hms : Hid (getM G = if getOk G then M else 0) := hide (by unfold getM; rw [G2.out, G3.out, hM.out]; rfl)
  clear hadd uh ul us hMi hM G1 G2 G3 p2 p3 u2 u3
  have b4 : Below w3.heap.size w3 (w3.alloc (.cells #[.int .i64 b0, .int .u64 (M : Int)] 24)) := (Below.refl _ _).alloc (Nat.le_refl _) _
  have s4 := s3.below b4
  have t4 := there_below t3 b4 (by omega)
  have gg4 := gb_on gg3 b4 (by omega)
  have v4 := range_new w3 #[.int .i64 b0, .int .u64 (M : Int)] 24
  have z4 : (w3.alloc (.cells #[.int .i64 b0, .int .u64 (M : Int)] 24)).heap.size = w3.heap.size + 1 := World.size_alloc _ _
  obtain ⟨P, hP⟩ : ∃ P, w3.heap.size = P := ⟨_, rfl⟩
  obtain ⟨w4, hw4⟩ : ∃ w4, w3.alloc (.cells #[.int .i64 b0, .int .u64 (M : Int)] 24) = w4 := ⟨_, rfl⟩
  rw [hw4] at s4 t4 gg4
  rw [hw4, hP] at v4 z4
  rw [hP] at z3
  rw [hw4, hP]
  clear s3 t3 gg3 b4 hP hw4
  have x2 : w4.cell? ⟨R, 2, none⟩ = some (.int .i64 e3) := RSt.cell2 s4
  try simp only [Act.put]
  by_cases he : e3 = 0
  · subst he
    have cg := refGoodW_any b0 M hMlt w4
    have q0 : w4.cell? ⟨P, 0, none⟩ = some (.int .i64 b0) := v4 0 _ rfl
    have q1 : w4.cell? ⟨P, 1, none⟩ = some (.int .u64 (M : Int)) := v4 1 _ rfl
    cases hg : goodW b0 M with
    | false =>
      have EB : Hid (getB G = 0) := hide (by rw [hbs.out, hok.out, hg]; rfl)
      have EM : Hid (getM G = 0) := hide (by rw [hms.out, hok.out, hg]; rfl)
      rw [hg] at cg
      clear hok hbs hms hg
      go_wp2_with fail
      refine cg.mono ?_
      rintro en w5 ⟨rfl, b5⟩
      have t5 := there_below t4 b5 (by omega)
      have s5 := s4.below b5
      have gg5 := gb_on gg4 b5 (by omega)
      clear cg q0 q1 t4 s4 gg4 v4
      have hrs := win_load (win_set (B := 0) (m := 0) t5)
      have gf := gb_on gg5 (below_sets (B := w.heap.size) (b := w.heap.size) (Nat.le_refl _) (winC 0 0) 0 _ (Below.refl _ w5)) (Nat.le_refl _)
      have sf := s5.gb (gb_sets w5 w.heap.size (winC 0 0) 0) (.inr hRw)
      go_wp2_with (refine wpList_store_mid (op := ⟨none, .store 24 (.tmp 2) (.tmp 31), _, _, _, none⟩) rfl 24 _ _ rfl _ _ #[.int .i64 0, .int .u64 0] rfl rfl t5 infoW (two_cells _ _) ?_)
      refine bodyPost_ret (v := winV 0 0) ?_ rfl ?_
      · simp [results, Try.results25, Act.put, asAddr, hrs]
      · exact ⟨by rw [EB.out, EM.out]; rfl, by rw [G4.out, G5.out]; exact sf, gf⟩
    | true =>
      have EB : Hid (getB G = b0) := hide (by rw [hbs.out, hok.out, hg]; rfl)
      have EM : Hid (getM G = M) := hide (by rw [hms.out, hok.out, hg]; rfl)
      rw [hg] at cg
      clear hok hbs hms hg
      go_wp2_with fail
      refine cg.mono ?_
      rintro en w5 ⟨rfl, b5⟩
      have t5 := there_below t4 b5 (by omega)
      have s5 := s4.below b5
      have gg5 := gb_on gg4 b5 (by omega)
      have v5 := range_below v4 b5 (by omega)
      clear cg q0 q1 t4 s4 gg4 v4
      have q0 : w5.cell? ⟨P, 0, none⟩ = some (.int .i64 b0) := v5 0 _ rfl
      have q1 : w5.cell? ⟨P, 1, none⟩ = some (.int .u64 (M : Int)) := v5 1 _ rfl
      have hrs := win_load (win_set (B := b0) (m := (M : Int)) t5)
      have gf := gb_on gg5 (below_sets (B := w.heap.size) (b := w.heap.size) (Nat.le_refl _) (winC b0 (M : Int)) 0 _ (Below.refl _ w5)) (Nat.le_refl _)
      have sf := s5.gb (gb_sets w5 w.heap.size (winC b0 (M : Int)) 0) (.inr hRw)
      go_wp2_with (refine wpList_store_mid (op := ⟨none, .store 24 (.tmp 2) (.tmp 32), _, _, _, none⟩) rfl 24 _ _ rfl _ _ #[.int .i64 b0, .int .u64 (M : Int)] rfl rfl t5 infoW (two_cells _ _) ?_)
      refine bodyPost_ret (v := winV b0 (M : Int)) ?_ rfl ?_
      · simp [results, Try.results25, Act.put, asAddr, hrs]
      · exact ⟨by rw [EB.out, EM.out], by rw [G4.out, G5.out]; exact sf, gf⟩
  · have EB : Hid (getB G = 0) := hide (by rw [hbs.out, hok.out, decide_eq_false he]; rfl)
    have EM : Hid (getM G = 0) := hide (by rw [hms.out, hok.out, decide_eq_false he]; rfl)
    clear hok hbs hms
    have t5 := t4
    have s5 := s4
    have gg5 := gg4
    clear t4 s4 gg4 v4
    have hrs := win_load (win_set (B := 0) (m := 0) t5)
    have gf := gb_on gg5 (below_sets (B := w.heap.size) (b := w.heap.size) (Nat.le_refl _) (winC 0 0) 0 _ (Below.refl _ w4)) (Nat.le_refl _)
    have sf := s5.gb (gb_sets w4 w.heap.size (winC 0 0) 0) (.inr hRw)
    go_wp2_with (refine wpList_store_mid (op := ⟨none, .store 24 (.tmp 2) (.tmp 31), _, _, _, none⟩) rfl 24 _ _ rfl _ _ #[.int .i64 0, .int .u64 0] rfl rfl t5 infoW (two_cells _ _) ?_)
    refine bodyPost_ret (v := winV 0 0) ?_ rfl ?_
    · simp [results, Try.results25, Act.put, asAddr, hrs]
    · exact ⟨by rw [EB.out, EM.out]; rfl, by rw [G4.out, G5.out]; exact sf, gf⟩
end Go.Proofs.Ytnjlamcpfclgaaa
