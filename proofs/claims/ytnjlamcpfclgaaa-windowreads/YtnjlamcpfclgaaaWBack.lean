/- The law WindowBack: its walk. -/
import Derived.Test.YtnjlamcpfclgaaaWB2
namespace Go.Proofs.Ytnjlamcpfclgaaa
open Go.RowKit
open Ty Ty.Tal
theorem gb_below' {B : Nat} {w W W' : World} {R : Nat} (h : Below B w W) (hg : W.grownBy W' (some R)) (hB : B ≤ R) (hW : B ≤ W.heap.size) : Below B w W' :=
  ⟨hg.os.trans h.os, hg.tape.trans h.tape, hg.output.trans h.output, Nat.le_trans h.size hg.size, fun k hk => (hg.block k (by omega) (by intro q; injection q with q; omega)).trans (h.block k hk)⟩
theorem range_gb {w w' : World} {R b : Nat} {cs : List Value} (h : w.rangeAt b 0 cs) (hg : w.grownBy w' (some R)) (hb : b < w.heap.size) (hne : b ≠ R) : w'.rangeAt b 0 cs := fun j v hv => by
  rw [(@cell_block w w' b (0 + j) (hg.block b hb (by intro q; injection q with q; exact hne q))).1]
  exact h j v hv
theorem get_back {B : Int} {m : Nat} (hm : m < 2 ^ 64) (hg : goodW B m = true) (tail : List Int) : getR (winL B m ++ tail) 0 = ⟨B, m / 4294967296, m % 4294967296, tail, 0⟩ := by
  have hb := good_B hg
  have e1 : numS (winL B m ++ tail) 0 1099511627777 = (B, putL ((m / 4294967296 : Nat) : Int) ++ (putL ((m % 4294967296 : Nat) : Int) ++ tail), 0) := by
    unfold winL
    rw [List.append_assoc, List.append_assoc]
    exact numS_back B 1099511627777 (by omega) (by omega) (by omega) _
  have e2 := numS_back ((m / 4294967296 : Nat) : Int) 4294967295 (by omega) (by omega) (by omega) (putL ((m % 4294967296 : Nat) : Int) ++ tail)
  have e3 := numS_back ((m % 4294967296 : Nat) : Int) 4294967295 (by omega) (by omega) (by omega) tail
  unfold getR
  rw [e1]
  simp only
  rw [e2]
  simp only
  rw [e3]
  simp
  omega
theorem get_backB {B : Int} {m : Nat} (hg : goodW B m = true) (t : List Int) : getB ⟨B, m / 4294967296, m % 4294967296, t, 0⟩ = B ∧ getM ⟨B, m / 4294967296, m % 4294967296, t, 0⟩ = m := by
  have e : m / 4294967296 * 4294967296 + m % 4294967296 = m := by omega
  have ok : getOk ⟨B, m / 4294967296, m % 4294967296, t, 0⟩ = true := by unfold getOk; simp only; rw [e, hg]; rfl
  unfold getB getM
  rw [ok]
  exact ⟨rfl, by simp only [if_true]; exact e⟩
set_option maxHeartbeats 4000000 in
theorem back_walk (B : Int) (m : Nat) (hm : m < 2 ^ 64) (a : Option Addr) (cap : Nat) (zs : List Int) (w : World) (h : RowAt w a zs) :
    Calls Try.prog 7 #[winV B (m : Int), .slice a zs.length cap] w fun e w' => e = .returned (.bool true) ∧ Below w.heap.size w w' := by
  have hb0 := one_box (Below.refl (w.alloc (.cells #[.int .i64 B, .int .u64 (m : Int)] 24)).heap.size _)
  by_cases hlong : 2000 < zs.length
  · have hli : (2000 : Int) < zs.length := by omega
    go_enter Try.func7, Try.ntmps7
    go_wp2_with fail
    refine (lives_any _).mono ?_
    rintro e w1 ⟨rfl, hb1⟩
    obtain ⟨_, hB1, _⟩ := one_box hb1
    go_wp2_with fail
    go_ret
    exact ⟨rfl, hB1⟩
  · have hli : (zs.length : Int) ≤ 2000 := by omega
    have c1 := good_any B m hm
    cases hg : goodW B m with
    | false =>
      rw [hg] at c1
      go_enter Try.func7, Try.ntmps7
      go_wp2_with fail
      refine (c1 _).mono ?_
      rintro e w1 ⟨rfl, hb1⟩
      obtain ⟨_, hB1, _⟩ := one_box hb1
      clear hb1 hb0
      go_wp2_with fail
      refine (lives_any _).mono ?_
      rintro e w2 ⟨rfl, hb2⟩
      go_wp2_with fail
      go_ret
      exact ⟨rfl, hB1.trans (hb2.mono hB1.size)⟩
    | true =>
      have hbb := good_B hg
      rw [hg] at c1
      have cp := fun w0 => wput_any none 0 [] B m w0 (nil_rowT w0) (by simp) hm (by omega)
      simp only [List.nil_append, List.length_nil] at cp
      have lW : (winL B m).length ≤ 27 := by
        have l1 := putL_length B (by omega)
        have l2 := putL_length ((m / 4294967296 : Nat) : Int) (by omega)
        have l3 := putL_length ((m % 4294967296 : Nat) : Int) (by omega)
        unfold winL
        rw [List.length_append, List.length_append]
        omega
      have HG := hide (get_back hm hg zs)
      have HG2 := get_backB hg zs
      have HGb := hide HG2.1
      have HGm := hide HG2.2
      clear HG2
      obtain ⟨i0, hi, hz0, hz1, hz2⟩ := info_parts info5
      obtain ⟨F, hF⟩ : ∃ F, Hid (winL B m = F) := ⟨_, rfl⟩
      simp only [hF.out] at cp
      rw [hF.out] at lW HG
      clear hF hm
      go_enter Try.func7, Try.ntmps7
      go_wp2_with fail
      refine (c1 _).mono ?_
      rintro e w1 ⟨rfl, hb1⟩
      obtain ⟨hA1, hB1, hs1⟩ := one_box hb1
      clear c1 hb1 hb0 hg
      have q0 : w1.cell? ⟨w.heap.size, 0, none⟩ = some (.int .i64 B) := hA1 0 _ rfl
      have q1 : w1.cell? ⟨w.heap.size, 1, none⟩ = some (.int .u64 (m : Int)) := hA1 1 _ rfl
      go_wp2_with fail
      refine (cp w1).mono ?_
      rintro e w2 ⟨v2, rfl, m2, hb2⟩
      have hA2 := range_below hA1 hb2 hs1
      have hB2 := hB1.trans (hb2.mono hB1.size)
      have hs2 : w.heap.size < w2.heap.size := by have := hb2.size; omega
      have mF := m2.2
      have own2 := m2.1
      obtain ⟨a2, cap2, rfl, _, _, row2⟩ := m2.rowAt (by unfold maxLen; omega)
      clear cp q0 q1 hA2
      go_wp2_with (at_builtin; refine Ty.wpList_append_own_src _ rfl _ _ 38 38 rfl w1.heap.size 5 i0 (.int .u8 0) 1 1 Try.underlying38 hi hz0 hz1 hz2 rfl _ F.length (F.map (Value.int .u8)) rfl own2 (.slice a zs.length cap) zs.length (zs.map (Value.int .u8)) rfl ((h.below hB2).src cap) ?c1 ?c2 ?c3 ?_)
      case c1 => unfold maxLen; omega
      case c2 => omega
      case c3 => exact hb2.size
      intro v3 w3 hown3 hgrow3
      have hb3 := below_grown hb2 hb2.size own2 hgrow3
      have hA3 := range_below hA1 hb3 hs1
      have hB3 := hB1.trans (hb3.mono hB1.size)
      have hs3 : w.heap.size < w3.heap.size := by have := hb3.size; omega
      obtain ⟨FT, hFT⟩ : ∃ FT, Hid (F ++ zs = FT) := ⟨_, rfl⟩
      have lFT : FT.length = F.length + zs.length := by rw [← hFT.out, List.length_append]
      rw [hFT.out] at HG
      have M3 : Mine w3 w1.heap.size v3 FT := by
        rw [← hFT.out]
        exact Mine.mk' (F ++ zs) hown3 (by simp) (by simp) (fun z hz => by rcases List.mem_append.1 hz with q | q; exact mF z q; exact h.2.1 z q)
      obtain ⟨a3, cap3, rfl, _, _, row3⟩ := M3.rowAt (by unfold maxLen; omega)
      have cr := read_any a3 cap3 FT w3 row3 (by omega)
      rw [lFT] at cr
      clear hown3 hgrow3 own2 row2 m2 M3 row3 hb2 hb3 hA1 hB1 hs1 hFT hB2 hs2
      go_wp2_with fail
      refine cr.mono ?_
      rintro e w4 ⟨R, rfl, hRw, sR, hb4⟩
      have hA4 := range_below hA3 hb4 hs3
      have hB4 := hB3.trans (hb4.mono hB3.size)
      have hs4 : w.heap.size < w4.heap.size := by have := hb4.size; omega
      have hwR : w.heap.size < R := by omega
      clear cr hA3 hB3 hb4 hs3 hRw
      go_wp2_with fail
      obtain ⟨w8, hw8⟩ : ∃ w8, w4.drew = w8 := ⟨_, rfl⟩
      refine hs_begin (S := (fun W => W.rangeAt w.heap.size 0 (winC B (m : Int)) ∧ Below w.heap.size w W ∧ w.heap.size < W.heap.size)) 20 rfl (by kernel_rfl) ?_
      have hS : (fun W => W.rangeAt w.heap.size 0 (winC B (m : Int)) ∧ Below w.heap.size w W ∧ w.heap.size < W.heap.size) w8 := by rw [← hw8]; exact ⟨hA4, hB4.drew, hs4⟩
      have s8 : St w8 R FT 0 := by rw [← hw8]; exact sR.below (Below.refl _ _).drew
      rw [hw8]
      clear hw8 hA4 hB4 hs4 sR
      have cg := wget_any R FT 0 w8 s8
      rw [HG.out, HGb.out, HGm.out] at cg
      refine hs_take (i := 0) (d := some 20) (v := ?_) rfl (by kernel_rfl) (by kernel_rfl) (by kernel_rfl) (by rfl) ?_ hS rfl ?_
      rotate_left
      · intro w' hw
        go_simp
        try with_reducible rfl
      simp only [Act.put, List.setIfInBounds_toArray, List.set_cons_zero, List.set_cons_succ]
      refine hs_take (i := 2) (d := some 22) (v := winV B (m : Int)) rfl (by kernel_rfl) (by kernel_rfl) (by kernel_rfl) (by rfl) (fun w' hw => exec_load rfl rfl (win_load hw.1)) hS rfl ?_
      simp only [Act.put, List.setIfInBounds_toArray, List.set_cons_zero, List.set_cons_succ]
      refine hs_call (i := 1) (d := some 21) rfl (by kernel_rfl) (by rfl) (by go_simp; first | done | exact ⟨rfl, rfl⟩ | with_reducible rfl) rfl ?_
      refine (cg).mono ?_
      rintro e' w9 ⟨rfl, s9, g9⟩
      have hS : (fun W => W.rangeAt w.heap.size 0 (winC B (m : Int)) ∧ Below w.heap.size w W ∧ w.heap.size < W.heap.size) w9 := ⟨range_gb hS.1 g9 hS.2.2 (by omega), gb_below' hS.2.1 g9 (by omega) (Nat.le_of_lt hS.2.2), Nat.lt_of_lt_of_le hS.2.2 g9.size⟩
      refine ⟨_, rfl, hS, ?_⟩
      simp only [Act.put, List.setIfInBounds_toArray, List.set_cons_zero, List.set_cons_succ]
      clear cg g9 s8
      have ce := err_made R 0 w9 s9.1
      have cl := leftR_any R zs 0 w9 s9
      rw [if_pos rfl] at cl
      refine hs_take (i := 3) (d := some 23) (v := .bool true) rfl (by kernel_rfl) (by kernel_rfl) (by kernel_rfl) (by rfl) (fun w' hw => by go_simp; first | done | simp) hS rfl ?_
      simp only [Act.put, List.setIfInBounds_toArray, List.set_cons_zero, List.set_cons_succ]
      refine hs_take (i := 4) (d := some 24) (v := ?_) rfl (by kernel_rfl) (by kernel_rfl) (by kernel_rfl) (by rfl) ?_ hS rfl ?_
      rotate_left
      · intro w' hw
        go_simp
        try with_reducible rfl
      simp only [Act.put, List.setIfInBounds_toArray, List.set_cons_zero, List.set_cons_succ]
      refine hs_take (i := 5) (d := some 25) (v := ?_) rfl (by kernel_rfl) (by kernel_rfl) (by kernel_rfl) (by rfl) ?_ hS rfl ?_
      rotate_left
      · intro w' hw
        go_simp
        try with_reducible rfl
      simp only [Act.put, List.setIfInBounds_toArray, List.set_cons_zero, List.set_cons_succ]
      refine hs_call (i := 6) (d := some 26) rfl (by kernel_rfl) (by rfl) (by go_simp; first | done | exact ⟨rfl, rfl⟩ | with_reducible rfl) rfl ?_
      refine (ce).mono ?_
      rintro e' w10 ⟨rfl, hx⟩
      have hS : (fun W => W.rangeAt w.heap.size 0 (winC B (m : Int)) ∧ Below w.heap.size w W ∧ w.heap.size < W.heap.size) w10 := by rw [hx]; exact hS
      refine ⟨_, rfl, hS, ?_⟩
      simp only [Act.put, List.setIfInBounds_toArray, List.set_cons_zero, List.set_cons_succ]
      obtain rfl := hx.symm
      clear ce
      refine hs_take (i := 7) (d := some 27) (v := .bool true) rfl (by kernel_rfl) (by kernel_rfl) (by kernel_rfl) (by rfl) (fun w' hw => by go_simp; first | done | simp) hS rfl ?_
      simp only [Act.put, List.setIfInBounds_toArray, List.set_cons_zero, List.set_cons_succ]
      refine hs_take (i := 8) (d := some 28) (v := ?_) rfl (by kernel_rfl) (by kernel_rfl) (by kernel_rfl) (by rfl) ?_ hS rfl ?_
      rotate_left
      · intro w' hw
        go_simp
        try with_reducible rfl
      simp only [Act.put, List.setIfInBounds_toArray, List.set_cons_zero, List.set_cons_succ]
      refine hs_take (i := 9) (d := some 29) (v := ?_) rfl (by kernel_rfl) (by kernel_rfl) (by kernel_rfl) (by rfl) ?_ hS rfl ?_
      rotate_left
      · intro w' hw
        go_simp
        try with_reducible rfl
      simp only [Act.put, List.setIfInBounds_toArray, List.set_cons_zero, List.set_cons_succ]
      refine hs_take (i := 10) (d := some 30) (v := ?_) rfl (by kernel_rfl) (by kernel_rfl) (by kernel_rfl) (by rfl) ?_ hS rfl ?_
      rotate_left
      · intro w' hw
        go_simp
        try with_reducible rfl
      simp only [Act.put, List.setIfInBounds_toArray, List.set_cons_zero, List.set_cons_succ]
      refine hs_take (i := 12) (d := some 32) (v := ?_) rfl (by kernel_rfl) (by kernel_rfl) (by kernel_rfl) (by rfl) ?_ hS rfl ?_
      rotate_left
      · intro w' hw
        go_simp
        try with_reducible rfl
      simp only [Act.put, List.setIfInBounds_toArray, List.set_cons_zero, List.set_cons_succ]
      refine hs_take (i := 13) (d := some 33) (v := .int .i64 (zs.length : Int)) rfl (by kernel_rfl) (by kernel_rfl) (by kernel_rfl) (by rfl) (fun w' hw => by go_simp) hS rfl ?_
      simp only [Act.put, List.setIfInBounds_toArray, List.set_cons_zero, List.set_cons_succ]
      refine hs_call (i := 11) (d := some 31) rfl (by kernel_rfl) (by rfl) (by go_simp; first | done | exact ⟨rfl, rfl⟩ | with_reducible rfl) rfl ?_
      refine (cl).mono ?_
      rintro e' w11 ⟨rfl, hx⟩
      have hS : (fun W => W.rangeAt w.heap.size 0 (winC B (m : Int)) ∧ Below w.heap.size w W ∧ w.heap.size < W.heap.size) w11 := by rw [hx]; exact hS
      refine ⟨_, rfl, hS, ?_⟩
      simp only [Act.put, List.setIfInBounds_toArray, List.set_cons_zero, List.set_cons_succ]
      obtain rfl := hx.symm
      clear cl
      refine hs_take (i := 14) (d := some 34) (v := .bool true) rfl (by kernel_rfl) (by kernel_rfl) (by kernel_rfl) (by rfl) (fun w' hw => by go_simp; first | done | simp) hS rfl ?_
      simp only [Act.put, List.setIfInBounds_toArray, List.set_cons_zero, List.set_cons_succ]
      refine hs_take (i := 15) (d := some 35) (v := ?_) rfl (by kernel_rfl) (by kernel_rfl) (by kernel_rfl) (by rfl) ?_ hS rfl ?_
      rotate_left
      · intro w' hw
        go_simp
        try with_reducible rfl
      simp only [Act.put, List.setIfInBounds_toArray, List.set_cons_zero, List.set_cons_succ]
      refine hs_take (i := 16) (d := some 36) (v := ?_) rfl (by kernel_rfl) (by kernel_rfl) (by kernel_rfl) (by rfl) ?_ hS rfl ?_
      rotate_left
      · intro w' hw
        go_simp
        try with_reducible rfl
      simp only [Act.put, List.setIfInBounds_toArray, List.set_cons_zero, List.set_cons_succ]
      refine hs_call (i := 17) (d := some 37) rfl (by kernel_rfl) (by rfl) (by go_simp; first | done | exact ⟨rfl, rfl⟩ | with_reducible rfl) rfl ?_
      refine (lives_any _).mono ?_
      rintro e' w12 ⟨rfl, hx⟩
      have hS : (fun W => W.rangeAt w.heap.size 0 (winC B (m : Int)) ∧ Below w.heap.size w W ∧ w.heap.size < W.heap.size) w12 := ⟨range_below hS.1 hx hS.2.2, hS.2.1.trans (hx.mono hS.2.1.size), Nat.lt_of_lt_of_le hS.2.2 hx.size⟩
      refine ⟨_, rfl, hS, ?_⟩
      simp only [Act.put, List.setIfInBounds_toArray, List.set_cons_zero, List.set_cons_succ]
      refine hs_take (i := 18) (d := some 38) (v := ?_) rfl (by kernel_rfl) (by kernel_rfl) (by kernel_rfl) (by rfl) ?_ hS rfl ?_
      rotate_left
      · intro w' hw
        go_simp
        try with_reducible rfl
      simp only [Act.put, List.setIfInBounds_toArray, List.set_cons_zero, List.set_cons_succ]
      refine hs_take (i := 19) (d := some 4) (v := ?_) rfl (by kernel_rfl) (by kernel_rfl) (by kernel_rfl) (by rfl) ?_ hS rfl ?_
      rotate_left
      · intro w' hw
        go_simp
        try with_reducible rfl
      simp only [Act.put, List.setIfInBounds_toArray, List.set_cons_zero, List.set_cons_succ]
      refine hs_done (by kernel_rfl) ?_
      go_wp2_with fail
      go_ret
      exact ⟨rfl, hS.2.1⟩
end Go.Proofs.Ytnjlamcpfclgaaa
