/- tape: power goes -/
import Derived.Test.YtfkchnjbbbhmjaaT4
namespace Go.Proofs.Ytfkchnjbbbhmjaa
open Go.RowKit
theorem v8_take (xs : List Int) (n : Nat) : v8 (xs.take n) = (v8 xs).take n := by simp [v8, List.map_take]
theorem cut_row {B m : Nat} {v : Value} {xs : List Int} {w : World} (ho : w.ownsRow B 5 1 v xs.length (v8 xs)) (hm : m ≤ xs.length) : w.ownsRow B 5 1 (cutV v m) (xs.take m).length (v8 (xs.take m)) := by
  have := (cut_owns ho hm).1
  rw [v8_take, List.length_take, Nat.min_eq_left hm]
  exact this
def lostTv (t : Tv) (M : Mt) (keep : Int) : Tv := ⟨t.p, cutV t.va (keptN keep M.a.length M.sa), cutV t.vb (keptN keep M.b.length M.sb), 0, 0⟩
theorem lost_turned {w wr : World} {t : Tv} {M : Mt} (h : TapeAt w t M) (keep : Int) (hc : CellsAt w wr t.p (tcells (lostTv t M keep) (M.lose keep))) : Turned w wr t (M.lose keep) :=
  Turned.of_cells h hc rfl (cut_row h.oa (keptN_le keep h.ok.sa)) (cut_row h.ob (keptN_le keep h.ok.sb)) (.inr (cut_owns h.oa (keptN_le keep h.ok.sa)).2) (.inr (cut_owns h.ob (keptN_le keep h.ok.sb)).2) (fun q => by cases q) (h.ok.lose keep)
set_option maxRecDepth 100000 in
set_option maxHeartbeats 2000000 in
theorem lose_any (t : Tv) (M : Mt) (keep : Int) (w : World) (h : TapeAt w t M) :
    Calls Try.prog 51 #[tptr t, .int .i64 keep] w fun e w' => e = .returned (.tuple #[]) ∧ Turned w w' t (M.lose keep) := by
  obtain ⟨n0, hn0⟩ : ∃ n, Hid (keptN keep M.a.length M.sa = n) := ⟨_, hide rfl⟩
  obtain ⟨n1, hn1⟩ : ∃ n, Hid (keptN keep M.b.length M.sb = n) := ⟨_, hide rfl⟩
  obtain ⟨u0, hu0⟩ : ∃ u, Hid (cutV t.va n0 = u) := ⟨_, hide rfl⟩
  obtain ⟨u1, hu1⟩ : ∃ u, Hid (cutV t.vb n1 = u) := ⟨_, hide rfl⟩
  have hrm := h.ok.rm
  have hrl := h.ok.rl
  have k0 := fun wr (hc : CellsAt w wr t.p (tcells t M)) => loseA_any t.p 3 M.a.length M.sa 0 keep t.va (v8 M.a) wr (owns_at h.oa (fun g hg => hc.off.2 g (owns_lt h.oa hg) (h.ap g hg).1)) (by omega) h.ok.sa (hc.cell 3 rfl) (hc.fz 3 (by omega)) (hc.cell 4 rfl) (hc.fz 4 (by omega))
  have k1 := fun wr (hc : CellsAt w wr t.p (((tcells t M).set 3 u0).set 4 (.int .i64 (n0 : Int)))) => loseA_any t.p 5 M.b.length M.sb 0 keep t.vb (v8 M.b) wr (owns_at h.ob (fun g hg => hc.off.2 g (owns_lt h.ob hg) (h.bp g hg))) (by omega) h.ok.sb (hc.cell 5 rfl) (hc.fz 5 (by omega)) (hc.cell 6 rfl) (hc.fz 6 (by omega))
  simp only [hn0.out, hu0.out] at k0
  simp only [hn1.out, hu1.out] at k1
  have HF : Hid (∀ wr, CellsAt w wr t.p ((((((((((tcells t M).set 3 u0).set 4 (.int .i64 (n0 : Int))).set 5 u1).set 6 (.int .i64 (n1 : Int))).set 1 (.bool false)).set 7 (.bool false)).set 8 (.int .i64 0)).set 9 (.int .i64 0)).set 11 (.int .i64 (wrap64 (M.fa + 1)))) → Turned w wr t (M.lose keep)) := hide (fun wr hc => by
    refine lost_turned h keep ?_
    unfold lostTv Mt.lose
    rw [hn0.out, hn1.out, hu0.out, hu1.out]
    exact hc)
  have hC := CellsAt.start h
  clear h hn0 hn1 hu0 hu1 hrm hrl
  unfold tptr
  go_enter Try.func51, Try.ntmps51
  go_wp2_with fail
  go_loopw [5] (fun iv wr => (iv = .int .i64 0 ∧ CellsAt w wr t.p (tcells t M)) ∨ (iv = .int .i64 1 ∧ CellsAt w wr t.p (((tcells t M).set 3 u0).set 4 (.int .i64 (n0 : Int)))) ∨ (iv = .int .i64 2 ∧ CellsAt w wr t.p (((((tcells t M).set 3 u0).set 4 (.int .i64 (n0 : Int))).set 5 u1).set 6 (.int .i64 (n1 : Int))))) (fun iv _ => 2 - (intOf iv).toNat)
  case atStart => exact .inl ⟨rfl, hC⟩
  case round =>
    clear hC
    rcases hrel with ⟨rfl, hc⟩ | ⟨rfl, hc⟩ | ⟨rfl, hc⟩
    · go_wp2_with fail
      refine (k0 wr hc).mono ?_
      rintro e w' ⟨rfl, w1, b1, -, rfl⟩
      have hc1 := ((hc.below b1).set 3 u0).set 4 (.int .i64 (n0 : Int))
      clear k0 k1 hc b1
      obtain ⟨w9, hw9⟩ : ∃ w9, (w1.setCell ⟨t.p, 3, none⟩ u0).setCell ⟨t.p, 3 + 1, none⟩ (.int .i64 (n0 : Int)) = w9 := ⟨_, rfl⟩
      rw [hw9] at hc1 ⊢
      clear hw9
      go_wp2_with fail
      go_roundw
      case rel => exact .inr (.inl ⟨rfl, hc1⟩)
      case measure => simp [intOf]
    · go_wp2_with fail
      refine (k1 wr hc).mono ?_
      rintro e w' ⟨rfl, w1, b1, -, rfl⟩
      have hc1 := ((hc.below b1).set 5 u1).set 6 (.int .i64 (n1 : Int))
      clear k0 k1 hc b1
      obtain ⟨w9, hw9⟩ : ∃ w9, (w1.setCell ⟨t.p, 5, none⟩ u1).setCell ⟨t.p, 5 + 1, none⟩ (.int .i64 (n1 : Int)) = w9 := ⟨_, rfl⟩
      rw [hw9] at hc1 ⊢
      clear hw9
      go_wp2_with fail
      go_roundw
      case rel => exact .inr (.inr ⟨rfl, hc1⟩)
      case measure => simp [intOf]
    · have q1 := hc.cell 1 rfl
      have q7 := hc.cell 7 rfl
      have q8 := hc.cell 8 rfl
      have q9 := hc.cell 9 rfl
      have q11 := hc.cell 11 rfl
      have f1 := hc.fz 1 (by omega)
      have f7 := hc.fz 7 (by omega)
      have f8 := hc.fz 8 (by omega)
      have f9 := hc.fz 9 (by omega)
      have f11 := hc.fz 11 (by omega)
      have HX := hide (HF.out _ (((((hc.set 1 (.bool false)).set 7 (.bool false)).set 8 (.int .i64 0)).set 9 (.int .i64 0)).set 11 (.int .i64 (wrap64 (M.fa + 1)))))
      clear hc HF k0 k1
      go_wp2_with fail
      go_end0
      exact ⟨rfl, HX.out⟩
set_option maxRecDepth 100000 in
set_option maxHeartbeats 2000000 in
theorem fail_any (t : Tv) (M : Mt) (keep : Int) (w : World) (h : TapeAt w t M) :
    Calls Try.prog 17 #[tptr t, .int .i64 keep] w fun e w' => e = .returned (.int .i64 (M.fail keep).1) ∧ Turned w w' t (M.fail keep).2 := by
  have c1 := isMade_any t M w h
  have c2 := lose_any t M keep w h
  have q1 := h.c1
  unfold Mt.fail
  unfold tptr at *
  by_cases hon : M.on = true
  · rw [if_pos hon]
    rw [hon] at q1
    clear h hon
    go_enter Try.func17, Try.ntmps17
    go_wp2_with fail
    refine c1.mono ?_
    rintro e w' ⟨rfl, hw⟩
    obtain rfl := hw.symm
    clear c1 hw
    go_wp2_with fail
    refine c2.mono ?_
    rintro e w' ⟨rfl, hw⟩
    clear c2
    go_wp2_with fail
    go_ret
    exact ⟨rfl, hw⟩
  · rw [if_neg hon]
    have hon : M.on = false := by simpa using hon
    rw [hon] at q1
    have HT : Hid (Turned w w t M) := hide (Turned.same h (Below.refl _ _))
    clear h hon c2
    go_enter Try.func17, Try.ntmps17
    go_wp2_with fail
    refine c1.mono ?_
    rintro e w' ⟨rfl, hw⟩
    obtain rfl := hw.symm
    clear c1 hw
    go_wp2_with fail
    go_ret
    exact ⟨rfl, HT.out⟩
end Go.Proofs.Ytfkchnjbbbhmjaa
