/- The document's reader: Raw. -/
import Derived.Test.YtiihfjoikoogfaaRefReadZ
import Derived.Test.YtiihfjoikoogfaaHeld2Z
namespace Go.Proofs.Ytiihfjoikoogfaa
open Go.RowKit
open Tal
variable {B : Nat}
set_option maxHeartbeats 1600000 in
theorem refRaw_good (X : Nat) (zs : List Int) (p : Nat) (w : World) (hR : Rf B w X zs p 0) (m : Nat) (hmc : p + m ≤ zs.length) :
    Calls Try.prog 23 #[.pointer (some ⟨X, 0, none⟩), .int .i64 (m : Int)] w fun en w' => ∃ v, en = .returned v ∧ Mine w' w.heap.size v ((zs.drop p).take m) ∧ RSt B w' X (zs.drop (p + m)) 0 ∧ w.grownBy w' (some X) := by
  obtain ⟨i0, hi, hz0, hz1, hz2⟩ := info_parts info5
  have hl5 := hR.2.2.2.2.2.2.2.2
  have hpl := hR.2.2.2.2.2.2.2.1
  have h2 := hR.2.2.2.1
  have f1 := hR.2.2.2.2.2.1
  have h1 := hR.2.2.1
  obtain ⟨a, cap, h0, hc, hm, hrow, hne⟩ := id hR.2.1
  unfold maxLen at hm
  have hfew : ¬ ((zs.length : Int) - p < m) := by omega
  have hn0 : ¬ ((m : Int) < 0) := by omega
  go_enter Try.func23, Try.ntmps23
  go_wp2_with fail
  go_quiet (fail)
  go_wp2_with fail
  have hwrap : IntKind.i64.wrap (p : Int) = p := by
    have e : (p : Int) % 2 ^ 64 = p := by omega
    simp only [IntKind.wrap, IntKind.bits, IntKind.signed, e]
    rw [if_neg (by simp; omega)]
  have hRf : Rf B ((w.drewN nq).setCell ⟨X, 1, none⟩ (.int .i64 ((p : Int) + m))) X zs (p + m) 0 := by
    have := (hR.drewN nq).set1 (p + m) hmc
    have e : ((p + m : Nat) : Int) = (p : Int) + m := by omega
    rw [e] at this; exact this
  have hgW : w.grownBy ((w.drewN nq).setCell ⟨X, 1, none⟩ (.int .i64 ((p : Int) + m))) (some X) := gb_trans (gb_drewN w nq _) (gb_set _ X 1 _)
  have HC0 : ((w.drewN nq).setCell ⟨X, 1, none⟩ (.int .i64 ((p : Int) + m))).drew.cell? ⟨X, 0, none⟩ = some (.slice a zs.length cap) := by
    have : (w.drewN nq).cell? ⟨X, 0, none⟩ = some (.slice a zs.length cap) := by simpa using h0
    exact (World.cell?_setCell_other _ _ _ _ (by simp)).trans this
  generalize (w.drewN nq).setCell ⟨X, 1, none⟩ (.int .i64 ((p : Int) + m)) = W at *
  have hW : Below W.heap.size W W.drew := (Below.refl _ _).drew
  have hRd : Rf B W.drew X zs (p + m) 0 := hRf.below hW
  have hrd : RowAt W.drew a zs := (hrow.gb hgW (suc_ne hne)).below hW
  have hsz : w.heap.size ≤ W.drew.heap.size := hgW.size
  clear h0 h1 h2 f1 hrow
  have hk0 : ∀ w', Below W.drew.heap.size W.drew w' → w'.cell? ⟨X, 0, none⟩ = some (.slice a zs.length cap) := by
    intro w' hw
    have hb := (cell_block (j := 0) (hw.block X hRd.1)).1
    rw [hb]; exact HC0
  have hk1 : ∀ w', Below W.drew.heap.size W.drew w' → w'.cell? ⟨X, 1, none⟩ = some (.int .i64 ((p : Int) + m)) := by
    intro w' hw
    have hb := (cell_block (j := 1) (hw.block X hRd.1)).1
    have := hRd.2.2.1
    have e : ((p + m : Nat) : Int) = (p : Int) + m := by omega
    rw [hb, this, e]
  have hsrc : Src Try.prog 1 22 (.slice (cutA a cap p) m (cap - p)) m (((zs.drop p).take m).map (Value.int .u8)) (W.drew.alloc (.cells #[] 5)) := by
    have hr := (((hrd.drop p cap hpl hc).take m).below ((Below.refl _ _).alloc (Nat.le_refl _) (.cells #[] 5))).src (cap - p)
    have el : ((zs.drop p).take m).length = m := by rw [List.length_take, List.length_drop]; omega
    rw [el] at hr; exact hr
  refine held_begin 18 rfl (by kernel_rfl) ?_
  have hS := Below.refl (W.drew).heap.size W.drew
  refine held_take (i := 1) (d := some 40) (v := ?_) rfl (by kernel_rfl) (by kernel_rfl) (by kernel_rfl) (by rfl) ?_ (by assumption) rfl ?_
  rotate_left
  · intro w' hw
    go_simp
    try with_reducible rfl
  simp only [Act.put, List.setIfInBounds_toArray, List.set_cons_zero, List.set_cons_succ]
  refine held_take (i := 2) (d := some 41) (v := ?_) rfl (by kernel_rfl) (by kernel_rfl) (by kernel_rfl) (by rfl) ?_ (by assumption) rfl ?_
  rotate_left
  · intro w' hw
    go_simp
    try with_reducible rfl
  simp only [Act.put, List.setIfInBounds_toArray, List.set_cons_zero, List.set_cons_succ]
  refine held_take (i := 3) (d := some 42) (v := ?_) rfl (by kernel_rfl) (by kernel_rfl) (by kernel_rfl) (by rfl) ?_ (by assumption) rfl ?_
  rotate_left
  · intro w' hw
    go_simp
    try with_reducible rfl
  simp only [Act.put, List.setIfInBounds_toArray, List.set_cons_zero, List.set_cons_succ]
  refine held_take (i := 4) (d := some 43) (v := ?_) rfl (by kernel_rfl) (by kernel_rfl) (by kernel_rfl) (by rfl) ?_ (by assumption) rfl ?_
  rotate_left
  · intro w' hw
    have c0 := hk0 w' hw
    have c1 := hk1 w' hw
    go_simp
    try with_reducible rfl
  simp only [Act.put, List.setIfInBounds_toArray, List.set_cons_zero, List.set_cons_succ]
  refine held_take (i := 5) (d := some 44) (v := ?_) rfl (by kernel_rfl) (by kernel_rfl) (by kernel_rfl) (by rfl) ?_ (by assumption) rfl ?_
  rotate_left
  · intro w' hw
    go_simp
    try with_reducible rfl
  simp only [Act.put, List.setIfInBounds_toArray, List.set_cons_zero, List.set_cons_succ]
  refine held_take (i := 6) (d := some 45) (v := ?_) rfl (by kernel_rfl) (by kernel_rfl) (by kernel_rfl) (by rfl) ?_ (by assumption) rfl ?_
  rotate_left
  · intro w' hw
    go_simp
    try with_reducible rfl
  simp only [Act.put, List.setIfInBounds_toArray, List.set_cons_zero, List.set_cons_succ]
  refine held_take (i := 7) (d := some 46) (v := ?_) rfl (by kernel_rfl) (by kernel_rfl) (by kernel_rfl) (by rfl) ?_ (by assumption) rfl ?_
  rotate_left
  · intro w' hw
    go_simp
    try with_reducible rfl
  simp only [Act.put, List.setIfInBounds_toArray, List.set_cons_zero, List.set_cons_succ]
  refine held_take (i := 8) (d := some 47) (v := ?_) rfl (by kernel_rfl) (by kernel_rfl) (by kernel_rfl) (by rfl) ?_ (by assumption) rfl ?_
  rotate_left
  · intro w' hw
    have c0 := hk0 w' hw
    have c1 := hk1 w' hw
    go_simp
    try with_reducible rfl
  simp only [Act.put, List.setIfInBounds_toArray, List.set_cons_zero, List.set_cons_succ]
  refine held_take (i := 9) (d := some 48) (v := ?_) rfl (by kernel_rfl) (by kernel_rfl) (by kernel_rfl) (by rfl) ?_ (by assumption) rfl ?_
  rotate_left
  · intro w' hw
    go_simp
    try with_reducible rfl
  simp only [Act.put, List.setIfInBounds_toArray, List.set_cons_zero, List.set_cons_succ]
  refine held_take (i := 10) (d := some 49) (v := .int .i64 (p : Int)) rfl (by kernel_rfl) (by kernel_rfl) (by kernel_rfl) (by rfl) ?_ (by assumption) rfl ?_
  · intro w' hw
    go_simp
  simp only [Act.put, List.setIfInBounds_toArray, List.set_cons_zero, List.set_cons_succ]
  refine held_take (i := 11) (d := some 50) (v := ?_) rfl (by kernel_rfl) (by kernel_rfl) (by kernel_rfl) (by rfl) ?_ (by assumption) rfl ?_
  rotate_left
  · intro w' hw
    go_simp
    try with_reducible rfl
  simp only [Act.put, List.setIfInBounds_toArray, List.set_cons_zero, List.set_cons_succ]
  refine held_take (i := 12) (d := some 51) (v := ?_) rfl (by kernel_rfl) (by kernel_rfl) (by kernel_rfl) (by rfl) ?_ (by assumption) rfl ?_
  rotate_left
  · intro w' hw
    go_simp
    try with_reducible rfl
  simp only [Act.put, List.setIfInBounds_toArray, List.set_cons_zero, List.set_cons_succ]
  refine held_take (i := 13) (d := some 52) (v := ?_) rfl (by kernel_rfl) (by kernel_rfl) (by kernel_rfl) (by rfl) ?_ (by assumption) rfl ?_
  rotate_left
  · intro w' hw
    go_simp
    try with_reducible rfl
  simp only [Act.put, List.setIfInBounds_toArray, List.set_cons_zero, List.set_cons_succ]
  refine held_take (i := 14) (d := some 53) (v := ?_) rfl (by kernel_rfl) (by kernel_rfl) (by kernel_rfl) (by rfl) ?_ (by assumption) rfl ?_
  rotate_left
  · intro w' hw
    have c0 := hk0 w' hw
    have c1 := hk1 w' hw
    go_simp
    try with_reducible rfl
  simp only [Act.put, List.setIfInBounds_toArray, List.set_cons_zero, List.set_cons_succ]
  refine held_take (i := 15) (d := some 54) (v := .slice (cutA a cap p) m (cap - p)) rfl (by kernel_rfl) (by kernel_rfl) (by kernel_rfl) (by rfl) ?_ (by assumption) rfl ?_
  · intro w' hw
    go_simp
    rw [if_pos (by omega), if_pos (by omega)]
    have e1 : ((p : Int) + m).toNat - p = m := by omega
    rw [e1]
    simp only [cutA]
  simp only [Act.put, List.setIfInBounds_toArray, List.set_cons_zero, List.set_cons_succ]
  refine held_run (i := 0) (d := some 39) (v := .slice (some ⟨W.drew.heap.size, 0, none⟩) 0 0) (w' := W.drew.alloc (.cells #[] 5)) rfl (by kernel_rfl) (by rfl) (by go_simp; try with_reducible rfl) rfl ?_ ?_
  · exact (Below.refl _ _).alloc (Nat.le_refl _) _
  simp only [Act.put, List.setIfInBounds_toArray, List.set_cons_zero, List.set_cons_succ]
  obtain ⟨v', w', hrun, hown, hgrow⟩ := run_append_own_src (P := Try.prog) (W.drew.alloc (.cells #[] 5)) W.drew.heap.size 22 22 22 5 i0 (.int .u8 0) 1 1 Try.underlying22 hi hz0 hz1 hz2 rfl (.slice (some ⟨W.drew.heap.size, 0, none⟩) 0 0) 0 [] (World.ownsRow_made W.drew #[] 0 (Nat.le_refl _) (by simp) (by simp)) (.slice (cutA a cap p) m (cap - p)) m (((zs.drop p).take m).map (Value.int .u8)) hsrc (by unfold maxLen; omega) (by omega) (by simp)
  have hb1 : Below W.drew.heap.size W.drew w' := ((Below.refl _ _).alloc (Nat.le_refl _) _).grown hgrow (by simp) (fun k hk => by simp [Value.ownBlock] at hk; have : W.drew.heap.size = W.heap.size := rfl; omega)
  refine held_run (i := 16) (d := some 55) (v := v') (w' := w') rfl (by kernel_rfl) (by rfl) (exec_append rfl rfl rfl hrun) rfl hb1 ?_
  simp only [Act.put, List.setIfInBounds_toArray, List.set_cons_zero, List.set_cons_succ]
  refine held_take (i := 17) (d := some 4) (v := ?_) rfl (by kernel_rfl) (by kernel_rfl) (by kernel_rfl) (by rfl) ?_ (by assumption) rfl ?_
  rotate_left
  · intro w' hw
    go_simp
    try with_reducible rfl
  simp only [Act.put, List.setIfInBounds_toArray, List.set_cons_zero, List.set_cons_succ]
  refine held_done (by kernel_rfl) ?_
  go_wp2_with fail
  go_ret
  have el : ((zs.drop p).take m).length = m := by rw [List.length_take, List.length_drop]; omega
  have hM : Mine w' W.drew.heap.size v' ((zs.drop p).take m) := Mine.mk' _ hown (by rw [el]; omega) (by simp) (fun z hz => hrd.2.1 z (List.mem_of_mem_drop (List.mem_of_mem_take hz)))
  exact ⟨_, rfl, hM.mono' hsz, ⟨zs, p + m, hRd.below hb1, fun _ => rfl⟩, gb_trans hgW (gb_below (hW.trans hb1) _)⟩
set_option maxHeartbeats 1600000 in
theorem refRaw_any (X : Nat) (rest : List Int) (e n : Int) (w : World) (h : RSt B w X rest e) :
    Calls Try.prog 23 #[.pointer (some ⟨X, 0, none⟩), .int .i64 n] w fun en w' => ∃ v, en = .returned v ∧ Mine w' w.heap.size v (rawS rest e n).1 ∧ RSt B w' X (rawS rest e n).2.1 (rawS rest e n).2.2 ∧ w.grownBy w' (some X) := by
  obtain ⟨zs, p, hR, hd⟩ := h
  have hl5 := hR.2.2.2.2.2.2.2.2
  have hpl := hR.2.2.2.2.2.2.2.1
  by_cases he : e = 0
  · subst he
    have hd := hd rfl
    subst hd
    by_cases hn : n < 0
    · have HS : Hid (rawS (zs.drop p) 0 n = ([], zs.drop p, 2)) := by show _ = _; unfold rawS; rw [if_pos rfl, if_pos hn]
      have h2 := hR.2.2.2.1
      have f2 := hR.2.2.2.2.2.2.1
      go_enter Try.func23, Try.ntmps23
      go_wp2_with fail
      go_ret
      rw [HS.out]
      exact ⟨_, rfl, Mine.nil _ _, ⟨zs, p, hR.set2 2, fun h => by cases h⟩, gb_set _ X 2 _⟩
    · by_cases hf : (zs.length : Int) - p < n
      · have HS : Hid (rawS (zs.drop p) 0 n = ([], zs.drop p, 10)) := by show _ = _; unfold rawS; rw [if_pos rfl, if_neg hn, if_pos (by rw [List.length_drop]; omega)]
        have h2 := hR.2.2.2.1
        have h1 := hR.2.2.1
        have f2 := hR.2.2.2.2.2.2.1
        obtain ⟨a, cap, h0, hc, hm, hr⟩ := hR.rest
        go_enter Try.func23, Try.ntmps23
        go_wp2_with fail
        go_quiet (fail)
        go_wp2_with fail
        go_ret
        rw [HS.out]
        exact ⟨_, rfl, Mine.nil _ _, ⟨zs, p, (hR.drewN nq).set2 10, fun h => by cases h⟩, gb_trans (gb_drewN w nq _) (gb_set _ X 2 _)⟩
      · obtain ⟨m, rfl⟩ := Int.eq_ofNat_of_zero_le (Int.not_lt.1 hn)
        have e1 : rawS (zs.drop p) 0 (m : Int) = ((zs.drop p).take m, zs.drop (p + m), 0) := by
          unfold rawS; rw [if_pos rfl, if_neg hn, if_neg (by rw [List.length_drop]; omega), Int.toNat_natCast, List.drop_drop]
        rw [e1]
        exact refRaw_good X zs p w hR m (by omega)
  · have HS : Hid (rawS rest e n = ([], rest, e)) := by show _ = _; unfold rawS; rw [if_neg he]
    have he' : (e == 0) = false := by simpa using he
    have h2 := hR.2.2.2.1
    go_enter Try.func23, Try.ntmps23
    go_wp2_with fail
    go_ret
    rw [HS.out]
    exact ⟨_, rfl, Mine.nil _ _, ⟨zs, p, hR, fun h => absurd h he⟩, gb_refl _ _⟩
end Go.Proofs.Ytiihfjoikoogfaa
