/- tape: what is told of a tape -/
import Derived.Test.YtfkchnjbbbhmjaaT2b
namespace Go.Proofs.Ytfkchnjbbbhmjaa
open Go.RowKit
section
variable {w : World} {t : Tv} {M : Mt}
theorem TapeAt.c0 (h : TapeAt w t M) : w.cell? ⟨t.p, 0, none⟩ = some (.bool true) := h.r 0 _ rfl
theorem TapeAt.c1 (h : TapeAt w t M) : w.cell? ⟨t.p, 1, none⟩ = some (.bool M.on) := h.r 1 _ rfl
theorem TapeAt.c2 (h : TapeAt w t M) : w.cell? ⟨t.p, 2, none⟩ = some (.int .i64 M.room) := h.r 2 _ rfl
theorem TapeAt.c3 (h : TapeAt w t M) : w.cell? ⟨t.p, 3, none⟩ = some t.va := h.r 3 _ rfl
theorem TapeAt.c4 (h : TapeAt w t M) : w.cell? ⟨t.p, 4, none⟩ = some (.int .i64 M.sa) := h.r 4 _ rfl
theorem TapeAt.c5 (h : TapeAt w t M) : w.cell? ⟨t.p, 5, none⟩ = some t.vb := h.r 5 _ rfl
theorem TapeAt.c6 (h : TapeAt w t M) : w.cell? ⟨t.p, 6, none⟩ = some (.int .i64 M.sb) := h.r 6 _ rfl
theorem TapeAt.c7 (h : TapeAt w t M) : w.cell? ⟨t.p, 7, none⟩ = some (.bool M.pl) := h.r 7 _ rfl
theorem TapeAt.c8 (h : TapeAt w t M) : w.cell? ⟨t.p, 8, none⟩ = some (.int .i64 t.x) := h.r 8 _ rfl
theorem TapeAt.c9 (h : TapeAt w t M) : w.cell? ⟨t.p, 9, none⟩ = some (.int .i64 t.y) := h.r 9 _ rfl
theorem TapeAt.c10 (h : TapeAt w t M) : w.cell? ⟨t.p, 10, none⟩ = some (.int .i64 M.ops) := h.r 10 _ rfl
theorem TapeAt.c11 (h : TapeAt w t M) : w.cell? ⟨t.p, 11, none⟩ = some (.int .i64 M.fa) := h.r 11 _ rfl
theorem TapeAt.fz (h : TapeAt w t M) (i : Nat) (hi : i < 12) : w.frozen? ⟨t.p, i, none⟩ = false := by
  have := (h.th i hi).2
  rwa [Nat.zero_add] at this
end
set_option maxRecDepth 100000 in
set_option maxHeartbeats 2000000 in
theorem isMade_any (t : Tv) (M : Mt) (w : World) (h : TapeAt w t M) :
    Calls Try.prog 50 #[tptr t] w fun e w' => e = .returned (.bool true) ∧ w' = w := by
  have h0 := h.c0
  clear h
  unfold tptr
  go_enter Try.func50, Try.ntmps50
  go_wp2_with fail
  go_ret
  exact ⟨rfl, rfl⟩
set_option maxRecDepth 100000 in
set_option maxHeartbeats 2000000 in
theorem isArea_any (pv : Value) (n : Int) (w : World) :
    Calls Try.prog 54 #[pv, .int .i64 n] w fun e w' => e = .returned (.bool (decide (n = 0 ∨ n = 1))) ∧ w' = w := by
  by_cases h0 : 0 ≤ n
  · by_cases h1 : n < 2
    · have hd : decide (n = 0 ∨ n = 1) = true := decide_eq_true (by omega)
      rw [hd]
      clear hd
      go_enter Try.func54, Try.ntmps54
      go_wp2_with fail
      go_ret
      exact ⟨rfl, rfl⟩
    · have hd : decide (n = 0 ∨ n = 1) = false := decide_eq_false (by omega)
      rw [hd]
      clear hd
      go_enter Try.func54, Try.ntmps54
      go_wp2_with fail
      go_ret
      exact ⟨rfl, rfl⟩
  · have hd : decide (n = 0 ∨ n = 1) = false := decide_eq_false (by omega)
    rw [hd]
    clear hd
    go_enter Try.func54, Try.ntmps54
    go_wp2_with fail
    go_ret
    exact ⟨rfl, rfl⟩
set_option maxRecDepth 100000 in
set_option maxHeartbeats 2000000 in
theorem reach_any (t : Tv) (M : Mt) (area : Int) (w : World) (h : TapeAt w t M) :
    Calls Try.prog 42 #[tptr t, .int .i64 area] w fun e w' => e = .returned (.int .i64 (M.fault area)) ∧ w' = w := by
  have c1 := isMade_any t M w h
  have c2 := isArea_any (tptr t) area w
  have h1 := h.c1
  unfold Mt.fault
  unfold tptr at *
  clear h
  by_cases ha : area = 0 ∨ area = 1
  · have hd : decide (area = 0 ∨ area = 1) = true := decide_eq_true ha
    rw [hd] at c2
    rw [if_pos ha]
    clear hd ha
    cases hon : M.on
    · rw [hon] at h1
      have HE : Hid ((if false = true then (0 : Int) else 150) = 150) := hide rfl
      rw [HE.out]
      clear hon HE
      go_enter Try.func42, Try.ntmps42
      go_wp2_with fail
      refine c1.mono ?_
      rintro e w' ⟨rfl, hw⟩
      obtain rfl := hw.symm
      clear c1 hw
      go_wp2_with fail
      refine c2.mono ?_
      rintro e w' ⟨rfl, hw⟩
      obtain rfl := hw.symm
      clear c2 hw
      go_wp2_with fail
      go_ret
      exact ⟨rfl, rfl⟩
    · rw [hon] at h1
      have HE : Hid ((if true = true then (0 : Int) else 150) = 0) := hide rfl
      rw [HE.out]
      clear hon HE
      go_enter Try.func42, Try.ntmps42
      go_wp2_with fail
      refine c1.mono ?_
      rintro e w' ⟨rfl, hw⟩
      obtain rfl := hw.symm
      clear c1 hw
      go_wp2_with fail
      refine c2.mono ?_
      rintro e w' ⟨rfl, hw⟩
      obtain rfl := hw.symm
      clear c2 hw
      go_wp2_with fail
      go_ret
      exact ⟨rfl, rfl⟩
  · have hd : decide (area = 0 ∨ area = 1) = false := decide_eq_false ha
    rw [hd] at c2
    rw [if_neg ha]
    clear hd ha
    go_enter Try.func42, Try.ntmps42
    go_wp2_with fail
    refine c1.mono ?_
    rintro e w' ⟨rfl, hw⟩
    obtain rfl := hw.symm
    clear c1 hw
    go_wp2_with fail
    refine c2.mono ?_
    rintro e w' ⟨rfl, hw⟩
    obtain rfl := hw.symm
    clear c2 hw
    go_wp2_with fail
    go_ret
    exact ⟨rfl, rfl⟩
set_option maxRecDepth 100000 in
set_option maxHeartbeats 2000000 in
theorem on_any (t : Tv) (M : Mt) (w : World) (h : TapeAt w t M) :
    Calls Try.prog 25 #[tptr t] w fun e w' => e = .returned (.bool M.on) ∧ w' = w := by
  have c1 := isMade_any t M w h
  have h1 := h.c1
  clear h
  unfold tptr at *
  go_enter Try.func25, Try.ntmps25
  go_wp2_with fail
  refine c1.mono ?_
  rintro e w' ⟨rfl, hw⟩
  obtain rfl := hw.symm
  clear c1 hw
  go_wp2_with fail
  go_ret
  exact ⟨rfl, rfl⟩
set_option maxRecDepth 100000 in
set_option maxHeartbeats 2000000 in
theorem counts_any (t : Tv) (M : Mt) (w : World) (h : TapeAt w t M) :
    Calls Try.prog 23 #[tptr t] w fun e w' => e = .returned (.tuple #[.int .i64 M.ops, .int .i64 M.fa]) ∧ Below w.heap.size w w' := by
  have c1 := isMade_any t M w h
  have h1 := h.c10
  have h2 := h.c11
  clear h
  unfold tptr at *
  go_enter Try.func23, Try.ntmps23
  go_wp2_with fail
  refine c1.mono ?_
  rintro e w' ⟨rfl, hw⟩
  obtain rfl := hw.symm
  clear c1 hw
  go_wp2_with fail
  go_quiet (fail)
  go_wp2_with fail
  go_ret2
  exact ⟨rfl, below_drewN (Below.refl _ _) _⟩
set_option maxRecDepth 100000 in
set_option maxHeartbeats 2000000 in
theorem sure_any (t : Tv) (M : Mt) (area : Int) (w : World) (h : TapeAt w t M) :
    Calls Try.prog 21 #[tptr t, .int .i64 area] w fun e w' => e = .returned (.int .i64 (if area = 0 then (M.sa : Int) else if area = 1 then (M.sb : Int) else 0)) ∧ w' = w := by
  have c1 := isMade_any t M w h
  have c2 := isArea_any (tptr t) area w
  have h1 := h.c4
  have h2 := h.c6
  unfold tptr at *
  clear h
  by_cases ha : area = 0
  · subst ha
    rw [if_pos rfl]
    rw [show decide ((0 : Int) = 0 ∨ (0 : Int) = 1) = true from rfl] at c2
    go_enter Try.func21, Try.ntmps21
    go_wp2_with fail
    refine c1.mono ?_
    rintro e w' ⟨rfl, hw⟩
    obtain rfl := hw.symm
    clear c1 hw
    go_wp2_with fail
    refine c2.mono ?_
    rintro e w' ⟨rfl, hw⟩
    obtain rfl := hw.symm
    clear c2 hw
    go_wp2_with fail
    go_ret
    exact ⟨rfl, rfl⟩
  · rw [if_neg ha]
    by_cases hb : area = 1
    · subst hb
      rw [if_pos rfl]
      rw [show decide ((1 : Int) = 0 ∨ (1 : Int) = 1) = true from rfl] at c2
      clear ha
      go_enter Try.func21, Try.ntmps21
      go_wp2_with fail
      refine c1.mono ?_
      rintro e w' ⟨rfl, hw⟩
      obtain rfl := hw.symm
      clear c1 hw
      go_wp2_with fail
      refine c2.mono ?_
      rintro e w' ⟨rfl, hw⟩
      obtain rfl := hw.symm
      clear c2 hw
      go_wp2_with fail
      go_ret
      exact ⟨rfl, rfl⟩
    · rw [if_neg hb]
      rw [show decide (area = 0 ∨ area = 1) = false from decide_eq_false (by omega)] at c2
      clear ha hb
      go_enter Try.func21, Try.ntmps21
      go_wp2_with fail
      refine c1.mono ?_
      rintro e w' ⟨rfl, hw⟩
      obtain rfl := hw.symm
      clear c1 hw
      go_wp2_with fail
      refine c2.mono ?_
      rintro e w' ⟨rfl, hw⟩
      obtain rfl := hw.symm
      clear c2 hw
      go_wp2_with fail
      go_ret
      exact ⟨rfl, rfl⟩
set_option maxRecDepth 100000 in
set_option maxHeartbeats 2000000 in
theorem used_any (t : Tv) (M : Mt) (w : World) (h : TapeAt w t M) :
    Calls Try.prog 22 #[tptr t] w fun e w' => e = .returned (.int .i64 ((M.a.length : Int) + M.b.length)) ∧ w' = w := by
  have c1 := isMade_any t M w h
  obtain ⟨a0, cap0, e0⟩ := owns_slice h.oa
  obtain ⟨a1, cap1, e1⟩ := owns_slice h.ob
  have h0 := h.c3
  have h1 := h.c5
  rw [e0] at h0
  rw [e1] at h1
  have s0 := size_any t.p 3 _ _ _ w h0
  have s1 := size_any t.p 5 _ _ _ w h1
  have hr := h.ok.rm
  have hl := h.ok.rl
  clear h e0 e1
  unfold tptr at *
  go_enter Try.func22, Try.ntmps22
  go_wp2_with fail
  refine c1.mono ?_
  rintro e w' ⟨rfl, hw⟩
  obtain rfl := hw.symm
  clear c1 hw
  go_wp2_with fail
  go_loopw [3, 8] (fun uv iv wr => wr = w ∧ ((iv = .int .i64 0 ∧ uv = .int .i64 0) ∨ (iv = .int .i64 1 ∧ uv = .int .i64 (M.a.length : Int)) ∨ (iv = .int .i64 2 ∧ uv = .int .i64 ((M.a.length : Int) + M.b.length)))) (fun _ iv _ => 2 - (intOf iv).toNat)
  case atStart => exact ⟨rfl, .inl ⟨rfl, rfl⟩⟩
  case round =>
    obtain ⟨hw, hc⟩ := hrel
    obtain rfl := hw.symm
    clear hw
    rcases hc with ⟨rfl, rfl⟩ | ⟨rfl, rfl⟩ | ⟨rfl, rfl⟩
    · go_wp2_with fail
      refine s0.mono ?_
      rintro e w' ⟨rfl, hw⟩
      obtain rfl := hw.symm
      clear s0 s1 hw
      go_wp2_with fail
      go_roundw
      case rel => first | exact ⟨trivial, .inr (.inl ⟨rfl, rfl⟩)⟩ | simp
      case measure => simp [intOf]
    · go_wp2_with fail
      refine s1.mono ?_
      rintro e w' ⟨rfl, hw⟩
      obtain rfl := hw.symm
      clear s0 s1 hw
      go_wp2_with fail
      go_roundw
      case rel => first | exact ⟨trivial, .inr (.inr ⟨rfl, rfl⟩)⟩ | simp
      case measure => simp [intOf]
    · go_wp2_with fail
      go_ret
      exact ⟨rfl, rfl⟩
end Go.Proofs.Ytfkchnjbbbhmjaa
