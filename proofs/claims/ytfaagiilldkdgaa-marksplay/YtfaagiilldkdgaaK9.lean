/- the chapter's example -/
import Derived.Test.YtfaagiilldkdgaaK8
namespace Go.Proofs.Ytfaagiilldkdgaa
open Go.RowKit Go.Shelf
set_option linter.unusedVariables false
set_option linter.unusedSimpArgs false
def d7 : List Int := 7 :: List.replicate 31 0
def tg (z : Int) : List Int := z :: List.replicate 15 0
theorem d7_len : d7.length = 32 := by decide
theorem d7_b : B8 d7 := by unfold B8 d7; decide
def lx (z : Int) : Mk := ⟨1, d7, tg z⟩
theorem lx_ok (z : Int) (hz : 0 ≤ z ∧ z < 256) : (lx z).ok := ⟨(by decide : -9223372036854775808 ≤ (1 : Int) ∧ (1 : Int) ≤ 9223372036854775807), d7_len, d7_b, rfl, fun y hy => by
  rcases List.mem_cons.1 hy with rfl | hy
  · exact hz
  · obtain ⟨_, rfl⟩ := List.mem_replicate.1 hy
    decide⟩
def m1 : Int → Option Mk := putM (fun _ => none) 3 (lx 3)
def m2 : Int → Option Mk := putM m1 0 (lx 0)
def m3 : Int → Option Mk := putM m2 1 (lx 1)
def lvM : Nat → Int → Option Mk
  | 0 => fun _ => none
  | 1 => m1
  | 2 => m2
  | _ => m3
theorem la0 : addE 4 (fun _ => none) 3 (lx 3) = 0 := by decide
theorem la1 : addE 4 m1 0 (lx 0) = 0 := by decide
theorem la2 : addE 4 m2 1 (lx 1) = 0 := by decide
theorem lm0 : addM 4 (fun _ => none) 3 (lx 3) = m1 := by unfold addM; rw [if_neg (by decide), if_pos (by decide)]; rfl
theorem lm1 : addM 4 m1 0 (lx 0) = m2 := by unfold addM; rw [if_neg (by decide), if_pos (by decide)]; rfl
theorem lm2 : addM 4 m2 1 (lx 1) = m3 := by unfold addM; rw [if_neg (by decide), if_pos (by decide)]; rfl
theorem ls3 : signsP 4 m3 1 d7 3 = [⟨0, tg 0⟩, ⟨1, tg 1⟩, ⟨3, tg 3⟩] := by decide
theorem ll3 : lastP 4 m3 3 = 1 := by decide
theorem ll4 : lastP 4 m3 4 = 0 := by decide
set_option maxRecDepth 100000 in
theorem build_d7 (w : World) : (Instr.build 29 #[(0, .int .u8 7)]).run Try.prog w = .ok (.agg (v8 d7).toArray) w := by kernel_rfl
set_option maxRecDepth 100000 in
theorem build_tg (z : Int) (w : World) : (Instr.build 31 #[(0, .int .u8 z)]).run Try.prog w = .ok (.agg (v8 (tg z)).toArray) w := by kernel_rfl
theorem MkAt.off {w w' : World} {B b n : Nat} {N : Int} {m : Int → Option Mk} {F : Nat → Prop} (h : MkAt w B b n N m) (hO : Off F w w') (h1 : ¬ F B) (h2 : ¬ F b) : MkAt w' B b n N m := h.at hO.size (hO.2 _ h.lt h1) (hO.2 _ h.mp.lt h2)
def l301 : List Value := [.int .i64 3, .int .i64 0, .int .i64 1]
theorem run_bs3 (w : World) : (Instr.buildSlice 43 3 #[(0, .int .i64 3), (1, .int .i64 0), (2, .int .i64 1)]).run Try.prog w = .ok (.slice (some ⟨w.heap.size, 0, none⟩) 3 3) (w.alloc (.cells l301.toArray 3)) := by kernel_rfl
theorem ex_bs3 {P : Program} {o : Oper} {a : Act} {w w' : World} {t : TypeId} {x y z : Operand} {u v q r : Value} (ho : o.op = .buildSlice t 3 #[(0, x), (1, y), (2, z)]) (hx : a.eval x = u) (hy : a.eval y = v) (hz : a.eval z = q) (hr : (Instr.buildSlice t 3 #[(0, u), (1, v), (2, q)]).run P w = .ok r w') : (execOp a.eval o).run P w = .ok (.value r) w' := by
  unfold execOp
  simp [ho, hx, hy, hz, hr]
def RL (w : World) (B b S : Nat) (j : Nat) (W : World) : Prop := MkAt W B b j 4 (lvM j) ∧ W.rangeAt S 0 l301 ∧ Below w.heap.size w W ∧ S < W.heap.size
theorem addr_fix (b o k : Nat) : (⟨b, o, none⟩ : Addr).add k = ⟨b, o + k, none⟩ := Addr.add_mid _ _ _
set_option maxRecDepth 100000 in
set_option maxHeartbeats 1600000 in
theorem lives_any (w : World) : Calls Try.prog 8 #[] w fun e w' => e = .returned (.bool true) ∧ Below w.heap.size w w' := by
  have cN := new_yes 4 w (by decide)
  have hb7 := build_d7
  have cS : ∀ B b n W, MkAt W B b n 4 m3 → Calls Try.prog 14 #[.pointer (some ⟨B, 0, none⟩), .int .i64 1, .agg (v8 d7).toArray, .int .i64 3] W fun e w' => TellS W [⟨0, tg 0⟩, ⟨1, tg 1⟩, ⟨3, tg 3⟩] e w' := fun B b n W h => by
    have := signs_any 1 d7 d7_len 3 B b n 4 m3 W h
    rw [ls3] at this
    exact this
  obtain ⟨u, hu⟩ : ∃ u, Hid (v8 d7 = u) := ⟨_, hide rfl⟩
  simp only [hu.out] at hb7 cS
  go_enter Try.func8, Try.ntmps8
  go_wp2_with fail
  refine cN.mono ?_
  rintro _ w1 ⟨rfl, hk1, hB1⟩
  clear cN
  have hs1 := hB1.size
  have hk1lt := hk1.lt
  obtain ⟨B, hBe⟩ : ∃ B, Hid (w.heap.size + 1 = B) := ⟨_, hide rfl⟩
  obtain ⟨b, hbe⟩ : ∃ b, Hid (w.heap.size = b) := ⟨_, hide rfl⟩
  rw [hBe.out] at hk1 hk1lt ⊢
  rw [hbe.out] at hk1
  go_upto_region 4 with fail
  try simp only [Act.put]
  refine pl_begin ?_
  refine pl_run (d := some 8) (v := .slice (some ⟨w1.heap.size, 0, none⟩) 3 3) (w' := w1.alloc (.cells l301.toArray 3)) (by rfl) (ex_bs3 rfl rfl rfl rfl (run_bs3 _)) rfl ?_
  simp only [Act.put, List.setIfInBounds_toArray, List.set_cons_zero, List.set_cons_succ]
  refine pl_take (d := some 9) (v := ?_) (by rfl) ?_ rfl ?_
  rotate_left
  · go_simp
    try with_reducible rfl
  simp only [Act.put, List.setIfInBounds_toArray, List.set_cons_zero, List.set_cons_succ]
  refine pl_take (d := some 10) (v := ?_) (by rfl) ?_ rfl ?_
  rotate_left
  · go_simp
    try with_reducible rfl
  simp only [Act.put, List.setIfInBounds_toArray, List.set_cons_zero, List.set_cons_succ]
  refine pl_nil ?_
  have hB2 : Below w1.heap.size w1 (w1.alloc (.cells l301.toArray 3)) := (Below.refl _ _).alloc (Nat.le_refl _) _
  have hR2 : (w1.alloc (.cells l301.toArray 3)).rangeAt w1.heap.size 0 l301 := by simpa using range_new w1 l301.toArray 3
  obtain ⟨S, hSe⟩ : ∃ S, Hid (w1.heap.size = S) := ⟨_, hide rfl⟩
  have hSb : S ≠ b := by rw [← hSe.out, ← hbe.out]; have := hBe.out; omega
  rw [hSe.out] at hR2 ⊢
  have hR0 : RL w B b S 0 (w1.alloc (.cells l301.toArray 3)) := ⟨hk1.below hB2, hR2, hB1.trans (hB2.mono hs1), by rw [← hSe.out]; simp⟩
  generalize w1.alloc (.cells l301.toArray 3) = w2 at *
  have hbw : w.heap.size ≤ b := by rw [← hbe.out]; exact Nat.le_refl _
  clear hR2 hB2 hk1 hB1 hSe hBe hbe hk1lt hs1
  go_wp2_with fail
  go_loopw [10] (fun kv wr => ∃ j : Nat, j ≤ 3 ∧ kv = .int .i64 (j : Int) ∧ RL w B b S j wr) (fun kv _ => (3 - intOf kv).toNat)
  case atStart => exact ⟨0, by omega, rfl, hR0⟩
  case round =>
    clear hR0
    obtain ⟨j, hj, rfl, hR⟩ := hrel
    rcases j with _ | _ | _ | _ | j
    · have hM := hR.1
      have hc := hR.2.1 0 _ rfl
      simp only [Nat.zero_add, Nat.add_zero] at hc
      have cA := add_any B b 0 4 (fun _ => none) 3 (lx 3) (lx_ok 3 (by decide)) wr hM (by decide)
      rw [la0, lm0] at cA
      have hbt := build_tg 3 wr
      obtain ⟨tz, htz⟩ : ∃ u, Hid (v8 (tg 3) = u) := ⟨_, hide rfl⟩
      rw [htz.out] at hbt
      have cA : Calls Try.prog 9 #[.pointer (some ⟨B, 0, none⟩), .int .i64 3, .int .i64 1, .agg u.toArray, .agg tz.toArray] wr fun e w' => e = .returned (.int .i64 0) ∧ MkAt w' B b (0 + 1) 4 m1 ∧ Off (fun z => z = b) wr w' := by rw [← hu.out, ← htz.out]; exact cA
      clear htz
      go_upto_region 7 with fail
      try simp only [Act.put]
      refine pl_begin ?_
      refine pl_take (d := some 14) (v := ?_) (by rfl) ?_ rfl ?_
      rotate_left
      · go_simp
        try with_reducible rfl
      simp only [Act.put, List.setIfInBounds_toArray, List.set_cons_zero, List.set_cons_succ]
      refine pl_take (d := some 15) (v := ?_) (by rfl) ?_ rfl ?_
      rotate_left
      · go_simp
        try with_reducible rfl
      simp only [Act.put, List.setIfInBounds_toArray, List.set_cons_zero, List.set_cons_succ]
      refine pl_take (d := some 16) (v := .agg u.toArray) (by rfl) (ex_build (parts := [(0, .const (.int .u8 7))]) rfl rfl (hb7 wr)) rfl ?_
      simp only [Act.put, List.setIfInBounds_toArray, List.set_cons_zero, List.set_cons_succ]
      refine pl_take (d := some 17) (v := ?_) (by rfl) ?_ rfl ?_
      rotate_left
      · go_simp
        try with_reducible rfl
      simp only [Act.put, List.setIfInBounds_toArray, List.set_cons_zero, List.set_cons_succ]
      refine pl_take (d := some 18) (v := ?_) (by rfl) ?_ rfl ?_
      rotate_left
      · go_simp
        try with_reducible rfl
      simp only [Act.put, List.setIfInBounds_toArray, List.set_cons_zero, List.set_cons_succ]
      refine pl_take (d := some 19) (v := .agg tz.toArray) (by rfl) (ex_build (parts := [(0, .tmp 18)]) rfl rfl hbt) rfl ?_
      simp only [Act.put, List.setIfInBounds_toArray, List.set_cons_zero, List.set_cons_succ]
      refine pl_call (d := some 20) (by rfl) (by go_simp; first | done | exact ⟨rfl, rfl⟩ | with_reducible rfl) rfl ?_
      refine (cA).mono ?_
      rintro _ w9 ⟨rfl, hM9, hO9⟩
      refine ⟨_, rfl, ?_⟩
      simp only [Act.put, List.setIfInBounds_toArray, List.set_cons_zero, List.set_cons_succ]
      refine pl_take (d := some 21) (v := ?_) (by rfl) ?_ rfl ?_
      rotate_left
      · go_simp
        try with_reducible rfl
      simp only [Act.put, List.setIfInBounds_toArray, List.set_cons_zero, List.set_cons_succ]
      refine pl_nil ?_
      have hR9 : RL w B b S 1 w9 := ⟨hM9, range_at hR.2.1 (hO9.2 _ hR.2.2.2 hSb), hR.2.2.1.trans (hO9.below (by have := hR.2.2.1.size; omega) (fun z hz => by omega)), Nat.lt_of_lt_of_le hR.2.2.2 hO9.size⟩
      go_wp2_with fail
      go_roundw
      case rel => exact ⟨1, by omega, by go_num, hR9⟩
      case measure => simp [intOf]
    · have hM := hR.1
      have hc := hR.2.1 1 _ rfl
      simp only [Nat.zero_add, Nat.add_zero] at hc
      have cA := add_any B b 1 4 m1 0 (lx 0) (lx_ok 0 (by decide)) wr hM (by decide)
      rw [la1, lm1] at cA
      have hbt := build_tg 0 wr
      obtain ⟨tz, htz⟩ : ∃ u, Hid (v8 (tg 0) = u) := ⟨_, hide rfl⟩
      rw [htz.out] at hbt
      have cA : Calls Try.prog 9 #[.pointer (some ⟨B, 0, none⟩), .int .i64 0, .int .i64 1, .agg u.toArray, .agg tz.toArray] wr fun e w' => e = .returned (.int .i64 0) ∧ MkAt w' B b (1 + 1) 4 m2 ∧ Off (fun z => z = b) wr w' := by rw [← hu.out, ← htz.out]; exact cA
      clear htz
      go_upto_region 7 with fail
      try simp only [Act.put]
      refine pl_begin ?_
      refine pl_take (d := some 14) (v := ?_) (by rfl) ?_ rfl ?_
      rotate_left
      · go_simp
        try with_reducible rfl
      simp only [Act.put, List.setIfInBounds_toArray, List.set_cons_zero, List.set_cons_succ]
      refine pl_take (d := some 15) (v := ?_) (by rfl) ?_ rfl ?_
      rotate_left
      · go_simp
        try with_reducible rfl
      simp only [Act.put, List.setIfInBounds_toArray, List.set_cons_zero, List.set_cons_succ]
      refine pl_take (d := some 16) (v := .agg u.toArray) (by rfl) (ex_build (parts := [(0, .const (.int .u8 7))]) rfl rfl (hb7 wr)) rfl ?_
      simp only [Act.put, List.setIfInBounds_toArray, List.set_cons_zero, List.set_cons_succ]
      refine pl_take (d := some 17) (v := ?_) (by rfl) ?_ rfl ?_
      rotate_left
      · go_simp
        try with_reducible rfl
      simp only [Act.put, List.setIfInBounds_toArray, List.set_cons_zero, List.set_cons_succ]
      refine pl_take (d := some 18) (v := ?_) (by rfl) ?_ rfl ?_
      rotate_left
      · go_simp
        try with_reducible rfl
      simp only [Act.put, List.setIfInBounds_toArray, List.set_cons_zero, List.set_cons_succ]
      refine pl_take (d := some 19) (v := .agg tz.toArray) (by rfl) (ex_build (parts := [(0, .tmp 18)]) rfl rfl hbt) rfl ?_
      simp only [Act.put, List.setIfInBounds_toArray, List.set_cons_zero, List.set_cons_succ]
      refine pl_call (d := some 20) (by rfl) (by go_simp; first | done | exact ⟨rfl, rfl⟩ | with_reducible rfl) rfl ?_
      refine (cA).mono ?_
      rintro _ w9 ⟨rfl, hM9, hO9⟩
      refine ⟨_, rfl, ?_⟩
      simp only [Act.put, List.setIfInBounds_toArray, List.set_cons_zero, List.set_cons_succ]
      refine pl_take (d := some 21) (v := ?_) (by rfl) ?_ rfl ?_
      rotate_left
      · go_simp
        try with_reducible rfl
      simp only [Act.put, List.setIfInBounds_toArray, List.set_cons_zero, List.set_cons_succ]
      refine pl_nil ?_
      have hR9 : RL w B b S 2 w9 := ⟨hM9, range_at hR.2.1 (hO9.2 _ hR.2.2.2 hSb), hR.2.2.1.trans (hO9.below (by have := hR.2.2.1.size; omega) (fun z hz => by omega)), Nat.lt_of_lt_of_le hR.2.2.2 hO9.size⟩
      go_wp2_with fail
      go_roundw
      case rel => exact ⟨2, by omega, by go_num, hR9⟩
      case measure => simp [intOf]
    · have hM := hR.1
      have hc := hR.2.1 2 _ rfl
      simp only [Nat.zero_add, Nat.add_zero] at hc
      have cA := add_any B b 2 4 m2 1 (lx 1) (lx_ok 1 (by decide)) wr hM (by decide)
      rw [la2, lm2] at cA
      have hbt := build_tg 1 wr
      obtain ⟨tz, htz⟩ : ∃ u, Hid (v8 (tg 1) = u) := ⟨_, hide rfl⟩
      rw [htz.out] at hbt
      have cA : Calls Try.prog 9 #[.pointer (some ⟨B, 0, none⟩), .int .i64 1, .int .i64 1, .agg u.toArray, .agg tz.toArray] wr fun e w' => e = .returned (.int .i64 0) ∧ MkAt w' B b (2 + 1) 4 m3 ∧ Off (fun z => z = b) wr w' := by rw [← hu.out, ← htz.out]; exact cA
      clear htz
      go_upto_region 7 with fail
      try simp only [Act.put]
      refine pl_begin ?_
      refine pl_take (d := some 14) (v := ?_) (by rfl) ?_ rfl ?_
      rotate_left
      · go_simp
        try with_reducible rfl
      simp only [Act.put, List.setIfInBounds_toArray, List.set_cons_zero, List.set_cons_succ]
      refine pl_take (d := some 15) (v := ?_) (by rfl) ?_ rfl ?_
      rotate_left
      · go_simp
        try with_reducible rfl
      simp only [Act.put, List.setIfInBounds_toArray, List.set_cons_zero, List.set_cons_succ]
      refine pl_take (d := some 16) (v := .agg u.toArray) (by rfl) (ex_build (parts := [(0, .const (.int .u8 7))]) rfl rfl (hb7 wr)) rfl ?_
      simp only [Act.put, List.setIfInBounds_toArray, List.set_cons_zero, List.set_cons_succ]
      refine pl_take (d := some 17) (v := ?_) (by rfl) ?_ rfl ?_
      rotate_left
      · go_simp
        try with_reducible rfl
      simp only [Act.put, List.setIfInBounds_toArray, List.set_cons_zero, List.set_cons_succ]
      refine pl_take (d := some 18) (v := ?_) (by rfl) ?_ rfl ?_
      rotate_left
      · go_simp
        try with_reducible rfl
      simp only [Act.put, List.setIfInBounds_toArray, List.set_cons_zero, List.set_cons_succ]
      refine pl_take (d := some 19) (v := .agg tz.toArray) (by rfl) (ex_build (parts := [(0, .tmp 18)]) rfl rfl hbt) rfl ?_
      simp only [Act.put, List.setIfInBounds_toArray, List.set_cons_zero, List.set_cons_succ]
      refine pl_call (d := some 20) (by rfl) (by go_simp; first | done | exact ⟨rfl, rfl⟩ | with_reducible rfl) rfl ?_
      refine (cA).mono ?_
      rintro _ w9 ⟨rfl, hM9, hO9⟩
      refine ⟨_, rfl, ?_⟩
      simp only [Act.put, List.setIfInBounds_toArray, List.set_cons_zero, List.set_cons_succ]
      refine pl_take (d := some 21) (v := ?_) (by rfl) ?_ rfl ?_
      rotate_left
      · go_simp
        try with_reducible rfl
      simp only [Act.put, List.setIfInBounds_toArray, List.set_cons_zero, List.set_cons_succ]
      refine pl_nil ?_
      have hR9 : RL w B b S 3 w9 := ⟨hM9, range_at hR.2.1 (hO9.2 _ hR.2.2.2 hSb), hR.2.2.1.trans (hO9.below (by have := hR.2.2.1.size; omega) (fun z hz => by omega)), Nat.lt_of_lt_of_le hR.2.2.2 hO9.size⟩
      go_wp2_with fail
      go_roundw
      case rel => exact ⟨3, by omega, by go_num, hR9⟩
      case measure => simp [intOf]
    · have hM := hR.1
      have cS3 := cS B b _ wr hM
      have cL3 : ∀ W, MkAt W B b (0 + 1 + 1 + 1) 4 m3 → Calls Try.prog 11 #[.pointer (some ⟨B, 0, none⟩), .int .i64 3] W fun e w' => e = .returned (.int .i64 1) ∧ Below W.heap.size W w' := fun W h => by
        have := last_any B b _ 4 m3 3 W h
        rw [ll3] at this
        exact this
      have cL4 : ∀ W, MkAt W B b (0 + 1 + 1 + 1) 4 m3 → Calls Try.prog 11 #[.pointer (some ⟨B, 0, none⟩), .int .i64 4] W fun e w' => e = .returned (.int .i64 0) ∧ Below W.heap.size W w' := fun W h => by
        have := last_any B b _ 4 m3 4 W h
        rw [ll4] at this
        exact this
      have hbl := hR.2.2.1
      clear hR cS
      go_upto_region 10 with fail
      try simp only [Act.put]
      refine pl_begin ?_
      refine pl_take (d := some 23) (v := ?_) (by rfl) ?_ rfl ?_
      rotate_left
      · go_simp
        try with_reducible rfl
      simp only [Act.put, List.setIfInBounds_toArray, List.set_cons_zero, List.set_cons_succ]
      refine pl_take (d := some 24) (v := .agg u.toArray) (by rfl) (ex_build (parts := [(0, .const (.int .u8 7))]) rfl rfl (hb7 wr)) rfl ?_
      simp only [Act.put, List.setIfInBounds_toArray, List.set_cons_zero, List.set_cons_succ]
      refine pl_call (d := some 25) (by rfl) (by go_simp; first | done | exact ⟨rfl, rfl⟩ | with_reducible rfl) rfl ?_
      refine (cS3).mono ?_
      rintro _ w5 ⟨a, cap, rfl, hsg, hcap, hB5⟩
      refine ⟨_, rfl, ?_⟩
      simp only [Act.put, List.setIfInBounds_toArray, List.set_cons_zero, List.set_cons_succ]
      refine pl_take (d := some 4) (v := ?_) (by rfl) ?_ rfl ?_
      rotate_left
      · go_simp
        try with_reducible rfl
      simp only [Act.put, List.setIfInBounds_toArray, List.set_cons_zero, List.set_cons_succ]
      refine pl_nil ?_
      have hM5 := hM.below hB5
      obtain ⟨b0, o0, rfl, hb0, hE2⟩ := hsg.elem 2 (by decide)
      obtain ⟨g, hg⟩ : ∃ g, Hid ((Sg.mk 3 (tg 3)).cells = g) := ⟨_, hide rfl⟩
      have hE2 : w5.rangeAt b0 (o0 + 34) g := by rw [← hg.out]; exact hE2
      have hg17 : g.length = 17 := by rw [← hg.out]; decide
      have hig : (Try.prog.info? 57).map (·.size) = some g.length := by rw [hg17]; exact iszG
      have hbt := build_tg 3 w5
      obtain ⟨tz, htz⟩ : ∃ u, Hid (v8 (tg 3) = u) := ⟨_, hide rfl⟩
      rw [htz.out] at hbt
      have hbg : ∀ w', (Instr.build 57 #[(0, .int .i64 3), (1, .agg tz.toArray)]).run Try.prog w' = .ok (.agg g.toArray) w' := fun w' => by rw [← hg.out, ← htz.out]; exact build_sign 3 (v8 (tg 3)) (by decide) w'
      have heg : ∀ w', (binOp .eql 57 (.agg g.toArray) (.agg g.toArray)).run Try.prog w' = .ok (.bool true) w' := fun w' => by
        have := eqS ⟨3, tg 3⟩ ⟨3, tg 3⟩ ⟨by decide, by unfold B8 tg; decide, by unfold I64; decide⟩ ⟨by decide, by unfold B8 tg; decide, by unfold I64; decide⟩ w'
        rw [← hg.out]
        exact this
      simp only [List.length_cons, List.length_nil, Nat.zero_add, Nat.reduceAdd] at hcap ⊢
      clear hsg hg cS3 htz
      go_upto_region 11 with fail
      try simp only [Act.put]
      refine pl_begin ?_
      refine pl_take (d := some 26) (v := ?_) (by rfl) ?_ rfl ?_
      rotate_left
      · go_simp
        try with_reducible rfl
      simp only [Act.put, List.setIfInBounds_toArray, List.set_cons_zero, List.set_cons_succ]
      refine pl_take (d := some 27) (v := ?_) (by rfl) ?_ rfl ?_
      rotate_left
      · go_simp
        try with_reducible rfl
      simp only [Act.put, List.setIfInBounds_toArray, List.set_cons_zero, List.set_cons_succ]
      refine pl_take (d := some 28) (v := ?_) (by rfl) ?_ rfl ?_
      rotate_left
      · go_simp
        try with_reducible rfl
      simp only [Act.put, List.setIfInBounds_toArray, List.set_cons_zero, List.set_cons_succ]
      refine pl_take (d := some 29) (v := ?_) (by rfl) ?_ rfl ?_
      rotate_left
      · go_simp
        try with_reducible rfl
      simp only [Act.put, List.setIfInBounds_toArray, List.set_cons_zero, List.set_cons_succ]
      refine pl_take (d := some 30) (v := ?_) (by rfl) ?_ rfl ?_
      rotate_left
      · go_simp
        try with_reducible rfl
      simp only [Act.put, List.setIfInBounds_toArray, List.set_cons_zero, List.set_cons_succ]
      refine pl_take (d := some 31) (v := ?_) (by rfl) ?_ rfl ?_
      rotate_left
      · go_simp
        try with_reducible rfl
      simp only [Act.put, List.setIfInBounds_toArray, List.set_cons_zero, List.set_cons_succ]
      refine pl_take (d := some 32) (v := .agg g.toArray) (by rfl) (ex_mid rfl rfl hE2 Try.underlying57 rfl hig) rfl ?_
      simp only [Act.put, List.setIfInBounds_toArray, List.set_cons_zero, List.set_cons_succ]
      refine pl_take (d := some 33) (v := .agg tz.toArray) (by rfl) (ex_build (parts := [(0, .const (.int .u8 3))]) rfl rfl hbt) rfl ?_
      simp only [Act.put, List.setIfInBounds_toArray, List.set_cons_zero, List.set_cons_succ]
      refine pl_take (d := some 34) (v := .agg g.toArray) (by rfl) (ex_build (parts := [(0, .const (.int .i64 3)), (1, .tmp 33)]) rfl rfl (hbg w5)) rfl ?_
      simp only [Act.put, List.setIfInBounds_toArray, List.set_cons_zero, List.set_cons_succ]
      refine pl_take (d := some 35) (v := .bool true) (by rfl) (ex_bin rfl rfl rfl (by kernel_rfl) (heg w5)) rfl ?_
      simp only [Act.put, List.setIfInBounds_toArray, List.set_cons_zero, List.set_cons_succ]
      refine pl_take (d := some 36) (v := ?_) (by rfl) ?_ rfl ?_
      rotate_left
      · go_simp
        try with_reducible rfl
      simp only [Act.put, List.setIfInBounds_toArray, List.set_cons_zero, List.set_cons_succ]
      refine pl_take (d := some 37) (v := ?_) (by rfl) ?_ rfl ?_
      rotate_left
      · go_simp
        try with_reducible rfl
      simp only [Act.put, List.setIfInBounds_toArray, List.set_cons_zero, List.set_cons_succ]
      refine pl_take (d := some 38) (v := ?_) (by rfl) ?_ rfl ?_
      rotate_left
      · go_simp
        try with_reducible rfl
      simp only [Act.put, List.setIfInBounds_toArray, List.set_cons_zero, List.set_cons_succ]
      refine pl_call (d := some 39) (by rfl) (by go_simp; first | done | exact ⟨rfl, rfl⟩ | with_reducible rfl) rfl ?_
      refine (cL3 w5 hM5).mono ?_
      rintro _ w6 ⟨rfl, hB6⟩
      refine ⟨_, rfl, ?_⟩
      simp only [Act.put, List.setIfInBounds_toArray, List.set_cons_zero, List.set_cons_succ]
      refine pl_take (d := some 40) (v := ?_) (by rfl) ?_ rfl ?_
      rotate_left
      · go_simp
        try with_reducible rfl
      simp only [Act.put, List.setIfInBounds_toArray, List.set_cons_zero, List.set_cons_succ]
      refine pl_take (d := some 41) (v := ?_) (by rfl) ?_ rfl ?_
      rotate_left
      · go_simp
        try with_reducible rfl
      simp only [Act.put, List.setIfInBounds_toArray, List.set_cons_zero, List.set_cons_succ]
      refine pl_take (d := some 42) (v := ?_) (by rfl) ?_ rfl ?_
      rotate_left
      · go_simp
        try with_reducible rfl
      simp only [Act.put, List.setIfInBounds_toArray, List.set_cons_zero, List.set_cons_succ]
      refine pl_take (d := some 43) (v := ?_) (by rfl) ?_ rfl ?_
      rotate_left
      · go_simp
        try with_reducible rfl
      simp only [Act.put, List.setIfInBounds_toArray, List.set_cons_zero, List.set_cons_succ]
      refine pl_call (d := some 44) (by rfl) (by go_simp; first | done | exact ⟨rfl, rfl⟩ | with_reducible rfl) rfl ?_
      refine (cL4 w6 (hM5.below hB6)).mono ?_
      rintro _ w7 ⟨rfl, hB7⟩
      refine ⟨_, rfl, ?_⟩
      simp only [Act.put, List.setIfInBounds_toArray, List.set_cons_zero, List.set_cons_succ]
      refine pl_take (d := some 45) (v := ?_) (by rfl) ?_ rfl ?_
      rotate_left
      · go_simp
        try with_reducible rfl
      simp only [Act.put, List.setIfInBounds_toArray, List.set_cons_zero, List.set_cons_succ]
      refine pl_take (d := some 46) (v := ?_) (by rfl) ?_ rfl ?_
      rotate_left
      · go_simp
        try with_reducible rfl
      simp only [Act.put, List.setIfInBounds_toArray, List.set_cons_zero, List.set_cons_succ]
      refine pl_take (d := some 0) (v := ?_) (by rfl) ?_ rfl ?_
      rotate_left
      · go_simp
        try with_reducible rfl
      simp only [Act.put, List.setIfInBounds_toArray, List.set_cons_zero, List.set_cons_succ]
      refine pl_nil ?_
      go_wp2_with fail
      go_ret
      exact ⟨rfl, hbl.trans ((hB5.mono hbl.size).trans ((hB6.mono (by have := hbl.size; have := hB5.size; omega)).trans (hB7.mono (by have := hbl.size; have := hB5.size; have := hB6.size; omega))))⟩
    · omega
end Go.Proofs.Ytfaagiilldkdgaa
