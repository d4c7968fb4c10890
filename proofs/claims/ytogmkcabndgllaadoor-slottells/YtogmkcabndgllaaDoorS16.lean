/- structs compared -/
import Derived.Test.YtogmkcabndgllaaDoorSB
import Derived.Test.YtogmkcabndgllaaDoorS6
import Derived.Test.YtogmkcabndgllaaDoorS15
import Derived.Test.YtogmkcabndgllaaDoorPL
namespace Go.Proofs.YtogmkcabndgllaaDoor
open Go.RowKit
open Sha Tal
set_option linter.unusedVariables false
/-- what a comparison answers -/
def Says (X : Prop) (w : World) (e : Ending) (w' : World) : Prop := ((e = .returned (.bool true) ∧ X) ∨ (e = .returned (.bool false) ∧ ¬ X)) ∧ Below w.heap.size w w'
theorem Says.yes {X : Prop} {w w' : World} (h : X) (hb : Below w.heap.size w w') : Says X w (.returned (.bool true)) w' := ⟨.inl ⟨rfl, h⟩, hb⟩
theorem Says.no {X : Prop} {w w' : World} (h : ¬ X) (hb : Below w.heap.size w w') : Says X w (.returned (.bool false)) w' := ⟨.inr ⟨rfl, h⟩, hb⟩
def eqBt (x y : Bat) : Prop := eqBat x.q x.rs y.q y.rs
def eqCe (x y : Ce) : Prop := x.v = y.v ∧ x.ss = y.ss
theorem Bat.same_any (x y : Bat) (w : World) (hx : x.at w) (hy : y.at w) : Calls Tryd.prog 26 #[.agg x.cells.toArray, .agg y.cells.toArray] w fun e w' => Says (eqBt x y) w e w' :=
  bsame_any x.q x.a x.cap x.rs y.q y.a y.cap y.rs w hx.1 hy.1
theorem Bat.xsame_any (x y : Bat) (w : World) (hx : x.at w) (hy : y.at w) : Calls Tryd.prog 18 #[.agg x.cells.toArray, .agg y.cells.toArray] w fun e w' => Says (eqBt x y) w e w' :=
  refBSame_any x.q x.a x.cap x.rs y.q y.a y.cap y.rs w hx.1 hy.1
set_option maxRecDepth 100000 in
set_option maxHeartbeats 4000000 in
theorem same_cert (x y : Ce) (hlx : x.ss.length ≤ 1000) (hly : y.ss.length ≤ 1000) (w : World) (hx : x.at w) (hy : y.at w) : Calls Tryd.prog 35 #[.agg (x.cells).toArray, .agg (y.cells).toArray] w fun e w' => Says (eqCe x y) w e w' := by
  have hb0 := two_box (w := w) (x.cells) (y.cells) 31 31
  have iu : (Tryd.prog.info? 28).map (·.size) = some x.v.cells.length := by rw [hx.v.len]; exact iszV
  have iv : (Tryd.prog.info? 28).map (·.size) = some y.v.cells.length := by rw [hy.v.len]; exact iszV
  have hev := fun w' => eqV x.v y.v hx.v hy.v w'
  have pX : ∀ {w' : World} {Z : Nat}, w'.rangeAt Z 0 x.cells → w'.rangeAt Z 0 x.v.cells ∧ w'.cell? ⟨Z, 36, none⟩ = some (.slice x.a x.ss.length x.cap) := fun h => ⟨range_left h, by have := cert_sl hx.v h; simpa using this⟩
  have pY : ∀ {w' : World} {Z : Nat}, w'.rangeAt Z 0 y.cells → w'.rangeAt Z 0 y.v.cells ∧ w'.cell? ⟨Z, 36, none⟩ = some (.slice y.a y.ss.length y.cap) := fun h => ⟨range_left h, by have := cert_sl hy.v h; simpa using this⟩
  obtain ⟨u, hu⟩ : ∃ u, Hid (x.cells = u) := ⟨_, hide rfl⟩
  obtain ⟨v, hv⟩ : ∃ v, Hid (y.cells = v) := ⟨_, hide rfl⟩
  simp only [hu.out] at pX
  simp only [hv.out] at pY
  rw [hu.out, hv.out] at hb0 ⊢
  clear hu hv
  go_enter Tryd.func35, Tryd.ntmps35
  go_upto_region 1 with fail
  go_name_world w1 hw1
  rw [hw1] at hb0
  clear hw1
  obtain ⟨hB1, hR1, hR2, hsz1⟩ := hb0
  obtain ⟨a0, a1⟩ := pX hR1
  obtain ⟨b0, b1⟩ := pY hR2
  clear pX pY
  have hS : Below w1.heap.size w1 w1 := Below.refl _ _
  try simp only [Act.put]
  refine pl_begin ?_
  refine pl_take (d := some 5) (v := ?_) (by rfl) ?_ rfl ?_
  rotate_left
  · go_simp
    try with_reducible rfl
  simp only [Act.put, List.setIfInBounds_toArray, List.set_cons_zero, List.set_cons_succ]
  refine pl_take (d := some 6) (v := .agg (x.v.cells).toArray) (by rfl) (ex_mid rfl rfl (range_below a0 hS (by omega)) Tryd.underlying28 rfl iu) rfl ?_
  simp only [Act.put, List.setIfInBounds_toArray, List.set_cons_zero, List.set_cons_succ]
  refine pl_take (d := some 7) (v := ?_) (by rfl) ?_ rfl ?_
  rotate_left
  · go_simp
    try with_reducible rfl
  simp only [Act.put, List.setIfInBounds_toArray, List.set_cons_zero, List.set_cons_succ]
  refine pl_take (d := some 8) (v := .agg (y.v.cells).toArray) (by rfl) (ex_mid rfl rfl (range_below b0 hS (by omega)) Tryd.underlying28 rfl iv) rfl ?_
  simp only [Act.put, List.setIfInBounds_toArray, List.set_cons_zero, List.set_cons_succ]
  by_cases hX : x.v = y.v
  · have hq : decide (x.v = y.v) = true := decide_eq_true hX
    simp only [hq] at hev
    clear hq
    have H0 := hide hX
    clear hX
    refine pl_take (d := some 9) (v := .bool true) (by rfl) (ex_bin rfl rfl rfl (by kernel_rfl) (hev _)) rfl ?_
    simp only [Act.put, List.setIfInBounds_toArray, List.set_cons_zero, List.set_cons_succ]
    refine pl_take (d := some 10) (v := ?_) (by rfl) ?_ rfl ?_
    rotate_left
    · go_simp
      try with_reducible rfl
    simp only [Act.put, List.setIfInBounds_toArray, List.set_cons_zero, List.set_cons_succ]
    refine pl_take (d := some 11) (v := ?_) (by rfl) ?_ rfl ?_
    rotate_left
    · go_simp
      try with_reducible rfl
    simp only [Act.put, List.setIfInBounds_toArray, List.set_cons_zero, List.set_cons_succ]
    refine pl_take (d := some 12) (v := _) (by rfl) (pl_one rfl rfl ((hS.cell (p := ⟨w.heap.size, 36, none⟩) (by simp only; omega)).trans a1) Tryd.underlying29 rfl) rfl ?_
    simp only [Act.put, List.setIfInBounds_toArray, List.set_cons_zero, List.set_cons_succ]
    refine pl_take (d := some 13) (v := ?_) (by rfl) ?_ rfl ?_
    rotate_left
    · go_simp
      try with_reducible rfl
    simp only [Act.put, List.setIfInBounds_toArray, List.set_cons_zero, List.set_cons_succ]
    refine pl_take (d := some 14) (v := _) (by rfl) (pl_one rfl rfl ((hS.cell (p := ⟨w.heap.size + 1, 36, none⟩) (by simp only; omega)).trans b1) Tryd.underlying29 rfl) rfl ?_
    simp only [Act.put, List.setIfInBounds_toArray, List.set_cons_zero, List.set_cons_succ]
    refine pl_call (d := some 15) (by rfl) (by go_simp; first | done | exact ⟨rfl, rfl⟩ | with_reducible rfl) rfl ?_
    refine (equalS_any x.a x.cap x.ss y.a y.cap y.ss hlx hly _ ((hx.s.below hB1).below hS) ((hy.s.below hB1).below hS)).mono ?_
    rintro e' v1 hsay
    obtain ⟨hcase, hBx⟩ := hsay
    have hS := hS.trans (hBx.mono hS.size)
    clear hBx
    rcases hcase with ⟨rfl, hX⟩ | ⟨rfl, hX⟩
    · have H1 := hide hX
      clear hX
      refine ⟨_, rfl, ?_⟩
      simp only [Act.put, List.setIfInBounds_toArray, List.set_cons_zero, List.set_cons_succ]
      refine pl_take (d := some 16) (v := ?_) (by rfl) ?_ rfl ?_
      rotate_left
      · go_simp
        try with_reducible rfl
      simp only [Act.put, List.setIfInBounds_toArray, List.set_cons_zero, List.set_cons_succ]
      refine pl_take (d := some 4) (v := ?_) (by rfl) ?_ rfl ?_
      rotate_left
      · go_simp
        try with_reducible rfl
      simp only [Act.put, List.setIfInBounds_toArray, List.set_cons_zero, List.set_cons_succ]
      refine pl_nil ?_
      go_wp2_with fail
      go_ret
      exact Says.yes ⟨H0.out, H1.out⟩ (hB1.trans (hS.mono hB1.size))
    · have H1 := hide hX
      clear hX
      refine ⟨_, rfl, ?_⟩
      simp only [Act.put, List.setIfInBounds_toArray, List.set_cons_zero, List.set_cons_succ]
      refine pl_take (d := some 16) (v := ?_) (by rfl) ?_ rfl ?_
      rotate_left
      · go_simp
        try with_reducible rfl
      simp only [Act.put, List.setIfInBounds_toArray, List.set_cons_zero, List.set_cons_succ]
      refine pl_take (d := some 4) (v := ?_) (by rfl) ?_ rfl ?_
      rotate_left
      · go_simp
        try with_reducible rfl
      simp only [Act.put, List.setIfInBounds_toArray, List.set_cons_zero, List.set_cons_succ]
      refine pl_nil ?_
      go_wp2_with fail
      go_ret
      exact Says.no (fun q => H1.out q.2) (hB1.trans (hS.mono hB1.size))
  · have hq : decide (x.v = y.v) = false := decide_eq_false hX
    simp only [hq] at hev
    clear hq
    have H0 := hide hX
    clear hX
    refine pl_take (d := some 9) (v := .bool false) (by rfl) (ex_bin rfl rfl rfl (by kernel_rfl) (hev _)) rfl ?_
    simp only [Act.put, List.setIfInBounds_toArray, List.set_cons_zero, List.set_cons_succ]
    refine pl_take (d := some 10) (v := ?_) (by rfl) ?_ rfl ?_
    rotate_left
    · go_simp
      try with_reducible rfl
    simp only [Act.put, List.setIfInBounds_toArray, List.set_cons_zero, List.set_cons_succ]
    refine pl_skip (d := some 11) (by rfl) rfl ?_
    simp only [Act.put, List.setIfInBounds_toArray, List.set_cons_zero, List.set_cons_succ]
    refine pl_skip (d := some 12) (by rfl) rfl ?_
    simp only [Act.put, List.setIfInBounds_toArray, List.set_cons_zero, List.set_cons_succ]
    refine pl_skip (d := some 13) (by rfl) rfl ?_
    simp only [Act.put, List.setIfInBounds_toArray, List.set_cons_zero, List.set_cons_succ]
    refine pl_skip (d := some 14) (by rfl) rfl ?_
    simp only [Act.put, List.setIfInBounds_toArray, List.set_cons_zero, List.set_cons_succ]
    refine pl_skip (d := some 15) (by rfl) rfl ?_
    simp only [Act.put, List.setIfInBounds_toArray, List.set_cons_zero, List.set_cons_succ]
    refine pl_take (d := some 16) (v := ?_) (by rfl) ?_ rfl ?_
    rotate_left
    · go_simp
      try with_reducible rfl
    simp only [Act.put, List.setIfInBounds_toArray, List.set_cons_zero, List.set_cons_succ]
    refine pl_take (d := some 4) (v := ?_) (by rfl) ?_ rfl ?_
    rotate_left
    · go_simp
      try with_reducible rfl
    simp only [Act.put, List.setIfInBounds_toArray, List.set_cons_zero, List.set_cons_succ]
    refine pl_nil ?_
    go_wp2_with fail
    go_ret
    exact Says.no (fun q => H0.out q.1) (hB1.trans (hS.mono hB1.size))
set_option maxRecDepth 100000 in
set_option maxHeartbeats 4000000 in
theorem xsame_cert (x y : Ce) (hlx : x.ss.length ≤ 1000) (hly : y.ss.length ≤ 1000) (w : World) (hx : x.at w) (hy : y.at w) : Calls Tryd.prog 29 #[.agg (x.cells).toArray, .agg (y.cells).toArray] w fun e w' => Says (eqCe x y) w e w' := by
  have hb0 := two_box (w := w) (x.cells) (y.cells) 31 31
  have iu : (Tryd.prog.info? 28).map (·.size) = some x.v.cells.length := by rw [hx.v.len]; exact iszV
  have iv : (Tryd.prog.info? 28).map (·.size) = some y.v.cells.length := by rw [hy.v.len]; exact iszV
  have hev := fun w' => eqV x.v y.v hx.v hy.v w'
  have pX : ∀ {w' : World} {Z : Nat}, w'.rangeAt Z 0 x.cells → w'.rangeAt Z 0 x.v.cells ∧ w'.cell? ⟨Z, 36, none⟩ = some (.slice x.a x.ss.length x.cap) := fun h => ⟨range_left h, by have := cert_sl hx.v h; simpa using this⟩
  have pY : ∀ {w' : World} {Z : Nat}, w'.rangeAt Z 0 y.cells → w'.rangeAt Z 0 y.v.cells ∧ w'.cell? ⟨Z, 36, none⟩ = some (.slice y.a y.ss.length y.cap) := fun h => ⟨range_left h, by have := cert_sl hy.v h; simpa using this⟩
  obtain ⟨u, hu⟩ : ∃ u, Hid (x.cells = u) := ⟨_, hide rfl⟩
  obtain ⟨v, hv⟩ : ∃ v, Hid (y.cells = v) := ⟨_, hide rfl⟩
  simp only [hu.out] at pX
  simp only [hv.out] at pY
  rw [hu.out, hv.out] at hb0 ⊢
  clear hu hv
  go_enter Tryd.func29, Tryd.ntmps29
  go_upto_region 1 with fail
  go_name_world w1 hw1
  rw [hw1] at hb0
  clear hw1
  obtain ⟨hB1, hR1, hR2, hsz1⟩ := hb0
  obtain ⟨a0, a1⟩ := pX hR1
  obtain ⟨b0, b1⟩ := pY hR2
  clear pX pY
  have hS : Below w1.heap.size w1 w1 := Below.refl _ _
  try simp only [Act.put]
  refine pl_begin ?_
  refine pl_take (d := some 5) (v := ?_) (by rfl) ?_ rfl ?_
  rotate_left
  · go_simp
    try with_reducible rfl
  simp only [Act.put, List.setIfInBounds_toArray, List.set_cons_zero, List.set_cons_succ]
  refine pl_take (d := some 6) (v := .agg (x.v.cells).toArray) (by rfl) (ex_mid rfl rfl (range_below a0 hS (by omega)) Tryd.underlying28 rfl iu) rfl ?_
  simp only [Act.put, List.setIfInBounds_toArray, List.set_cons_zero, List.set_cons_succ]
  refine pl_take (d := some 7) (v := ?_) (by rfl) ?_ rfl ?_
  rotate_left
  · go_simp
    try with_reducible rfl
  simp only [Act.put, List.setIfInBounds_toArray, List.set_cons_zero, List.set_cons_succ]
  refine pl_take (d := some 8) (v := .agg (y.v.cells).toArray) (by rfl) (ex_mid rfl rfl (range_below b0 hS (by omega)) Tryd.underlying28 rfl iv) rfl ?_
  simp only [Act.put, List.setIfInBounds_toArray, List.set_cons_zero, List.set_cons_succ]
  by_cases hX : x.v = y.v
  · have hq : decide (x.v = y.v) = true := decide_eq_true hX
    simp only [hq] at hev
    clear hq
    have H0 := hide hX
    clear hX
    refine pl_take (d := some 9) (v := .bool true) (by rfl) (ex_bin rfl rfl rfl (by kernel_rfl) (hev _)) rfl ?_
    simp only [Act.put, List.setIfInBounds_toArray, List.set_cons_zero, List.set_cons_succ]
    refine pl_take (d := some 10) (v := ?_) (by rfl) ?_ rfl ?_
    rotate_left
    · go_simp
      try with_reducible rfl
    simp only [Act.put, List.setIfInBounds_toArray, List.set_cons_zero, List.set_cons_succ]
    refine pl_take (d := some 11) (v := ?_) (by rfl) ?_ rfl ?_
    rotate_left
    · go_simp
      try with_reducible rfl
    simp only [Act.put, List.setIfInBounds_toArray, List.set_cons_zero, List.set_cons_succ]
    refine pl_take (d := some 12) (v := _) (by rfl) (pl_one rfl rfl ((hS.cell (p := ⟨w.heap.size, 36, none⟩) (by simp only; omega)).trans a1) Tryd.underlying29 rfl) rfl ?_
    simp only [Act.put, List.setIfInBounds_toArray, List.set_cons_zero, List.set_cons_succ]
    refine pl_take (d := some 13) (v := ?_) (by rfl) ?_ rfl ?_
    rotate_left
    · go_simp
      try with_reducible rfl
    simp only [Act.put, List.setIfInBounds_toArray, List.set_cons_zero, List.set_cons_succ]
    refine pl_take (d := some 14) (v := _) (by rfl) (pl_one rfl rfl ((hS.cell (p := ⟨w.heap.size + 1, 36, none⟩) (by simp only; omega)).trans b1) Tryd.underlying29 rfl) rfl ?_
    simp only [Act.put, List.setIfInBounds_toArray, List.set_cons_zero, List.set_cons_succ]
    refine pl_call (d := some 15) (by rfl) (by go_simp; first | done | exact ⟨rfl, rfl⟩ | with_reducible rfl) rfl ?_
    refine (xsame5_gen x.a x.cap x.ss y.a y.cap y.ss hlx hly _ ((hx.s.below hB1).below hS) ((hy.s.below hB1).below hS)).mono ?_
    rintro e' v1 hsay
    obtain ⟨hcase, hBx⟩ := hsay
    have hS := hS.trans (hBx.mono hS.size)
    clear hBx
    rcases hcase with ⟨rfl, hX⟩ | ⟨rfl, hX⟩
    · have H1 := hide hX
      clear hX
      refine ⟨_, rfl, ?_⟩
      simp only [Act.put, List.setIfInBounds_toArray, List.set_cons_zero, List.set_cons_succ]
      refine pl_take (d := some 16) (v := ?_) (by rfl) ?_ rfl ?_
      rotate_left
      · go_simp
        try with_reducible rfl
      simp only [Act.put, List.setIfInBounds_toArray, List.set_cons_zero, List.set_cons_succ]
      refine pl_take (d := some 4) (v := ?_) (by rfl) ?_ rfl ?_
      rotate_left
      · go_simp
        try with_reducible rfl
      simp only [Act.put, List.setIfInBounds_toArray, List.set_cons_zero, List.set_cons_succ]
      refine pl_nil ?_
      go_wp2_with fail
      go_ret
      exact Says.yes ⟨H0.out, H1.out⟩ (hB1.trans (hS.mono hB1.size))
    · have H1 := hide hX
      clear hX
      refine ⟨_, rfl, ?_⟩
      simp only [Act.put, List.setIfInBounds_toArray, List.set_cons_zero, List.set_cons_succ]
      refine pl_take (d := some 16) (v := ?_) (by rfl) ?_ rfl ?_
      rotate_left
      · go_simp
        try with_reducible rfl
      simp only [Act.put, List.setIfInBounds_toArray, List.set_cons_zero, List.set_cons_succ]
      refine pl_take (d := some 4) (v := ?_) (by rfl) ?_ rfl ?_
      rotate_left
      · go_simp
        try with_reducible rfl
      simp only [Act.put, List.setIfInBounds_toArray, List.set_cons_zero, List.set_cons_succ]
      refine pl_nil ?_
      go_wp2_with fail
      go_ret
      exact Says.no (fun q => H1.out q.2) (hB1.trans (hS.mono hB1.size))
  · have hq : decide (x.v = y.v) = false := decide_eq_false hX
    simp only [hq] at hev
    clear hq
    have H0 := hide hX
    clear hX
    refine pl_take (d := some 9) (v := .bool false) (by rfl) (ex_bin rfl rfl rfl (by kernel_rfl) (hev _)) rfl ?_
    simp only [Act.put, List.setIfInBounds_toArray, List.set_cons_zero, List.set_cons_succ]
    refine pl_take (d := some 10) (v := ?_) (by rfl) ?_ rfl ?_
    rotate_left
    · go_simp
      try with_reducible rfl
    simp only [Act.put, List.setIfInBounds_toArray, List.set_cons_zero, List.set_cons_succ]
    refine pl_skip (d := some 11) (by rfl) rfl ?_
    simp only [Act.put, List.setIfInBounds_toArray, List.set_cons_zero, List.set_cons_succ]
    refine pl_skip (d := some 12) (by rfl) rfl ?_
    simp only [Act.put, List.setIfInBounds_toArray, List.set_cons_zero, List.set_cons_succ]
    refine pl_skip (d := some 13) (by rfl) rfl ?_
    simp only [Act.put, List.setIfInBounds_toArray, List.set_cons_zero, List.set_cons_succ]
    refine pl_skip (d := some 14) (by rfl) rfl ?_
    simp only [Act.put, List.setIfInBounds_toArray, List.set_cons_zero, List.set_cons_succ]
    refine pl_skip (d := some 15) (by rfl) rfl ?_
    simp only [Act.put, List.setIfInBounds_toArray, List.set_cons_zero, List.set_cons_succ]
    refine pl_take (d := some 16) (v := ?_) (by rfl) ?_ rfl ?_
    rotate_left
    · go_simp
      try with_reducible rfl
    simp only [Act.put, List.setIfInBounds_toArray, List.set_cons_zero, List.set_cons_succ]
    refine pl_take (d := some 4) (v := ?_) (by rfl) ?_ rfl ?_
    rotate_left
    · go_simp
      try with_reducible rfl
    simp only [Act.put, List.setIfInBounds_toArray, List.set_cons_zero, List.set_cons_succ]
    refine pl_nil ?_
    go_wp2_with fail
    go_ret
    exact Says.no (fun q => H0.out q.1) (hB1.trans (hS.mono hB1.size))
set_option maxRecDepth 100000 in
set_option maxHeartbeats 4000000 in
theorem same_held (b b' : Bat) (c c' : Ce) (hlx : c.ss.length ≤ 1000) (hly : c'.ss.length ≤ 1000) (w : World) (hb : b.at w) (hb' : b'.at w) (hc : c.at w) (hc' : c'.at w) : Calls Tryd.prog 27 #[.agg (heldC b c).toArray, .agg (heldC b' c').toArray] w fun e w' => Says (eqBt b b' ∧ eqCe c c') w e w' := by
  have hb0 := two_box (w := w) (heldC b c) (heldC b' c') 33 33
  have ib : (Tryd.prog.info? 24).map (·.size) = some b.cells.length := iszB
  have ib' : (Tryd.prog.info? 24).map (·.size) = some b'.cells.length := iszB
  have ic : (Tryd.prog.info? 31).map (·.size) = some c.cells.length := by rw [Ce.len hc.v]; exact iszCe
  have ic' : (Tryd.prog.info? 31).map (·.size) = some c'.cells.length := by rw [Ce.len hc'.v]; exact iszCe
  have pX : ∀ {w' : World} {Z : Nat}, w'.rangeAt Z 0 (heldC b c) → w'.rangeAt Z 0 b.cells ∧ w'.rangeAt Z 2 c.cells := fun h => by have := held_parts h; simpa using this
  have pY : ∀ {w' : World} {Z : Nat}, w'.rangeAt Z 0 (heldC b' c') → w'.rangeAt Z 0 b'.cells ∧ w'.rangeAt Z 2 c'.cells := fun h => by have := held_parts h; simpa using this
  obtain ⟨u, hu⟩ : ∃ u, Hid (heldC b c = u) := ⟨_, hide rfl⟩
  obtain ⟨v, hv⟩ : ∃ v, Hid (heldC b' c' = v) := ⟨_, hide rfl⟩
  simp only [hu.out] at pX
  simp only [hv.out] at pY
  rw [hu.out, hv.out] at hb0 ⊢
  clear hu hv
  go_enter Tryd.func27, Tryd.ntmps27
  go_upto_region 1 with fail
  go_name_world w1 hw1
  rw [hw1] at hb0
  clear hw1
  obtain ⟨hB1, hR1, hR2, hsz1⟩ := hb0
  obtain ⟨a0, a1⟩ := pX hR1
  obtain ⟨b0, b1⟩ := pY hR2
  clear pX pY
  have hS : Below w1.heap.size w1 w1 := Below.refl _ _
  try simp only [Act.put]
  refine pl_begin ?_
  refine pl_take (d := some 5) (v := ?_) (by rfl) ?_ rfl ?_
  rotate_left
  · go_simp
    try with_reducible rfl
  simp only [Act.put, List.setIfInBounds_toArray, List.set_cons_zero, List.set_cons_succ]
  refine pl_take (d := some 6) (v := .agg (b.cells).toArray) (by rfl) (ex_mid rfl rfl (range_below a0 hS (by omega)) Tryd.underlying24 rfl ib) rfl ?_
  simp only [Act.put, List.setIfInBounds_toArray, List.set_cons_zero, List.set_cons_succ]
  refine pl_take (d := some 7) (v := ?_) (by rfl) ?_ rfl ?_
  rotate_left
  · go_simp
    try with_reducible rfl
  simp only [Act.put, List.setIfInBounds_toArray, List.set_cons_zero, List.set_cons_succ]
  refine pl_take (d := some 8) (v := .agg (b'.cells).toArray) (by rfl) (ex_mid rfl rfl (range_below b0 hS (by omega)) Tryd.underlying24 rfl ib') rfl ?_
  simp only [Act.put, List.setIfInBounds_toArray, List.set_cons_zero, List.set_cons_succ]
  refine pl_call (d := some 9) (by rfl) (by go_simp; first | done | exact ⟨rfl, rfl⟩ | with_reducible rfl) rfl ?_
  refine (b.same_any b' _ ((hb.below hB1).below hS) ((hb'.below hB1).below hS)).mono ?_
  rintro e' v0 hsay
  obtain ⟨hcase, hBx⟩ := hsay
  have hS := hS.trans (hBx.mono hS.size)
  clear hBx
  rcases hcase with ⟨rfl, hX⟩ | ⟨rfl, hX⟩
  · have H0 := hide hX
    clear hX
    refine ⟨_, rfl, ?_⟩
    simp only [Act.put, List.setIfInBounds_toArray, List.set_cons_zero, List.set_cons_succ]
    refine pl_take (d := some 10) (v := ?_) (by rfl) ?_ rfl ?_
    rotate_left
    · go_simp
      try with_reducible rfl
    simp only [Act.put, List.setIfInBounds_toArray, List.set_cons_zero, List.set_cons_succ]
    refine pl_take (d := some 11) (v := ?_) (by rfl) ?_ rfl ?_
    rotate_left
    · go_simp
      try with_reducible rfl
    simp only [Act.put, List.setIfInBounds_toArray, List.set_cons_zero, List.set_cons_succ]
    refine pl_take (d := some 12) (v := .agg (c.cells).toArray) (by rfl) (ex_mid rfl rfl (range_below a1 hS (by omega)) Tryd.underlying31 rfl ic) rfl ?_
    simp only [Act.put, List.setIfInBounds_toArray, List.set_cons_zero, List.set_cons_succ]
    refine pl_take (d := some 13) (v := ?_) (by rfl) ?_ rfl ?_
    rotate_left
    · go_simp
      try with_reducible rfl
    simp only [Act.put, List.setIfInBounds_toArray, List.set_cons_zero, List.set_cons_succ]
    refine pl_take (d := some 14) (v := .agg (c'.cells).toArray) (by rfl) (ex_mid rfl rfl (range_below b1 hS (by omega)) Tryd.underlying31 rfl ic') rfl ?_
    simp only [Act.put, List.setIfInBounds_toArray, List.set_cons_zero, List.set_cons_succ]
    refine pl_call (d := some 15) (by rfl) (by go_simp; first | done | exact ⟨rfl, rfl⟩ | with_reducible rfl) rfl ?_
    refine (same_cert c c' hlx hly _ ((hc.below hB1).below hS) ((hc'.below hB1).below hS)).mono ?_
    rintro e' v1 hsay
    obtain ⟨hcase, hBx⟩ := hsay
    have hS := hS.trans (hBx.mono hS.size)
    clear hBx
    rcases hcase with ⟨rfl, hX⟩ | ⟨rfl, hX⟩
    · have H1 := hide hX
      clear hX
      refine ⟨_, rfl, ?_⟩
      simp only [Act.put, List.setIfInBounds_toArray, List.set_cons_zero, List.set_cons_succ]
      refine pl_take (d := some 16) (v := ?_) (by rfl) ?_ rfl ?_
      rotate_left
      · go_simp
        try with_reducible rfl
      simp only [Act.put, List.setIfInBounds_toArray, List.set_cons_zero, List.set_cons_succ]
      refine pl_take (d := some 4) (v := ?_) (by rfl) ?_ rfl ?_
      rotate_left
      · go_simp
        try with_reducible rfl
      simp only [Act.put, List.setIfInBounds_toArray, List.set_cons_zero, List.set_cons_succ]
      refine pl_nil ?_
      go_wp2_with fail
      go_ret
      exact Says.yes ⟨H0.out, H1.out⟩ (hB1.trans (hS.mono hB1.size))
    · have H1 := hide hX
      clear hX
      refine ⟨_, rfl, ?_⟩
      simp only [Act.put, List.setIfInBounds_toArray, List.set_cons_zero, List.set_cons_succ]
      refine pl_take (d := some 16) (v := ?_) (by rfl) ?_ rfl ?_
      rotate_left
      · go_simp
        try with_reducible rfl
      simp only [Act.put, List.setIfInBounds_toArray, List.set_cons_zero, List.set_cons_succ]
      refine pl_take (d := some 4) (v := ?_) (by rfl) ?_ rfl ?_
      rotate_left
      · go_simp
        try with_reducible rfl
      simp only [Act.put, List.setIfInBounds_toArray, List.set_cons_zero, List.set_cons_succ]
      refine pl_nil ?_
      go_wp2_with fail
      go_ret
      exact Says.no (fun q => H1.out q.2) (hB1.trans (hS.mono hB1.size))
  · have H0 := hide hX
    clear hX
    refine ⟨_, rfl, ?_⟩
    simp only [Act.put, List.setIfInBounds_toArray, List.set_cons_zero, List.set_cons_succ]
    refine pl_take (d := some 10) (v := ?_) (by rfl) ?_ rfl ?_
    rotate_left
    · go_simp
      try with_reducible rfl
    simp only [Act.put, List.setIfInBounds_toArray, List.set_cons_zero, List.set_cons_succ]
    refine pl_skip (d := some 11) (by rfl) rfl ?_
    simp only [Act.put, List.setIfInBounds_toArray, List.set_cons_zero, List.set_cons_succ]
    refine pl_skip (d := some 12) (by rfl) rfl ?_
    simp only [Act.put, List.setIfInBounds_toArray, List.set_cons_zero, List.set_cons_succ]
    refine pl_skip (d := some 13) (by rfl) rfl ?_
    simp only [Act.put, List.setIfInBounds_toArray, List.set_cons_zero, List.set_cons_succ]
    refine pl_skip (d := some 14) (by rfl) rfl ?_
    simp only [Act.put, List.setIfInBounds_toArray, List.set_cons_zero, List.set_cons_succ]
    refine pl_skip (d := some 15) (by rfl) rfl ?_
    simp only [Act.put, List.setIfInBounds_toArray, List.set_cons_zero, List.set_cons_succ]
    refine pl_take (d := some 16) (v := ?_) (by rfl) ?_ rfl ?_
    rotate_left
    · go_simp
      try with_reducible rfl
    simp only [Act.put, List.setIfInBounds_toArray, List.set_cons_zero, List.set_cons_succ]
    refine pl_take (d := some 4) (v := ?_) (by rfl) ?_ rfl ?_
    rotate_left
    · go_simp
      try with_reducible rfl
    simp only [Act.put, List.setIfInBounds_toArray, List.set_cons_zero, List.set_cons_succ]
    refine pl_nil ?_
    go_wp2_with fail
    go_ret
    exact Says.no (fun q => H0.out q.1) (hB1.trans (hS.mono hB1.size))
set_option maxRecDepth 100000 in
set_option maxHeartbeats 4000000 in
theorem same_entry (n n' : Int) (b b' : Bat) (c c' : Ce) (hlx : c.ss.length ≤ 1000) (hly : c'.ss.length ≤ 1000) (w : World) (hb : b.at w) (hb' : b'.at w) (hc : c.at w) (hc' : c'.at w) : Calls Tryd.prog 28 #[.agg (entC n b c).toArray, .agg (entC n' b' c').toArray] w fun e w' => Says (n = n' ∧ eqBt b b' ∧ eqCe c c') w e w' := by
  have hb0 := two_box (w := w) (entC n b c) (entC n' b' c') 35 35
  have ib : (Tryd.prog.info? 24).map (·.size) = some b.cells.length := iszB
  have ib' : (Tryd.prog.info? 24).map (·.size) = some b'.cells.length := iszB
  have ic : (Tryd.prog.info? 31).map (·.size) = some c.cells.length := by rw [Ce.len hc.v]; exact iszCe
  have ic' : (Tryd.prog.info? 31).map (·.size) = some c'.cells.length := by rw [Ce.len hc'.v]; exact iszCe
  have pX : ∀ {w' : World} {Z : Nat}, w'.rangeAt Z 0 (entC n b c) → w'.cell? ⟨Z, 0, none⟩ = some (.int .i64 n) ∧ w'.rangeAt Z 1 b.cells ∧ w'.rangeAt Z 3 c.cells := fun h => by have := ent_parts h; simpa using this
  have pY : ∀ {w' : World} {Z : Nat}, w'.rangeAt Z 0 (entC n' b' c') → w'.cell? ⟨Z, 0, none⟩ = some (.int .i64 n') ∧ w'.rangeAt Z 1 b'.cells ∧ w'.rangeAt Z 3 c'.cells := fun h => by have := ent_parts h; simpa using this
  obtain ⟨u, hu⟩ : ∃ u, Hid (entC n b c = u) := ⟨_, hide rfl⟩
  obtain ⟨v, hv⟩ : ∃ v, Hid (entC n' b' c' = v) := ⟨_, hide rfl⟩
  simp only [hu.out] at pX
  simp only [hv.out] at pY
  rw [hu.out, hv.out] at hb0 ⊢
  clear hu hv
  go_enter Tryd.func28, Tryd.ntmps28
  go_upto_region 1 with fail
  go_name_world w1 hw1
  rw [hw1] at hb0
  clear hw1
  obtain ⟨hB1, hR1, hR2, hsz1⟩ := hb0
  obtain ⟨a0, a1, a2⟩ := pX hR1
  obtain ⟨b0, b1, b2⟩ := pY hR2
  clear pX pY
  have hS : Below w1.heap.size w1 w1 := Below.refl _ _
  try simp only [Act.put]
  refine pl_begin ?_
  refine pl_take (d := some 5) (v := ?_) (by rfl) ?_ rfl ?_
  rotate_left
  · go_simp
    try with_reducible rfl
  simp only [Act.put, List.setIfInBounds_toArray, List.set_cons_zero, List.set_cons_succ]
  refine pl_take (d := some 6) (v := _) (by rfl) (pl_one rfl rfl ((hS.cell (p := ⟨w.heap.size, 0, none⟩) (by simp only; omega)).trans a0) Tryd.underlying3 rfl) rfl ?_
  simp only [Act.put, List.setIfInBounds_toArray, List.set_cons_zero, List.set_cons_succ]
  refine pl_take (d := some 7) (v := ?_) (by rfl) ?_ rfl ?_
  rotate_left
  · go_simp
    try with_reducible rfl
  simp only [Act.put, List.setIfInBounds_toArray, List.set_cons_zero, List.set_cons_succ]
  refine pl_take (d := some 8) (v := _) (by rfl) (pl_one rfl rfl ((hS.cell (p := ⟨w.heap.size + 1, 0, none⟩) (by simp only; omega)).trans b0) Tryd.underlying3 rfl) rfl ?_
  simp only [Act.put, List.setIfInBounds_toArray, List.set_cons_zero, List.set_cons_succ]
  by_cases hX : n = n'
  · have hq : (n == n') = true := by simpa using hX
    have H0 := hide hX
    clear hX
    refine pl_take (d := some 9) (v := ?_) (by rfl) ?_ rfl ?_
    rotate_left
    · go_simp
      try with_reducible rfl
    simp only [Act.put, List.setIfInBounds_toArray, List.set_cons_zero, List.set_cons_succ]
    refine pl_take (d := some 10) (v := ?_) (by rfl) ?_ rfl ?_
    rotate_left
    · go_simp
      try with_reducible rfl
    simp only [Act.put, List.setIfInBounds_toArray, List.set_cons_zero, List.set_cons_succ]
    refine pl_take (d := some 11) (v := ?_) (by rfl) ?_ rfl ?_
    rotate_left
    · go_simp
      try with_reducible rfl
    simp only [Act.put, List.setIfInBounds_toArray, List.set_cons_zero, List.set_cons_succ]
    refine pl_take (d := some 12) (v := .agg (b.cells).toArray) (by rfl) (ex_mid rfl rfl (range_below a1 hS (by omega)) Tryd.underlying24 rfl ib) rfl ?_
    simp only [Act.put, List.setIfInBounds_toArray, List.set_cons_zero, List.set_cons_succ]
    refine pl_take (d := some 13) (v := ?_) (by rfl) ?_ rfl ?_
    rotate_left
    · go_simp
      try with_reducible rfl
    simp only [Act.put, List.setIfInBounds_toArray, List.set_cons_zero, List.set_cons_succ]
    refine pl_take (d := some 14) (v := .agg (b'.cells).toArray) (by rfl) (ex_mid rfl rfl (range_below b1 hS (by omega)) Tryd.underlying24 rfl ib') rfl ?_
    simp only [Act.put, List.setIfInBounds_toArray, List.set_cons_zero, List.set_cons_succ]
    refine pl_call (d := some 15) (by rfl) (by go_simp; first | done | exact ⟨rfl, rfl⟩ | with_reducible rfl) rfl ?_
    refine (b.same_any b' _ ((hb.below hB1).below hS) ((hb'.below hB1).below hS)).mono ?_
    rintro e' v1 hsay
    obtain ⟨hcase, hBx⟩ := hsay
    have hS := hS.trans (hBx.mono hS.size)
    clear hBx
    rcases hcase with ⟨rfl, hX⟩ | ⟨rfl, hX⟩
    · have H1 := hide hX
      clear hX
      refine ⟨_, rfl, ?_⟩
      simp only [Act.put, List.setIfInBounds_toArray, List.set_cons_zero, List.set_cons_succ]
      refine pl_take (d := some 16) (v := ?_) (by rfl) ?_ rfl ?_
      rotate_left
      · go_simp
        try with_reducible rfl
      simp only [Act.put, List.setIfInBounds_toArray, List.set_cons_zero, List.set_cons_succ]
      refine pl_take (d := some 17) (v := ?_) (by rfl) ?_ rfl ?_
      rotate_left
      · go_simp
        try with_reducible rfl
      simp only [Act.put, List.setIfInBounds_toArray, List.set_cons_zero, List.set_cons_succ]
      refine pl_take (d := some 18) (v := ?_) (by rfl) ?_ rfl ?_
      rotate_left
      · go_simp
        try with_reducible rfl
      simp only [Act.put, List.setIfInBounds_toArray, List.set_cons_zero, List.set_cons_succ]
      refine pl_take (d := some 19) (v := .agg (c.cells).toArray) (by rfl) (ex_mid rfl rfl (range_below a2 hS (by omega)) Tryd.underlying31 rfl ic) rfl ?_
      simp only [Act.put, List.setIfInBounds_toArray, List.set_cons_zero, List.set_cons_succ]
      refine pl_take (d := some 20) (v := ?_) (by rfl) ?_ rfl ?_
      rotate_left
      · go_simp
        try with_reducible rfl
      simp only [Act.put, List.setIfInBounds_toArray, List.set_cons_zero, List.set_cons_succ]
      refine pl_take (d := some 21) (v := .agg (c'.cells).toArray) (by rfl) (ex_mid rfl rfl (range_below b2 hS (by omega)) Tryd.underlying31 rfl ic') rfl ?_
      simp only [Act.put, List.setIfInBounds_toArray, List.set_cons_zero, List.set_cons_succ]
      refine pl_call (d := some 22) (by rfl) (by go_simp; first | done | exact ⟨rfl, rfl⟩ | with_reducible rfl) rfl ?_
      refine (same_cert c c' hlx hly _ ((hc.below hB1).below hS) ((hc'.below hB1).below hS)).mono ?_
      rintro e' v2 hsay
      obtain ⟨hcase, hBx⟩ := hsay
      have hS := hS.trans (hBx.mono hS.size)
      clear hBx
      rcases hcase with ⟨rfl, hX⟩ | ⟨rfl, hX⟩
      · have H2 := hide hX
        clear hX
        refine ⟨_, rfl, ?_⟩
        simp only [Act.put, List.setIfInBounds_toArray, List.set_cons_zero, List.set_cons_succ]
        refine pl_take (d := some 23) (v := ?_) (by rfl) ?_ rfl ?_
        rotate_left
        · go_simp
          try with_reducible rfl
        simp only [Act.put, List.setIfInBounds_toArray, List.set_cons_zero, List.set_cons_succ]
        refine pl_take (d := some 4) (v := ?_) (by rfl) ?_ rfl ?_
        rotate_left
        · go_simp
          try with_reducible rfl
        simp only [Act.put, List.setIfInBounds_toArray, List.set_cons_zero, List.set_cons_succ]
        refine pl_nil ?_
        go_wp2_with fail
        go_ret
        exact Says.yes ⟨H0.out, H1.out, H2.out⟩ (hB1.trans (hS.mono hB1.size))
      · have H2 := hide hX
        clear hX
        refine ⟨_, rfl, ?_⟩
        simp only [Act.put, List.setIfInBounds_toArray, List.set_cons_zero, List.set_cons_succ]
        refine pl_take (d := some 23) (v := ?_) (by rfl) ?_ rfl ?_
        rotate_left
        · go_simp
          try with_reducible rfl
        simp only [Act.put, List.setIfInBounds_toArray, List.set_cons_zero, List.set_cons_succ]
        refine pl_take (d := some 4) (v := ?_) (by rfl) ?_ rfl ?_
        rotate_left
        · go_simp
          try with_reducible rfl
        simp only [Act.put, List.setIfInBounds_toArray, List.set_cons_zero, List.set_cons_succ]
        refine pl_nil ?_
        go_wp2_with fail
        go_ret
        exact Says.no (fun q => H2.out q.2.2) (hB1.trans (hS.mono hB1.size))
    · have H1 := hide hX
      clear hX
      refine ⟨_, rfl, ?_⟩
      simp only [Act.put, List.setIfInBounds_toArray, List.set_cons_zero, List.set_cons_succ]
      refine pl_take (d := some 16) (v := ?_) (by rfl) ?_ rfl ?_
      rotate_left
      · go_simp
        try with_reducible rfl
      simp only [Act.put, List.setIfInBounds_toArray, List.set_cons_zero, List.set_cons_succ]
      refine pl_take (d := some 17) (v := ?_) (by rfl) ?_ rfl ?_
      rotate_left
      · go_simp
        try with_reducible rfl
      simp only [Act.put, List.setIfInBounds_toArray, List.set_cons_zero, List.set_cons_succ]
      refine pl_skip (d := some 18) (by rfl) rfl ?_
      simp only [Act.put, List.setIfInBounds_toArray, List.set_cons_zero, List.set_cons_succ]
      refine pl_skip (d := some 19) (by rfl) rfl ?_
      simp only [Act.put, List.setIfInBounds_toArray, List.set_cons_zero, List.set_cons_succ]
      refine pl_skip (d := some 20) (by rfl) rfl ?_
      simp only [Act.put, List.setIfInBounds_toArray, List.set_cons_zero, List.set_cons_succ]
      refine pl_skip (d := some 21) (by rfl) rfl ?_
      simp only [Act.put, List.setIfInBounds_toArray, List.set_cons_zero, List.set_cons_succ]
      refine pl_skip (d := some 22) (by rfl) rfl ?_
      simp only [Act.put, List.setIfInBounds_toArray, List.set_cons_zero, List.set_cons_succ]
      refine pl_take (d := some 23) (v := ?_) (by rfl) ?_ rfl ?_
      rotate_left
      · go_simp
        try with_reducible rfl
      simp only [Act.put, List.setIfInBounds_toArray, List.set_cons_zero, List.set_cons_succ]
      refine pl_take (d := some 4) (v := ?_) (by rfl) ?_ rfl ?_
      rotate_left
      · go_simp
        try with_reducible rfl
      simp only [Act.put, List.setIfInBounds_toArray, List.set_cons_zero, List.set_cons_succ]
      refine pl_nil ?_
      go_wp2_with fail
      go_ret
      exact Says.no (fun q => H1.out q.2.1) (hB1.trans (hS.mono hB1.size))
  · have hq : (n == n') = false := by simpa using hX
    have H0 := hide hX
    clear hX
    refine pl_take (d := some 9) (v := ?_) (by rfl) ?_ rfl ?_
    rotate_left
    · go_simp
      try with_reducible rfl
    simp only [Act.put, List.setIfInBounds_toArray, List.set_cons_zero, List.set_cons_succ]
    refine pl_take (d := some 10) (v := ?_) (by rfl) ?_ rfl ?_
    rotate_left
    · go_simp
      try with_reducible rfl
    simp only [Act.put, List.setIfInBounds_toArray, List.set_cons_zero, List.set_cons_succ]
    refine pl_skip (d := some 11) (by rfl) rfl ?_
    simp only [Act.put, List.setIfInBounds_toArray, List.set_cons_zero, List.set_cons_succ]
    refine pl_skip (d := some 12) (by rfl) rfl ?_
    simp only [Act.put, List.setIfInBounds_toArray, List.set_cons_zero, List.set_cons_succ]
    refine pl_skip (d := some 13) (by rfl) rfl ?_
    simp only [Act.put, List.setIfInBounds_toArray, List.set_cons_zero, List.set_cons_succ]
    refine pl_skip (d := some 14) (by rfl) rfl ?_
    simp only [Act.put, List.setIfInBounds_toArray, List.set_cons_zero, List.set_cons_succ]
    refine pl_skip (d := some 15) (by rfl) rfl ?_
    simp only [Act.put, List.setIfInBounds_toArray, List.set_cons_zero, List.set_cons_succ]
    refine pl_take (d := some 16) (v := ?_) (by rfl) ?_ rfl ?_
    rotate_left
    · go_simp
      try with_reducible rfl
    simp only [Act.put, List.setIfInBounds_toArray, List.set_cons_zero, List.set_cons_succ]
    refine pl_take (d := some 17) (v := ?_) (by rfl) ?_ rfl ?_
    rotate_left
    · go_simp
      try with_reducible rfl
    simp only [Act.put, List.setIfInBounds_toArray, List.set_cons_zero, List.set_cons_succ]
    refine pl_skip (d := some 18) (by rfl) rfl ?_
    simp only [Act.put, List.setIfInBounds_toArray, List.set_cons_zero, List.set_cons_succ]
    refine pl_skip (d := some 19) (by rfl) rfl ?_
    simp only [Act.put, List.setIfInBounds_toArray, List.set_cons_zero, List.set_cons_succ]
    refine pl_skip (d := some 20) (by rfl) rfl ?_
    simp only [Act.put, List.setIfInBounds_toArray, List.set_cons_zero, List.set_cons_succ]
    refine pl_skip (d := some 21) (by rfl) rfl ?_
    simp only [Act.put, List.setIfInBounds_toArray, List.set_cons_zero, List.set_cons_succ]
    refine pl_skip (d := some 22) (by rfl) rfl ?_
    simp only [Act.put, List.setIfInBounds_toArray, List.set_cons_zero, List.set_cons_succ]
    refine pl_take (d := some 23) (v := ?_) (by rfl) ?_ rfl ?_
    rotate_left
    · go_simp
      try with_reducible rfl
    simp only [Act.put, List.setIfInBounds_toArray, List.set_cons_zero, List.set_cons_succ]
    refine pl_take (d := some 4) (v := ?_) (by rfl) ?_ rfl ?_
    rotate_left
    · go_simp
      try with_reducible rfl
    simp only [Act.put, List.setIfInBounds_toArray, List.set_cons_zero, List.set_cons_succ]
    refine pl_nil ?_
    go_wp2_with fail
    go_ret
    exact Says.no (fun q => H0.out q.1) (hB1.trans (hS.mono hB1.size))
set_option maxRecDepth 100000 in
set_option maxHeartbeats 4000000 in
theorem xsame_entry (n n' : Int) (b b' : Bat) (c c' : Ce) (hlx : c.ss.length ≤ 1000) (hly : c'.ss.length ≤ 1000) (w : World) (hb : b.at w) (hb' : b'.at w) (hc : c.at w) (hc' : c'.at w) : Calls Tryd.prog 20 #[.agg (entC n b c).toArray, .agg (entC n' b' c').toArray] w fun e w' => Says (n = n' ∧ eqBt b b' ∧ eqCe c c') w e w' := by
  have hb0 := two_box (w := w) (entC n b c) (entC n' b' c') 35 35
  have ib : (Tryd.prog.info? 24).map (·.size) = some b.cells.length := iszB
  have ib' : (Tryd.prog.info? 24).map (·.size) = some b'.cells.length := iszB
  have ic : (Tryd.prog.info? 31).map (·.size) = some c.cells.length := by rw [Ce.len hc.v]; exact iszCe
  have ic' : (Tryd.prog.info? 31).map (·.size) = some c'.cells.length := by rw [Ce.len hc'.v]; exact iszCe
  have pX : ∀ {w' : World} {Z : Nat}, w'.rangeAt Z 0 (entC n b c) → w'.cell? ⟨Z, 0, none⟩ = some (.int .i64 n) ∧ w'.rangeAt Z 1 b.cells ∧ w'.rangeAt Z 3 c.cells := fun h => by have := ent_parts h; simpa using this
  have pY : ∀ {w' : World} {Z : Nat}, w'.rangeAt Z 0 (entC n' b' c') → w'.cell? ⟨Z, 0, none⟩ = some (.int .i64 n') ∧ w'.rangeAt Z 1 b'.cells ∧ w'.rangeAt Z 3 c'.cells := fun h => by have := ent_parts h; simpa using this
  obtain ⟨u, hu⟩ : ∃ u, Hid (entC n b c = u) := ⟨_, hide rfl⟩
  obtain ⟨v, hv⟩ : ∃ v, Hid (entC n' b' c' = v) := ⟨_, hide rfl⟩
  simp only [hu.out] at pX
  simp only [hv.out] at pY
  rw [hu.out, hv.out] at hb0 ⊢
  clear hu hv
  go_enter Tryd.func20, Tryd.ntmps20
  go_upto_region 1 with fail
  go_name_world w1 hw1
  rw [hw1] at hb0
  clear hw1
  obtain ⟨hB1, hR1, hR2, hsz1⟩ := hb0
  obtain ⟨a0, a1, a2⟩ := pX hR1
  obtain ⟨b0, b1, b2⟩ := pY hR2
  clear pX pY
  have hS : Below w1.heap.size w1 w1 := Below.refl _ _
  try simp only [Act.put]
  refine pl_begin ?_
  refine pl_take (d := some 5) (v := ?_) (by rfl) ?_ rfl ?_
  rotate_left
  · go_simp
    try with_reducible rfl
  simp only [Act.put, List.setIfInBounds_toArray, List.set_cons_zero, List.set_cons_succ]
  refine pl_take (d := some 6) (v := _) (by rfl) (pl_one rfl rfl ((hS.cell (p := ⟨w.heap.size, 0, none⟩) (by simp only; omega)).trans a0) Tryd.underlying3 rfl) rfl ?_
  simp only [Act.put, List.setIfInBounds_toArray, List.set_cons_zero, List.set_cons_succ]
  refine pl_take (d := some 7) (v := ?_) (by rfl) ?_ rfl ?_
  rotate_left
  · go_simp
    try with_reducible rfl
  simp only [Act.put, List.setIfInBounds_toArray, List.set_cons_zero, List.set_cons_succ]
  refine pl_take (d := some 8) (v := _) (by rfl) (pl_one rfl rfl ((hS.cell (p := ⟨w.heap.size + 1, 0, none⟩) (by simp only; omega)).trans b0) Tryd.underlying3 rfl) rfl ?_
  simp only [Act.put, List.setIfInBounds_toArray, List.set_cons_zero, List.set_cons_succ]
  by_cases hX : n = n'
  · have hq : (n == n') = true := by simpa using hX
    have H0 := hide hX
    clear hX
    refine pl_take (d := some 9) (v := ?_) (by rfl) ?_ rfl ?_
    rotate_left
    · go_simp
      try with_reducible rfl
    simp only [Act.put, List.setIfInBounds_toArray, List.set_cons_zero, List.set_cons_succ]
    refine pl_take (d := some 10) (v := ?_) (by rfl) ?_ rfl ?_
    rotate_left
    · go_simp
      try with_reducible rfl
    simp only [Act.put, List.setIfInBounds_toArray, List.set_cons_zero, List.set_cons_succ]
    refine pl_take (d := some 11) (v := ?_) (by rfl) ?_ rfl ?_
    rotate_left
    · go_simp
      try with_reducible rfl
    simp only [Act.put, List.setIfInBounds_toArray, List.set_cons_zero, List.set_cons_succ]
    refine pl_take (d := some 12) (v := .agg (b.cells).toArray) (by rfl) (ex_mid rfl rfl (range_below a1 hS (by omega)) Tryd.underlying24 rfl ib) rfl ?_
    simp only [Act.put, List.setIfInBounds_toArray, List.set_cons_zero, List.set_cons_succ]
    refine pl_take (d := some 13) (v := ?_) (by rfl) ?_ rfl ?_
    rotate_left
    · go_simp
      try with_reducible rfl
    simp only [Act.put, List.setIfInBounds_toArray, List.set_cons_zero, List.set_cons_succ]
    refine pl_take (d := some 14) (v := .agg (b'.cells).toArray) (by rfl) (ex_mid rfl rfl (range_below b1 hS (by omega)) Tryd.underlying24 rfl ib') rfl ?_
    simp only [Act.put, List.setIfInBounds_toArray, List.set_cons_zero, List.set_cons_succ]
    refine pl_call (d := some 15) (by rfl) (by go_simp; first | done | exact ⟨rfl, rfl⟩ | with_reducible rfl) rfl ?_
    refine (b.xsame_any b' _ ((hb.below hB1).below hS) ((hb'.below hB1).below hS)).mono ?_
    rintro e' v1 hsay
    obtain ⟨hcase, hBx⟩ := hsay
    have hS := hS.trans (hBx.mono hS.size)
    clear hBx
    rcases hcase with ⟨rfl, hX⟩ | ⟨rfl, hX⟩
    · have H1 := hide hX
      clear hX
      refine ⟨_, rfl, ?_⟩
      simp only [Act.put, List.setIfInBounds_toArray, List.set_cons_zero, List.set_cons_succ]
      refine pl_take (d := some 16) (v := ?_) (by rfl) ?_ rfl ?_
      rotate_left
      · go_simp
        try with_reducible rfl
      simp only [Act.put, List.setIfInBounds_toArray, List.set_cons_zero, List.set_cons_succ]
      refine pl_take (d := some 17) (v := ?_) (by rfl) ?_ rfl ?_
      rotate_left
      · go_simp
        try with_reducible rfl
      simp only [Act.put, List.setIfInBounds_toArray, List.set_cons_zero, List.set_cons_succ]
      refine pl_take (d := some 18) (v := ?_) (by rfl) ?_ rfl ?_
      rotate_left
      · go_simp
        try with_reducible rfl
      simp only [Act.put, List.setIfInBounds_toArray, List.set_cons_zero, List.set_cons_succ]
      refine pl_take (d := some 19) (v := .agg (c.cells).toArray) (by rfl) (ex_mid rfl rfl (range_below a2 hS (by omega)) Tryd.underlying31 rfl ic) rfl ?_
      simp only [Act.put, List.setIfInBounds_toArray, List.set_cons_zero, List.set_cons_succ]
      refine pl_take (d := some 20) (v := ?_) (by rfl) ?_ rfl ?_
      rotate_left
      · go_simp
        try with_reducible rfl
      simp only [Act.put, List.setIfInBounds_toArray, List.set_cons_zero, List.set_cons_succ]
      refine pl_take (d := some 21) (v := .agg (c'.cells).toArray) (by rfl) (ex_mid rfl rfl (range_below b2 hS (by omega)) Tryd.underlying31 rfl ic') rfl ?_
      simp only [Act.put, List.setIfInBounds_toArray, List.set_cons_zero, List.set_cons_succ]
      refine pl_call (d := some 22) (by rfl) (by go_simp; first | done | exact ⟨rfl, rfl⟩ | with_reducible rfl) rfl ?_
      refine (xsame_cert c c' hlx hly _ ((hc.below hB1).below hS) ((hc'.below hB1).below hS)).mono ?_
      rintro e' v2 hsay
      obtain ⟨hcase, hBx⟩ := hsay
      have hS := hS.trans (hBx.mono hS.size)
      clear hBx
      rcases hcase with ⟨rfl, hX⟩ | ⟨rfl, hX⟩
      · have H2 := hide hX
        clear hX
        refine ⟨_, rfl, ?_⟩
        simp only [Act.put, List.setIfInBounds_toArray, List.set_cons_zero, List.set_cons_succ]
        refine pl_take (d := some 23) (v := ?_) (by rfl) ?_ rfl ?_
        rotate_left
        · go_simp
          try with_reducible rfl
        simp only [Act.put, List.setIfInBounds_toArray, List.set_cons_zero, List.set_cons_succ]
        refine pl_take (d := some 4) (v := ?_) (by rfl) ?_ rfl ?_
        rotate_left
        · go_simp
          try with_reducible rfl
        simp only [Act.put, List.setIfInBounds_toArray, List.set_cons_zero, List.set_cons_succ]
        refine pl_nil ?_
        go_wp2_with fail
        go_ret
        exact Says.yes ⟨H0.out, H1.out, H2.out⟩ (hB1.trans (hS.mono hB1.size))
      · have H2 := hide hX
        clear hX
        refine ⟨_, rfl, ?_⟩
        simp only [Act.put, List.setIfInBounds_toArray, List.set_cons_zero, List.set_cons_succ]
        refine pl_take (d := some 23) (v := ?_) (by rfl) ?_ rfl ?_
        rotate_left
        · go_simp
          try with_reducible rfl
        simp only [Act.put, List.setIfInBounds_toArray, List.set_cons_zero, List.set_cons_succ]
        refine pl_take (d := some 4) (v := ?_) (by rfl) ?_ rfl ?_
        rotate_left
        · go_simp
          try with_reducible rfl
        simp only [Act.put, List.setIfInBounds_toArray, List.set_cons_zero, List.set_cons_succ]
        refine pl_nil ?_
        go_wp2_with fail
        go_ret
        exact Says.no (fun q => H2.out q.2.2) (hB1.trans (hS.mono hB1.size))
    · have H1 := hide hX
      clear hX
      refine ⟨_, rfl, ?_⟩
      simp only [Act.put, List.setIfInBounds_toArray, List.set_cons_zero, List.set_cons_succ]
      refine pl_take (d := some 16) (v := ?_) (by rfl) ?_ rfl ?_
      rotate_left
      · go_simp
        try with_reducible rfl
      simp only [Act.put, List.setIfInBounds_toArray, List.set_cons_zero, List.set_cons_succ]
      refine pl_take (d := some 17) (v := ?_) (by rfl) ?_ rfl ?_
      rotate_left
      · go_simp
        try with_reducible rfl
      simp only [Act.put, List.setIfInBounds_toArray, List.set_cons_zero, List.set_cons_succ]
      refine pl_skip (d := some 18) (by rfl) rfl ?_
      simp only [Act.put, List.setIfInBounds_toArray, List.set_cons_zero, List.set_cons_succ]
      refine pl_skip (d := some 19) (by rfl) rfl ?_
      simp only [Act.put, List.setIfInBounds_toArray, List.set_cons_zero, List.set_cons_succ]
      refine pl_skip (d := some 20) (by rfl) rfl ?_
      simp only [Act.put, List.setIfInBounds_toArray, List.set_cons_zero, List.set_cons_succ]
      refine pl_skip (d := some 21) (by rfl) rfl ?_
      simp only [Act.put, List.setIfInBounds_toArray, List.set_cons_zero, List.set_cons_succ]
      refine pl_skip (d := some 22) (by rfl) rfl ?_
      simp only [Act.put, List.setIfInBounds_toArray, List.set_cons_zero, List.set_cons_succ]
      refine pl_take (d := some 23) (v := ?_) (by rfl) ?_ rfl ?_
      rotate_left
      · go_simp
        try with_reducible rfl
      simp only [Act.put, List.setIfInBounds_toArray, List.set_cons_zero, List.set_cons_succ]
      refine pl_take (d := some 4) (v := ?_) (by rfl) ?_ rfl ?_
      rotate_left
      · go_simp
        try with_reducible rfl
      simp only [Act.put, List.setIfInBounds_toArray, List.set_cons_zero, List.set_cons_succ]
      refine pl_nil ?_
      go_wp2_with fail
      go_ret
      exact Says.no (fun q => H1.out q.2.1) (hB1.trans (hS.mono hB1.size))
  · have hq : (n == n') = false := by simpa using hX
    have H0 := hide hX
    clear hX
    refine pl_take (d := some 9) (v := ?_) (by rfl) ?_ rfl ?_
    rotate_left
    · go_simp
      try with_reducible rfl
    simp only [Act.put, List.setIfInBounds_toArray, List.set_cons_zero, List.set_cons_succ]
    refine pl_take (d := some 10) (v := ?_) (by rfl) ?_ rfl ?_
    rotate_left
    · go_simp
      try with_reducible rfl
    simp only [Act.put, List.setIfInBounds_toArray, List.set_cons_zero, List.set_cons_succ]
    refine pl_skip (d := some 11) (by rfl) rfl ?_
    simp only [Act.put, List.setIfInBounds_toArray, List.set_cons_zero, List.set_cons_succ]
    refine pl_skip (d := some 12) (by rfl) rfl ?_
    simp only [Act.put, List.setIfInBounds_toArray, List.set_cons_zero, List.set_cons_succ]
    refine pl_skip (d := some 13) (by rfl) rfl ?_
    simp only [Act.put, List.setIfInBounds_toArray, List.set_cons_zero, List.set_cons_succ]
    refine pl_skip (d := some 14) (by rfl) rfl ?_
    simp only [Act.put, List.setIfInBounds_toArray, List.set_cons_zero, List.set_cons_succ]
    refine pl_skip (d := some 15) (by rfl) rfl ?_
    simp only [Act.put, List.setIfInBounds_toArray, List.set_cons_zero, List.set_cons_succ]
    refine pl_take (d := some 16) (v := ?_) (by rfl) ?_ rfl ?_
    rotate_left
    · go_simp
      try with_reducible rfl
    simp only [Act.put, List.setIfInBounds_toArray, List.set_cons_zero, List.set_cons_succ]
    refine pl_take (d := some 17) (v := ?_) (by rfl) ?_ rfl ?_
    rotate_left
    · go_simp
      try with_reducible rfl
    simp only [Act.put, List.setIfInBounds_toArray, List.set_cons_zero, List.set_cons_succ]
    refine pl_skip (d := some 18) (by rfl) rfl ?_
    simp only [Act.put, List.setIfInBounds_toArray, List.set_cons_zero, List.set_cons_succ]
    refine pl_skip (d := some 19) (by rfl) rfl ?_
    simp only [Act.put, List.setIfInBounds_toArray, List.set_cons_zero, List.set_cons_succ]
    refine pl_skip (d := some 20) (by rfl) rfl ?_
    simp only [Act.put, List.setIfInBounds_toArray, List.set_cons_zero, List.set_cons_succ]
    refine pl_skip (d := some 21) (by rfl) rfl ?_
    simp only [Act.put, List.setIfInBounds_toArray, List.set_cons_zero, List.set_cons_succ]
    refine pl_skip (d := some 22) (by rfl) rfl ?_
    simp only [Act.put, List.setIfInBounds_toArray, List.set_cons_zero, List.set_cons_succ]
    refine pl_take (d := some 23) (v := ?_) (by rfl) ?_ rfl ?_
    rotate_left
    · go_simp
      try with_reducible rfl
    simp only [Act.put, List.setIfInBounds_toArray, List.set_cons_zero, List.set_cons_succ]
    refine pl_take (d := some 4) (v := ?_) (by rfl) ?_ rfl ?_
    rotate_left
    · go_simp
      try with_reducible rfl
    simp only [Act.put, List.setIfInBounds_toArray, List.set_cons_zero, List.set_cons_succ]
    refine pl_nil ?_
    go_wp2_with fail
    go_ret
    exact Says.no (fun q => H0.out q.1) (hB1.trans (hS.mono hB1.size))
end Go.Proofs.YtogmkcabndgllaaDoor
